package siblings

import (
	"strings"
	"sync"

	"siblings/api"
	"siblings/keep"
)

// question is the first question that a read asks for one of its keys.
type question struct {
	part      *keep.Part
	asked     bool
	candidate int // from when it is asked on, whatever is committed behind that
}

// read is one that was begun. It has a mutex of its own, so that two reads wait for each other only where they meet on a part.
type read struct {
	mu        sync.Mutex
	questions map[string]*question // by key: its keys, and no others
}

// add gives the read a key. It is copied, because its bytes are the caller's.
func (r *read) add(key string, part *keep.Part) {
	r.questions[strings.Clone(key)] = &question{part: part}
}

func (r *read) ask(key string) api.Errno {
	r.mu.Lock()
	defer r.mu.Unlock()
	here, ok := r.questions[key]
	if !ok {
		return api.ErrKey
	}
	if here.asked {
		return api.ErrDone
	}
	here.asked, here.candidate = true, here.part.Visible(key)
	return api.OK
}
