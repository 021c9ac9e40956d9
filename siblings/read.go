package siblings

import (
	"strings"
	"sync"

	"siblings/api"
	"siblings/keep"
)

// question is what a read asks for one of its keys.
type question struct {
	part  *keep.Part
	asked bool
	told  keep.Told // from when it is asked on, whatever is committed behind that
}

// read is one that was begun. It has a mutex of its own, so that two reads wait for each other only where they meet on a part.
type read struct {
	mu          sync.Mutex
	numbersOnly bool                 // its first questions carry nothing along
	keys        []string             // in the order of the answers
	questions   map[string]*question // by key
}

// add gives the read a key. It is copied, because its bytes are the caller's.
func (r *read) add(key string, part *keep.Part) {
	own := strings.Clone(key)
	r.keys = append(r.keys, own)
	r.questions[own] = &question{part: part}
}

func (r *read) ask(key string) api.Errno {
	r.mu.Lock()
	defer r.mu.Unlock()
	here, ok := r.questions[key]
	if !ok {
		return api.ErrKey
	}
	if here.asked {
		return api.ErrDone
	}
	if r.numbersOnly {
		here.told = here.part.Visible(key)
	} else {
		here.told = here.part.Tell(key)
	}
	here.asked = true
	return api.OK
}

func (r *read) isAllAsked() bool {
	r.mu.Lock()
	defer r.mu.Unlock()
	for _, each := range r.questions {
		if !each.asked {
			return false
		}
	}
	return true
}

// finish tells the answers, and how many second questions they took. It needs no mutex: a read of which all is asked changes no more.
func (r *read) finish() ([]api.Answer, int) {
	answers := make([]api.Answer, len(r.keys))
	candidates := r.candidates()
	asked := 0
	var all sync.WaitGroup
	for i, key := range r.keys {
		here := r.questions[key]
		if r.isToldEnough(key) {
			answers[i] = newAnswer(key, here.told.Write, here.told.Value)
			continue
		}
		asked++
		all.Go(func() {
			write, value := here.part.Greatest(key, candidates)
			answers[i] = newAnswer(key, write, value)
		})
	}
	all.Wait()
	return answers, asked
}

// candidates come in no order: they are only looked through for the greatest.
func (r *read) candidates() []int {
	var found []int
	for _, each := range r.questions {
		found = append(found, each.told.Write)
	}
	return found
}

// isToldEnough tells if the first questions alone show a key's chosen write and its value.
func (r *read) isToldEnough(key string) bool {
	own := r.questions[key].told
	if own.Write != 0 && !own.HasValue {
		return false
	}
	for _, other := range r.questions {
		if other.told.Write > own.Write && other.told.MayWrite(key) {
			return false
		}
	}
	return true
}

// newAnswer copies the value, because the part goes on keeping it; the key ends with the read.
func newAnswer(key string, write int, value string) api.Answer {
	return api.Answer{Key: key, Write: write, Value: strings.Clone(value)}
}
