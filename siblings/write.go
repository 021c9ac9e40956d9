package siblings

import (
	"sync"

	"siblings/api"
	"siblings/keep"
)

// stage is how far a write has come on a part.
type stage int

const (
	waiting stage = iota
	prepared
	committed
)

// share is what a write has to do on one of its parts.
type share struct {
	part  *keep.Part
	stage stage
	items []api.Item // until it is prepared: from then on the part has them
}

// write is one that was begun. It has a mutex of its own, so that two writes wait for each other only where they meet on a part.
type write struct {
	mu        sync.Mutex
	number    int
	siblings  keep.Siblings
	cancelled bool           // for a call that found the write just before it was cancelled
	shares    map[int]*share // by part: its parts, and no others
}

// add gives the write an item, which becomes its own, on the part with that number.
func (w *write) add(at int, part *keep.Part, item api.Item) {
	here, ok := w.shares[at]
	if !ok {
		here = &share{part: part}
		w.shares[at] = here
	}
	here.items = append(here.items, item)
}

func (w *write) prepare(part int) api.Errno {
	w.mu.Lock()
	defer w.mu.Unlock()
	here, e := w.shareOn(part)
	if e != api.OK {
		return e
	}
	if here.stage != waiting {
		return api.ErrDone
	}
	here.part.Prepare(w.number, here.items, w.siblings)
	here.stage, here.items = prepared, nil
	return api.OK
}

func (w *write) commit(part int) api.Errno {
	w.mu.Lock()
	defer w.mu.Unlock()
	here, e := w.shareOn(part)
	if e != api.OK {
		return e
	}
	if w.anyAt(waiting) {
		return api.ErrOrder
	}
	if here.stage == committed {
		return api.ErrDone
	}
	here.part.Commit(w.number)
	here.stage = committed
	return api.OK
}

func (w *write) cancel() api.Errno {
	w.mu.Lock()
	defer w.mu.Unlock()
	if w.cancelled {
		return api.ErrNone
	}
	if w.anyAt(committed) {
		return api.ErrOrder
	}
	w.cancelled = true
	for _, each := range w.shares {
		each.part.Drop(w.number)
	}
	return api.OK
}

// shareOn finds the share on a part; the caller holds the mutex.
func (w *write) shareOn(part int) (*share, api.Errno) {
	if w.cancelled {
		return nil, api.ErrNone
	}
	here, ok := w.shares[part]
	if !ok {
		return nil, api.ErrPart
	}
	return here, api.OK
}

// anyAt tells if some share is at this stage; the caller holds the mutex.
func (w *write) anyAt(at stage) bool {
	for _, each := range w.shares {
		if each.stage == at {
			return true
		}
	}
	return false
}
