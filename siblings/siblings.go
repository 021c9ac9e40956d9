// Package siblings: what was written together is read together, though nobody waits: see DOC.md.
package siblings

import (
	"strings"
	"sync"

	"siblings/api"
	"siblings/keep"
)

// Store keeps values by keys on some parts.
type Store struct {
	mode  api.Mode
	parts []*keep.Part // the list is never changed, so it needs no mutex

	mu        sync.Mutex // guards what follows
	lastWrite int
	lastRead  int
	writes    map[int]*write // by number: those that were begun and not cancelled
	reads     map[int]*read  // by number: those that were begun and not finished
}

// New makes an empty store (P2).
func New(parts int, mode api.Mode) (*Store, api.Errno) {
	if parts < 1 || parts > api.MaxParts {
		return nil, api.ErrParts
	}
	if !isMode(mode) {
		return nil, api.ErrMode
	}
	s := &Store{mode: mode, writes: map[int]*write{}, reads: map[int]*read{}}
	for range parts {
		s.parts = append(s.parts, keep.NewPart())
	}
	return s, api.OK
}

// Part tells a key's part (P2).
func (s *Store) Part(key string) (int, api.Errno) {
	if !isKey(key) {
		return 0, api.ErrKey
	}
	return s.partOf(key), api.OK
}

// Write begins a write (P3).
func (s *Store) Write(items ...api.Item) (int, api.Errno) {
	if e := checkItems(items); e != api.OK {
		return 0, e
	}
	s.mu.Lock()
	defer s.mu.Unlock()
	if s.lastWrite >= api.MaxWrites {
		return 0, api.ErrFull
	}
	s.lastWrite++
	s.writes[s.lastWrite] = s.newWrite(s.lastWrite, items)
	return s.lastWrite, api.OK
}

// Prepare prepares a write on a part (P3).
func (s *Store) Prepare(write int, part int) api.Errno {
	found, ok := s.findWrite(write)
	if !ok {
		return api.ErrNone
	}
	return found.prepare(part)
}

// Commit commits a write on a part (P3).
func (s *Store) Commit(write int, part int) api.Errno {
	found, ok := s.findWrite(write)
	if !ok {
		return api.ErrNone
	}
	return found.commit(part)
}

// Cancel cancels a write (P3).
func (s *Store) Cancel(write int) api.Errno {
	found, ok := s.findWrite(write)
	if !ok {
		return api.ErrNone
	}
	if e := found.cancel(); e != api.OK {
		return e
	}
	s.forgetWrite(write)
	return api.OK
}

// Read begins a read (P4).
func (s *Store) Read(keys ...string) (int, api.Errno) {
	if e := checkKeys(keys); e != api.OK {
		return 0, e
	}
	s.mu.Lock()
	defer s.mu.Unlock()
	if len(s.reads) >= api.MaxReads {
		return 0, api.ErrFull
	}
	s.lastRead++
	s.reads[s.lastRead] = s.newRead(keys)
	return s.lastRead, api.OK
}

// Ask asks for a key (P4).
func (s *Store) Ask(read int, key string) api.Errno {
	found, ok := s.findRead(read)
	if !ok {
		return api.ErrNone
	}
	return found.ask(key)
}

// Finish tells the answers (P5) and how many second questions they took (P6).
func (s *Store) Finish(read int) ([]api.Answer, int, api.Errno) {
	found, ok := s.findRead(read)
	if !ok {
		return nil, 0, api.ErrNone
	}
	if !found.isAllAsked() {
		return nil, 0, api.ErrOrder
	}
	if !s.forgetRead(read) { // another Finish that found it, too, was ahead
		return nil, 0, api.ErrNone
	}
	answers, asked := found.finish()
	return answers, asked, api.OK
}

func (s *Store) partOf(key string) int {
	sum := 0
	for _, b := range []byte(key) {
		sum += int(b)
	}
	return sum % len(s.parts)
}

func (s *Store) newWrite(number int, items []api.Item) *write {
	w := &write{number: number, shares: map[int]*share{}}
	var keys []string
	for _, item := range items {
		// It is copied, because its bytes are the caller's.
		own := api.Item{Key: strings.Clone(item.Key), Value: strings.Clone(item.Value)}
		part := s.partOf(own.Key)
		w.add(part, s.parts[part], own)
		keys = append(keys, own.Key)
	}
	w.siblings = siblingsOf(s.mode, keys)
	return w
}

func (s *Store) newRead(keys []string) *read {
	r := &read{numbersOnly: isNumbersOnly(s.mode, keys), questions: map[string]*question{}}
	for _, key := range keys {
		r.add(key, s.parts[s.partOf(key)])
	}
	return r
}

// findWrite lets the mutex go before the write is worked on, so that a long look at one write stops no other.
func (s *Store) findWrite(number int) (*write, bool) {
	s.mu.Lock()
	defer s.mu.Unlock()
	found, ok := s.writes[number]
	return found, ok
}

func (s *Store) forgetWrite(number int) {
	s.mu.Lock()
	defer s.mu.Unlock()
	delete(s.writes, number)
}

// findRead lets the mutex go before the read is worked on, as findWrite does.
func (s *Store) findRead(number int) (*read, bool) {
	s.mu.Lock()
	defer s.mu.Unlock()
	found, ok := s.reads[number]
	return found, ok
}

// forgetRead tells if the read was still there: of several calls at once that is so for one.
func (s *Store) forgetRead(number int) bool {
	s.mu.Lock()
	defer s.mu.Unlock()
	_, ok := s.reads[number]
	delete(s.reads, number)
	return ok
}
