package siblings

import (
	"slices"
	"testing"

	"siblings/api"
)

var modes = []api.Mode{api.Fast, api.Small, api.Mixed}

func newStore(t *testing.T, parts int) *Store {
	t.Helper()
	s, e := New(parts, api.Fast)
	if s == nil || e != api.OK {
		t.Fatalf("New(%d, Fast) = %v, %d", parts, s, e)
	}
	return s
}

// begin begins a write of keys, each with itself as its value.
func begin(t *testing.T, s *Store, want int, keys ...string) {
	t.Helper()
	var items []api.Item
	for _, key := range keys {
		items = append(items, api.Item{Key: key, Value: key})
	}
	wantWrite(t, s, items, want, api.OK)
}

func wantWrite(t *testing.T, s *Store, items []api.Item, want int, wantE api.Errno) {
	t.Helper()
	if n, e := s.Write(items...); n != want || e != wantE {
		t.Errorf("Write(%.80q) = %d, %d, want %d, %d", items, n, e, want, wantE)
	}
}

func wantErrno(t *testing.T, what string, got, want api.Errno) {
	t.Helper()
	if got != want {
		t.Errorf("%s = %d, want %d", what, got, want)
	}
}

func wantVisible(t *testing.T, s *Store, key string, want int) {
	t.Helper()
	if got := s.parts[s.partOf(key)].Visible(key).Write; got != want {
		t.Errorf("the visible write of %q is %d, want %d", key, got, want)
	}
}

func wantKept(t *testing.T, s *Store, write int, key, want string, wantOK bool) {
	t.Helper()
	number, got := s.parts[s.partOf(key)].Greatest(key, []int{write})
	if ok := number != 0; got != want || ok != wantOK {
		t.Errorf("of write %d, key %q, is kept %q, %v, want %q, %v", write, key, got, ok, want, wantOK)
	}
}

func wantRead(t *testing.T, s *Store, keys []string, want int, wantE api.Errno) {
	t.Helper()
	if n, e := s.Read(keys...); n != want || e != wantE {
		t.Errorf("Read(%.80q) = %d, %d, want %d, %d", keys, n, e, want, wantE)
	}
}

func wantCandidate(t *testing.T, s *Store, read int, key string, want int) {
	t.Helper()
	if q := s.reads[read].questions[key]; !q.asked || q.told.Write != want {
		t.Errorf("of read %d, key %q, asked is %v, the candidate %d, want %d", read, key, q.asked, q.told.Write, want)
	}
}

func wantNotAsked(t *testing.T, s *Store, read int, key string) {
	t.Helper()
	if q := s.reads[read].questions[key]; q.asked || q.told.Write != 0 {
		t.Errorf("of read %d, key %q, asked is %v, the candidate %d, want none", read, key, q.asked, q.told.Write)
	}
}

// prepareAll begins a write of keys, all with one value, and prepares it on all its parts.
func prepareAll(t *testing.T, s *Store, want int, value string, keys ...string) {
	t.Helper()
	var items []api.Item
	for _, key := range keys {
		items = append(items, api.Item{Key: key, Value: value})
	}
	wantWrite(t, s, items, want, api.OK)
	for part := range s.parts {
		if e := s.Prepare(want, part); e != api.OK && e != api.ErrPart {
			t.Errorf("Prepare(%d, %d) = %d", want, part, e)
		}
	}
}

// commitFor commits a write on the parts of some keys.
func commitFor(t *testing.T, s *Store, write int, keys ...string) {
	t.Helper()
	for _, key := range keys {
		if e := s.Commit(write, s.partOf(key)); e != api.OK && e != api.ErrDone {
			t.Errorf("Commit(%d, %d) = %d", write, s.partOf(key), e)
		}
	}
}

// commitAll begins a write as prepareAll does, and commits it everywhere.
func commitAll(t *testing.T, s *Store, want int, value string, keys ...string) {
	t.Helper()
	prepareAll(t, s, want, value, keys...)
	commitFor(t, s, want, keys...)
}

func askAll(t *testing.T, s *Store, read int, keys ...string) {
	t.Helper()
	for _, key := range keys {
		if e := s.Ask(read, key); e != api.OK {
			t.Errorf("Ask(%d, %q) = %d", read, key, e)
		}
	}
}

// wantFinish takes the number of second questions by mode: Fast, Small; Mixed is to be between.
func wantFinish(t *testing.T, s *Store, read int, want []api.Answer, fast, small int) {
	t.Helper()
	low, high := fast, small
	switch s.mode {
	case api.Fast:
		high = fast
	case api.Small:
		low = small
	}
	got, asked, e := s.Finish(read)
	if !slices.Equal(got, want) || asked < low || asked > high || e != api.OK {
		t.Errorf("mode %d: Finish(%d) = %v, %d, %d, want %v, %d to %d, OK", s.mode, read, got, asked, e, want, low, high)
	}
}

func wantNoFinish(t *testing.T, s *Store, read int, want api.Errno) {
	t.Helper()
	if got, asked, e := s.Finish(read); got != nil || asked != 0 || e != want {
		t.Errorf("mode %d: Finish(%d) = %v, %d, %d, want nil, 0, %d", s.mode, read, got, asked, e, want)
	}
}

// wantTold reads keys, asked in their order: a read from the beginning to its end.
func wantTold(t *testing.T, s *Store, keys []string, want []api.Answer, fast, small int) {
	t.Helper()
	read, e := s.Read(keys...)
	wantErrno(t, "Read", e, api.OK)
	askAll(t, s, read, keys...)
	wantFinish(t, s, read, want, fast, small)
}
