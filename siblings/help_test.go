package siblings

import (
	"testing"

	"siblings/api"
)

func newStore(t *testing.T, parts int) *Store {
	t.Helper()
	s, e := New(parts, api.Fast)
	if s == nil || e != api.OK {
		t.Fatalf("New(%d, Fast) = %v, %d", parts, s, e)
	}
	return s
}

// begin begins a write of keys, each with itself as its value.
func begin(t *testing.T, s *Store, want int, keys ...string) {
	t.Helper()
	var items []api.Item
	for _, key := range keys {
		items = append(items, api.Item{Key: key, Value: key})
	}
	wantWrite(t, s, items, want, api.OK)
}

func wantWrite(t *testing.T, s *Store, items []api.Item, want int, wantE api.Errno) {
	t.Helper()
	if n, e := s.Write(items...); n != want || e != wantE {
		t.Errorf("Write(%.80q) = %d, %d, want %d, %d", items, n, e, want, wantE)
	}
}

func wantErrno(t *testing.T, what string, got, want api.Errno) {
	t.Helper()
	if got != want {
		t.Errorf("%s = %d, want %d", what, got, want)
	}
}

func wantVisible(t *testing.T, s *Store, key string, want int) {
	t.Helper()
	if got := s.parts[s.partOf(key)].Visible(key); got != want {
		t.Errorf("the visible write of %q is %d, want %d", key, got, want)
	}
}

func wantKept(t *testing.T, s *Store, write int, key, want string, wantOK bool) {
	t.Helper()
	if got, ok := s.parts[s.partOf(key)].Value(write, key); got != want || ok != wantOK {
		t.Errorf("of write %d, key %q, is kept %q, %v, want %q, %v", write, key, got, ok, want, wantOK)
	}
}

func wantRead(t *testing.T, s *Store, keys []string, want int, wantE api.Errno) {
	t.Helper()
	if n, e := s.Read(keys...); n != want || e != wantE {
		t.Errorf("Read(%.80q) = %d, %d, want %d, %d", keys, n, e, want, wantE)
	}
}

func wantCandidate(t *testing.T, s *Store, read int, key string, want int) {
	t.Helper()
	if q := s.reads[read].questions[key]; !q.asked || q.candidate != want {
		t.Errorf("of read %d, key %q, asked is %v, the candidate %d, want %d", read, key, q.asked, q.candidate, want)
	}
}

func wantNotAsked(t *testing.T, s *Store, read int, key string) {
	t.Helper()
	if q := s.reads[read].questions[key]; q.asked || q.candidate != 0 {
		t.Errorf("of read %d, key %q, asked is %v, the candidate %d, want none", read, key, q.asked, q.candidate)
	}
}
