package siblings

import (
	"math/rand"
	"testing"

	"siblings/api"
)

// modelWrite says again, in the plainest form, what P3 says of a write.
type modelWrite struct {
	keys                []string
	cancelled           bool
	prepared, committed [api.MaxParts]bool
}

type model struct {
	parts  int
	writes []modelWrite
}

func (m *model) partOf(key string) int { return int(key[0]) % m.parts }

func (m *model) has(w *modelWrite, part int) bool {
	for _, key := range w.keys {
		if m.partOf(key) == part {
			return true
		}
	}
	return false
}

func (m *model) find(write int) *modelWrite {
	if write < 1 || write > len(m.writes) || m.writes[write-1].cancelled {
		return nil
	}
	return &m.writes[write-1]
}

func (m *model) prepare(write, part int) api.Errno {
	w := m.find(write)
	switch {
	case w == nil:
		return api.ErrNone
	case !m.has(w, part):
		return api.ErrPart
	case w.prepared[part]:
		return api.ErrDone
	}
	w.prepared[part] = true
	return api.OK
}

func (m *model) commit(write, part int) api.Errno {
	w := m.find(write)
	if w == nil {
		return api.ErrNone
	}
	if !m.has(w, part) {
		return api.ErrPart
	}
	for _, key := range w.keys {
		if !w.prepared[m.partOf(key)] {
			return api.ErrOrder
		}
	}
	if w.committed[part] {
		return api.ErrDone
	}
	w.committed[part] = true
	return api.OK
}

func (m *model) cancel(write int) api.Errno {
	w := m.find(write)
	if w == nil {
		return api.ErrNone
	}
	if w.committed != [api.MaxParts]bool{} {
		return api.ErrOrder
	}
	w.cancelled = true
	return api.OK
}

func (m *model) visible(key string) int {
	for n := len(m.writes); n > 0; n-- {
		w := m.writes[n-1]
		for _, k := range w.keys {
			if k == key && w.committed[m.partOf(key)] {
				return n
			}
		}
	}
	return 0
}

func (m *model) keeps(write int, key string) bool {
	w := m.find(write)
	if w == nil {
		return false
	}
	for _, k := range w.keys {
		if k == key {
			return w.prepared[m.partOf(key)]
		}
	}
	return false
}

var modelKeys = []string{"a", "b", "c", "d", "e", "f"}

func someKeys(r *rand.Rand) []string {
	var keys []string
	for _, i := range r.Perm(len(modelKeys))[:1+r.Intn(len(modelKeys))] {
		keys = append(keys, modelKeys[i])
	}
	return keys
}

func compare(t *testing.T, s *Store, m *model) {
	t.Helper()
	for _, key := range modelKeys {
		wantVisible(t, s, key, m.visible(key))
		for n := range len(m.writes) + 2 {
			want, kept := "", m.keeps(n, key)
			if kept {
				want = key
			}
			wantKept(t, s, n, key, want, kept)
		}
	}
}

func TestAgainstModelP3(t *testing.T) {
	for seed := range int64(80) {
		r := rand.New(rand.NewSource(seed))
		m := &model{parts: 1 + int(seed)%api.MaxParts}
		s := newStore(t, m.parts)
		for range 300 {
			write, part := r.Intn(len(m.writes)+2), r.Intn(m.parts+2)-1
			switch step := r.Intn(20); {
			case step < 1 && len(m.writes) < api.MaxWrites:
				keys := someKeys(r)
				m.writes = append(m.writes, modelWrite{keys: keys})
				begin(t, s, len(m.writes), keys...)
			case step < 10:
				wantErrno(t, "Prepare", s.Prepare(write, part), m.prepare(write, part))
			case step < 19:
				wantErrno(t, "Commit", s.Commit(write, part), m.commit(write, part))
			default:
				wantErrno(t, "Cancel", s.Cancel(write), m.cancel(write))
			}
			compare(t, s, m)
		}
		if t.Failed() {
			t.Fatalf("seed %d", seed)
		}
	}
}
