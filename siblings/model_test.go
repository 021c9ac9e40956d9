package siblings

import (
	"math/rand"
	"slices"
	"testing"

	"siblings/api"
)

// modelWrite says again, in the plainest form, what P3 says of a write.
type modelWrite struct {
	keys                []string
	cancelled           bool
	prepared, committed [api.MaxParts]bool
}

// modelRead says again what P4 says of a read.
type modelRead struct {
	keys       []string
	candidates map[string]int // by key: of those that were asked
}

type model struct {
	parts  int
	writes []modelWrite
	reads  []modelRead
}

func (m *model) partOf(key string) int { return int(key[0]) % m.parts }

func (m *model) has(w *modelWrite, part int) bool {
	for _, key := range w.keys {
		if m.partOf(key) == part {
			return true
		}
	}
	return false
}

func (m *model) find(write int) *modelWrite {
	if write < 1 || write > len(m.writes) || m.writes[write-1].cancelled {
		return nil
	}
	return &m.writes[write-1]
}

func (m *model) prepare(write, part int) api.Errno {
	w := m.find(write)
	switch {
	case w == nil:
		return api.ErrNone
	case !m.has(w, part):
		return api.ErrPart
	case w.prepared[part]:
		return api.ErrDone
	}
	w.prepared[part] = true
	return api.OK
}

func (m *model) commit(write, part int) api.Errno {
	w := m.find(write)
	if w == nil {
		return api.ErrNone
	}
	if !m.has(w, part) {
		return api.ErrPart
	}
	for _, key := range w.keys {
		if !w.prepared[m.partOf(key)] {
			return api.ErrOrder
		}
	}
	if w.committed[part] {
		return api.ErrDone
	}
	w.committed[part] = true
	return api.OK
}

func (m *model) cancel(write int) api.Errno {
	w := m.find(write)
	if w == nil {
		return api.ErrNone
	}
	if w.committed != [api.MaxParts]bool{} {
		return api.ErrOrder
	}
	w.cancelled = true
	return api.OK
}

func (m *model) visible(key string) int {
	for n := len(m.writes); n > 0; n-- {
		w := m.writes[n-1]
		for _, k := range w.keys {
			if k == key && w.committed[m.partOf(key)] {
				return n
			}
		}
	}
	return 0
}

func (m *model) keeps(write int, key string) bool {
	w := m.find(write)
	if w == nil {
		return false
	}
	for _, k := range w.keys {
		if k == key {
			return w.prepared[m.partOf(key)]
		}
	}
	return false
}

func (m *model) ask(read int, key string) api.Errno {
	if read < 1 || read > len(m.reads) {
		return api.ErrNone
	}
	r := m.reads[read-1]
	if !slices.Contains(r.keys, key) {
		return api.ErrKey
	}
	if _, asked := r.candidates[key]; asked {
		return api.ErrDone
	}
	r.candidates[key] = m.visible(key)
	return api.OK
}

var modelKeys = []string{"a", "b", "c", "d", "e", "f"}

func someKeys(r *rand.Rand) []string {
	var keys []string
	for _, i := range r.Perm(len(modelKeys))[:1+r.Intn(len(modelKeys))] {
		keys = append(keys, modelKeys[i])
	}
	return keys
}

func compare(t *testing.T, s *Store, m *model) {
	t.Helper()
	for _, key := range modelKeys {
		wantVisible(t, s, key, m.visible(key))
		for n := range len(m.writes) + 2 {
			want, kept := "", m.keeps(n, key)
			if kept {
				want = key
			}
			wantKept(t, s, n, key, want, kept)
		}
	}
	compareReads(t, s, m)
}

func compareReads(t *testing.T, s *Store, m *model) {
	t.Helper()
	for i, r := range m.reads {
		for _, key := range r.keys {
			if candidate, asked := r.candidates[key]; asked {
				wantCandidate(t, s, i+1, key, candidate)
			} else {
				wantNotAsked(t, s, i+1, key)
			}
		}
	}
}

func TestAgainstModelP3P4(t *testing.T) {
	for seed := range int64(80) {
		r := rand.New(rand.NewSource(seed))
		m := &model{parts: 1 + int(seed)%api.MaxParts}
		s := newStore(t, m.parts)
		for range 300 {
			write, part := r.Intn(len(m.writes)+2), r.Intn(m.parts+2)-1
			switch step := r.Intn(30); {
			case step < 1 && len(m.writes) < api.MaxWrites:
				keys := someKeys(r)
				m.writes = append(m.writes, modelWrite{keys: keys})
				begin(t, s, len(m.writes), keys...)
			case step < 10:
				wantErrno(t, "Prepare", s.Prepare(write, part), m.prepare(write, part))
			case step < 19:
				wantErrno(t, "Commit", s.Commit(write, part), m.commit(write, part))
			case step < 20:
				wantErrno(t, "Cancel", s.Cancel(write), m.cancel(write))
			case step < 21 && len(m.reads) < api.MaxReads:
				keys := someKeys(r)
				m.reads = append(m.reads, modelRead{keys: keys, candidates: map[string]int{}})
				wantRead(t, s, keys, len(m.reads), api.OK)
			default:
				read, key := r.Intn(len(m.reads)+2), modelKeys[r.Intn(len(modelKeys))]
				wantErrno(t, "Ask", s.Ask(read, key), m.ask(read, key))
			}
			compare(t, s, m)
		}
		if t.Failed() {
			t.Fatalf("seed %d", seed)
		}
	}
}
