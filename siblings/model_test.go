package siblings

import (
	"math/rand"
	"slices"
	"strconv"
	"testing"

	"siblings/api"
)

// modelWrite says again, in the plainest form, what P3 says of a write.
type modelWrite struct {
	keys                []string
	cancelled           bool
	prepared, committed [api.MaxParts]bool
}

// modelRead says again what P4 and P5 say of a read.
type modelRead struct {
	keys       []string
	candidates map[string]int // by key: of those that were asked
	finished   bool
}

type model struct {
	parts  int
	writes []modelWrite
	reads  []modelRead
}

func (m *model) partOf(key string) int { return int(key[0]) % m.parts }

func (m *model) has(w *modelWrite, part int) bool {
	for _, key := range w.keys {
		if m.partOf(key) == part {
			return true
		}
	}
	return false
}

func (m *model) find(write int) *modelWrite {
	if write < 1 || write > len(m.writes) || m.writes[write-1].cancelled {
		return nil
	}
	return &m.writes[write-1]
}

func (m *model) prepare(write, part int) api.Errno {
	w := m.find(write)
	switch {
	case w == nil:
		return api.ErrNone
	case !m.has(w, part):
		return api.ErrPart
	case w.prepared[part]:
		return api.ErrDone
	}
	w.prepared[part] = true
	return api.OK
}

func (m *model) commit(write, part int) api.Errno {
	w := m.find(write)
	if w == nil {
		return api.ErrNone
	}
	if !m.has(w, part) {
		return api.ErrPart
	}
	for _, key := range w.keys {
		if !w.prepared[m.partOf(key)] {
			return api.ErrOrder
		}
	}
	if w.committed[part] {
		return api.ErrDone
	}
	w.committed[part] = true
	return api.OK
}

func (m *model) cancel(write int) api.Errno {
	w := m.find(write)
	if w == nil {
		return api.ErrNone
	}
	if w.committed != [api.MaxParts]bool{} {
		return api.ErrOrder
	}
	w.cancelled = true
	return api.OK
}

func (m *model) visible(key string) int {
	for n := len(m.writes); n > 0; n-- {
		w := m.writes[n-1]
		for _, k := range w.keys {
			if k == key && w.committed[m.partOf(key)] {
				return n
			}
		}
	}
	return 0
}

func (m *model) keeps(write int, key string) bool {
	w := m.find(write)
	if w == nil {
		return false
	}
	for _, k := range w.keys {
		if k == key {
			return w.prepared[m.partOf(key)]
		}
	}
	return false
}

func (m *model) findRead(read int) *modelRead {
	if read < 1 || read > len(m.reads) || m.reads[read-1].finished {
		return nil
	}
	return &m.reads[read-1]
}

func (m *model) ask(read int, key string) api.Errno {
	r := m.findRead(read)
	if r == nil {
		return api.ErrNone
	}
	if !slices.Contains(r.keys, key) {
		return api.ErrKey
	}
	if _, asked := r.candidates[key]; asked {
		return api.ErrDone
	}
	r.candidates[key] = m.visible(key)
	return api.OK
}

// chosen says what the document's words say of a key's chosen write.
func (m *model) chosen(r *modelRead, key string) int {
	chosen := r.candidates[key]
	for _, other := range r.candidates {
		if other > chosen && slices.Contains(m.writes[other-1].keys, key) {
			chosen = other
		}
	}
	return chosen
}

// finish tells the answers and how many second questions P6 allows by the mode, from low to high.
func (m *model) finish(read int, mode api.Mode) (answers []api.Answer, low, high int, e api.Errno) {
	r := m.findRead(read)
	if r == nil {
		return nil, 0, 0, api.ErrNone
	}
	if len(r.candidates) < len(r.keys) {
		return nil, 0, 0, api.ErrOrder
	}
	r.finished = true
	fast, small := 0, 0
	for _, key := range r.keys {
		chosen := m.chosen(r, key)
		answers = append(answers, api.Answer{Key: key, Write: chosen, Value: modelValue(chosen, key)})
		if chosen != r.candidates[key] {
			fast++
		}
		if len(r.keys) > 1 && r.candidates[key] > 0 {
			small = len(r.keys)
		}
	}
	switch mode {
	case api.Fast:
		return answers, fast, fast, api.OK
	case api.Small:
		return answers, small, small, api.OK
	}
	return answers, fast, small, api.OK
}

func (m *model) openReads() int {
	open := 0
	for _, r := range m.reads {
		if !r.finished {
			open++
		}
	}
	return open
}

// modelValue is what a write writes to a key: another text for each write and key, empty for some.
func modelValue(write int, key string) string {
	if write%5 == 0 {
		return ""
	}
	return key + strconv.Itoa(write)
}

var modelKeys = []string{"a", "b", "c", "!", "e", "f"} // a and ! are alike to the mask that Mixed carries along

func someKeys(r *rand.Rand) []string {
	var keys []string
	for _, i := range r.Perm(len(modelKeys))[:1+r.Intn(len(modelKeys))] {
		keys = append(keys, modelKeys[i])
	}
	return keys
}

func compare(t *testing.T, s *Store, m *model) {
	t.Helper()
	for _, key := range modelKeys {
		wantVisible(t, s, key, m.visible(key))
		for n := range len(m.writes) + 2 {
			want, kept := "", m.keeps(n, key)
			if kept {
				want = modelValue(n, key)
			}
			wantKept(t, s, n, key, want, kept)
		}
	}
	compareReads(t, s, m)
}

func compareReads(t *testing.T, s *Store, m *model) {
	t.Helper()
	if len(s.reads) != m.openReads() {
		t.Errorf("%d reads are remembered, want %d", len(s.reads), m.openReads())
	}
	for i, r := range m.reads {
		if r.finished {
			continue
		}
		for _, key := range r.keys {
			if candidate, asked := r.candidates[key]; asked {
				wantCandidate(t, s, i+1, key, candidate)
			} else {
				wantNotAsked(t, s, i+1, key)
			}
		}
	}
}

// somePick is mostly a read that is not finished with a key that it has not asked, and else anything.
func (m *model) somePick(r *rand.Rand) (int, string) {
	for i, read := range m.reads {
		for _, key := range read.keys {
			if _, asked := read.candidates[key]; !asked && r.Intn(5) == 0 {
				return i + 1, key
			}
		}
	}
	return r.Intn(len(m.reads) + 2), modelKeys[r.Intn(len(modelKeys))]
}

func (m *model) beginWrite(t *testing.T, s *Store, keys []string) {
	t.Helper()
	m.writes = append(m.writes, modelWrite{keys: keys})
	var items []api.Item
	for _, key := range keys {
		items = append(items, api.Item{Key: key, Value: modelValue(len(m.writes), key)})
	}
	wantWrite(t, s, items, len(m.writes), api.OK)
}

func (m *model) beginRead(t *testing.T, s *Store, keys []string) {
	t.Helper()
	if m.openReads() >= api.MaxReads {
		wantRead(t, s, keys, 0, api.ErrFull)
		return
	}
	m.reads = append(m.reads, modelRead{keys: keys, candidates: map[string]int{}})
	wantRead(t, s, keys, len(m.reads), api.OK)
}

// finishBoth finishes a read of the store and of the model, and tells if second questions were asked.
func (m *model) finishBoth(t *testing.T, s *Store, read int) bool {
	t.Helper()
	want, low, high, wantE := m.finish(read, s.mode)
	got, asked, e := s.Finish(read)
	if !slices.Equal(got, want) || asked < low || asked > high || e != wantE {
		t.Errorf("mode %d: Finish(%d) = %v, %d, %d, want %v, %d to %d, %d", s.mode, read, got, asked, e, want, low, high, wantE)
	}
	return asked > 0
}

// againstModel takes random steps with a store and the model, and counts the reads that asked twice.
func againstModel(t *testing.T, seed int64, mode api.Mode) int {
	t.Helper()
	r := rand.New(rand.NewSource(seed))
	m := &model{parts: 1 + int(seed)%api.MaxParts}
	s, _ := New(m.parts, mode)
	askedTwice := 0
	for range 400 {
		write, part := r.Intn(len(m.writes)+2), r.Intn(m.parts+2)-1
		switch step := r.Intn(40); {
		case step < 2 && len(m.writes) < api.MaxWrites:
			m.beginWrite(t, s, someKeys(r))
		case step < 10:
			wantErrno(t, "Prepare", s.Prepare(write, part), m.prepare(write, part))
		case step < 19:
			wantErrno(t, "Commit", s.Commit(write, part), m.commit(write, part))
		case step < 20:
			wantErrno(t, "Cancel", s.Cancel(write), m.cancel(write))
		case step < 23:
			m.beginRead(t, s, someKeys(r))
		case step < 34:
			read, key := m.somePick(r)
			wantErrno(t, "Ask", s.Ask(read, key), m.ask(read, key))
		default:
			if m.finishBoth(t, s, r.Intn(len(m.reads)+2)) {
				askedTwice++
			}
		}
		compare(t, s, m)
	}
	return askedTwice
}

func TestAgainstModelP3ToP6(t *testing.T) {
	for _, mode := range modes {
		askedTwice := 0
		for seed := range int64(60) {
			askedTwice += againstModel(t, seed, mode)
			if t.Failed() {
				t.Fatalf("mode %d, seed %d", mode, seed)
			}
		}
		if askedTwice < 60 {
			t.Errorf("mode %d: %d reads asked twice: too few to show anything", mode, askedTwice)
		}
	}
}
