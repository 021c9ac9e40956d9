package siblings

import (
	"math/rand"
	"slices"
	"sync"
	"testing"

	"siblings/api"
)

// ledger has, for those who write and read at once, what was written and what is committed everywhere.
type ledger struct {
	mu       sync.Mutex
	keys     map[int][]string // by write
	complete []int
}

func (l *ledger) noteComplete(write int) {
	l.mu.Lock()
	defer l.mu.Unlock()
	l.complete = append(l.complete, write)
}

func (l *ledger) completeNow() []int {
	l.mu.Lock()
	defer l.mu.Unlock()
	return slices.Clone(l.complete)
}

func (l *ledger) writes(write int, key string) bool {
	l.mu.Lock()
	defer l.mu.Unlock()
	return slices.Contains(l.keys[write], key)
}

// checkTogether holds answers against the two last sentences of P7: no sibling alone, and nothing older than what was complete.
func (l *ledger) checkTogether(t *testing.T, mode api.Mode, answers []api.Answer, complete []int) {
	t.Helper()
	for _, here := range answers {
		for _, other := range answers {
			if other.Write > here.Write && l.writes(other.Write, here.Key) {
				t.Errorf("mode %d: %v: write %d writes %q, too", mode, answers, other.Write, here.Key)
			}
		}
		for _, write := range complete {
			if write > here.Write && l.writes(write, here.Key) {
				t.Errorf("mode %d: %v: write %d was committed on all parts ahead of the read", mode, answers, write)
			}
		}
		isWriter := here.Write == 0 || l.writes(here.Write, here.Key)
		if !isWriter || here.Value != modelValue(here.Write, here.Key) {
			t.Errorf("mode %d: %v: write %d writes no %q to %q", mode, answers, here.Write, here.Value, here.Key)
		}
	}
}

// someWrites begins writes, prepares each everywhere, and cancels it or commits it in any order.
func (l *ledger) someWrites(t *testing.T, s *Store, seed int64) {
	r := rand.New(rand.NewSource(seed))
	for range api.MaxWrites / 8 {
		keys := someKeys(r)
		n := l.beginOne(t, s, keys)
		parts := r.Perm(len(s.parts))
		for _, part := range parts {
			s.Prepare(n, part)
		}
		if r.Intn(6) == 0 {
			wantErrno(t, "Cancel", s.Cancel(n), api.OK)
			continue
		}
		for _, part := range parts {
			if e := s.Commit(n, part); e != api.OK && e != api.ErrPart {
				t.Errorf("Commit(%d, %d) = %d", n, part, e)
			}
		}
		l.noteComplete(n)
	}
}

// beginOne holds the ledger while it begins a write, because its values are made from its number.
func (l *ledger) beginOne(t *testing.T, s *Store, keys []string) int {
	l.mu.Lock()
	defer l.mu.Unlock()
	n := len(l.keys) + 1
	var items []api.Item
	for _, key := range keys {
		items = append(items, api.Item{Key: key, Value: modelValue(n, key)})
	}
	wantWrite(t, s, items, n, api.OK)
	l.keys[n] = keys
	return n
}

func (l *ledger) someReads(t *testing.T, s *Store, seed int64) {
	r := rand.New(rand.NewSource(seed))
	for range 200 {
		keys := someKeys(r)
		n, e := s.Read(keys...)
		wantErrno(t, "Read", e, api.OK)
		complete := l.completeNow()
		askAll(t, s, n, keys...)
		answers, _, e := s.Finish(n)
		wantErrno(t, "Finish", e, api.OK)
		l.checkTogether(t, s.mode, answers, complete)
	}
}

func TestTogetherThoughNobodyWaitsP7(t *testing.T) {
	for parts := 1; parts <= api.MaxParts; parts++ {
		inAllModes(t, parts, func(t *testing.T, s *Store) {
			l := &ledger{keys: map[int][]string{}}
			var all sync.WaitGroup
			for i := range int64(8) {
				all.Go(func() { l.someWrites(t, s, i) })
				all.Go(func() { l.someReads(t, s, 100+i) })
			}
			all.Wait()
			l.someReads(t, s, 200) // all is complete now
		})
	}
}

// openRead is one that some of its keys are still to be asked for.
type openRead struct {
	number   int
	left     []string
	complete []int
}

// script takes random steps, one by one, with a store: the same for the same seed, whatever the mode.
type script struct {
	ledger
	r       *rand.Rand
	s       *Store
	pending map[int][]int // by write: the parts that it is not committed on
	open    []*openRead
	told    [][]api.Answer
}

func (c *script) write(t *testing.T) {
	keys := someKeys(c.r)
	n := c.beginOne(t, c.s, keys)
	for part := range c.s.parts {
		if c.s.Prepare(n, part) == api.OK {
			c.pending[n] = append(c.pending[n], part)
		}
	}
}

func (c *script) commit(t *testing.T) {
	n := 1 + c.r.Intn(len(c.keys)+1)
	if left := c.pending[n]; len(left) > 0 {
		i := c.r.Intn(len(left))
		wantErrno(t, "Commit", c.s.Commit(n, left[i]), api.OK)
		c.pending[n] = slices.Delete(left, i, i+1)
		if len(left) == 1 {
			c.noteComplete(n)
		}
	}
}

func (c *script) read(t *testing.T) {
	keys := someKeys(c.r)
	n, e := c.s.Read(keys...)
	wantErrno(t, "Read", e, api.OK)
	c.open = append(c.open, &openRead{number: n, left: keys})
}

func (c *script) ask(t *testing.T) {
	i := c.r.Intn(len(c.open))
	here := c.open[i]
	if here.complete == nil { // what counts is what is complete when the first key is asked
		here.complete = append([]int{0}, c.completeNow()...)
	}
	askAll(t, c.s, here.number, here.left[0])
	here.left = here.left[1:]
	if len(here.left) > 0 {
		return
	}
	c.open = slices.Delete(c.open, i, i+1)
	answers, _, e := c.s.Finish(here.number)
	wantErrno(t, "Finish", e, api.OK)
	c.checkTogether(t, c.s.mode, answers, here.complete)
	c.told = append(c.told, answers)
}

func (c *script) step(t *testing.T) {
	switch step := c.r.Intn(10); {
	case step == 0 && len(c.keys) < api.MaxWrites:
		c.write(t)
	case step < 4:
		c.commit(t)
	case step == 4 && len(c.open) < 10:
		c.read(t)
	case len(c.open) > 0:
		c.ask(t)
	}
}

func toldBy(t *testing.T, seed int64, mode api.Mode) [][]api.Answer {
	t.Helper()
	s, e := New(1+int(seed)%api.MaxParts, mode)
	wantErrno(t, "New", e, api.OK)
	c := &script{ledger: ledger{keys: map[int][]string{}}, r: rand.New(rand.NewSource(seed)), s: s, pending: map[int][]int{}}
	for range 1000 {
		c.step(t)
	}
	return c.told
}

func TestModesTellTheSameP7(t *testing.T) {
	for seed := range int64(60) {
		fast := toldBy(t, seed, api.Fast)
		if len(fast) < 20 {
			t.Errorf("seed %d: %d reads: too few to show anything", seed, len(fast))
		}
		for _, mode := range []api.Mode{api.Small, api.Mixed} {
			if other := toldBy(t, seed, mode); !slices.EqualFunc(fast, other, slices.Equal) {
				t.Errorf("seed %d: mode %d tells %v, Fast %v", seed, mode, other, fast)
			}
		}
		if t.Failed() {
			t.Fatalf("seed %d", seed)
		}
	}
}
