package siblings

import (
	"math"
	"runtime"
	"slices"
	"strings"
	"sync"
	"sync/atomic"
	"testing"
	"time"
	"unsafe"

	"siblings/api"
)

func TestAllNumbersP1(t *testing.T) {
	s := newStore(t, 4)
	begin(t, s, 1, "a") // on part 1
	wantRead(t, s, []string{"a"}, 1, api.OK)
	numbers := []int{math.MinInt, math.MinInt32, -4, -3, -1, 0, 2, 3, 4, 5, 1 << 32, 1<<32 + 1, math.MaxInt}
	for _, n := range numbers {
		wantErrno(t, "Prepare of no write", s.Prepare(n, 1), api.ErrNone)
		wantErrno(t, "Commit of no write", s.Commit(n, 1), api.ErrNone)
		wantErrno(t, "Cancel of no write", s.Cancel(n), api.ErrNone)
		wantErrno(t, "Prepare on no part of it", s.Prepare(1, n), api.ErrPart)
		wantErrno(t, "Commit on no part of it", s.Commit(1, n), api.ErrPart)
		wantErrno(t, "Ask of no read", s.Ask(n, "a"), api.ErrNone)
		wantNoFinish(t, s, n, api.ErrNone)
	}
	wantErrno(t, "Prepare behind all that", s.Prepare(1, 1), api.OK)
	wantErrno(t, "Commit behind all that", s.Commit(1, 1), api.OK)
	wantVisible(t, s, "a", 1)
	wantErrno(t, "Ask behind all that", s.Ask(1, "a"), api.OK)
	wantFinish(t, s, 1, []api.Answer{{Key: "a", Write: 1, Value: "a"}}, 0, 0)
	for _, n := range append(numbers, 1) {
		wantNoFinish(t, s, n, api.ErrNone)
	}
}

func TestAllTextsP1(t *testing.T) {
	s := newStore(t, 3)
	next := 1
	for size := range 70 {
		for _, filler := range []string{"\x00", "a", "\x80", "\xff"} {
			text := strings.Repeat(filler, size)
			_, e := s.Part(text)
			isNone := size < 1 || size > 8
			wantErrno(t, "Part", e, map[bool]api.Errno{true: api.ErrKey, false: api.OK}[isNone])
			if isNone {
				wantWrite(t, s, []api.Item{{Key: text}}, 0, api.ErrKey)
			} else {
				wantWrite(t, s, []api.Item{{Key: text, Value: text}}, next, api.OK)
				next++
			}
			if size > 64 {
				wantWrite(t, s, []api.Item{{Key: "a", Value: text}}, 0, api.ErrKey)
			}
		}
	}
}

func TestAllTextsOfReadsP1(t *testing.T) {
	s := newStore(t, 3)
	wantRead(t, s, []string{"other"}, 1, api.OK)
	next := 2
	for size := range 70 {
		for _, filler := range []string{"\x00", "a", "\x80", "\xff"} {
			text := strings.Repeat(filler, size)
			wantErrno(t, "Ask of another key", s.Ask(1, text), api.ErrKey)
			if size < 1 || size > 8 {
				wantRead(t, s, []string{text}, 0, api.ErrKey)
				continue
			}
			wantRead(t, s, []string{text}, next, api.OK)
			wantErrno(t, "Ask", s.Ask(next, text), api.OK)
			wantFinish(t, s, next, []api.Answer{{Key: text}}, 0, 0)
			next++
		}
	}
}

func TestErrorsChangeNothingP1(t *testing.T) {
	s := newStore(t, 2) // a: 1, b: 0
	begin(t, s, 1, "a", "b")
	wantErrno(t, "Prepare", s.Prepare(1, 1), api.OK)
	wantErrno(t, "Prepare again", s.Prepare(1, 1), api.ErrDone)
	wantErrno(t, "Commit too early", s.Commit(1, 1), api.ErrOrder)
	wantWrite(t, s, []api.Item{{Key: "a", Value: "other"}, {}}, 0, api.ErrKey)
	wantVisible(t, s, "a", 0)
	wantKept(t, s, 1, "a", "a", true)
	wantErrno(t, "Prepare", s.Prepare(1, 0), api.OK)
	wantErrno(t, "Commit", s.Commit(1, 1), api.OK)
	wantErrno(t, "Cancel too late", s.Cancel(1), api.ErrOrder)
	wantKept(t, s, 1, "b", "b", true)
	wantErrno(t, "Commit on the other part, behind a late Cancel", s.Commit(1, 0), api.OK)
	begin(t, s, 2, "a")
}

func TestErrorsOfReadsChangeNothingP1(t *testing.T) {
	s := newStore(t, 2) // a: 1, b: 0
	begin(t, s, 1, "a")
	wantErrno(t, "Prepare", s.Prepare(1, 1), api.OK)
	wantRead(t, s, []string{"a", "b", "a"}, 0, api.ErrTwice)
	wantRead(t, s, []string{"a", "b"}, 1, api.OK)
	wantErrno(t, "Ask of another key", s.Ask(1, "c"), api.ErrKey)
	wantErrno(t, "Ask of no read", s.Ask(2, "a"), api.ErrNone)
	wantNotAsked(t, s, 1, "a")
	wantErrno(t, "Ask", s.Ask(1, "a"), api.OK)
	wantErrno(t, "Commit", s.Commit(1, 1), api.OK)
	wantErrno(t, "Ask again", s.Ask(1, "a"), api.ErrDone)
	wantErrno(t, "Ask of a key that was refused ahead", s.Ask(1, "c"), api.ErrKey)
	wantNoFinish(t, s, 1, api.ErrOrder)
	wantNoFinish(t, s, 2, api.ErrNone)
	wantCandidate(t, s, 1, "a", 0)
	wantNotAsked(t, s, 1, "b")
	for n := 2; n <= 50; n++ {
		wantRead(t, s, []string{"a"}, n, api.OK)
	}
	for range 3 {
		wantRead(t, s, []string{"a"}, 0, api.ErrFull)
	}
	wantNoFinish(t, s, 1, api.ErrOrder)
	wantRead(t, s, []string{"a"}, 0, api.ErrFull)
	askAll(t, s, 1, "b")
	wantFinish(t, s, 1, []api.Answer{{Key: "a"}, {Key: "b"}}, 0, 0)
	wantRead(t, s, []string{"a"}, 51, api.OK)
}

func TestListIsNotChangedP1(t *testing.T) {
	behind := []api.Item{{Key: "c", Value: "3"}, {Key: "a", Value: "1"}, {Key: "b", Value: "2"}, {Key: "spare", Value: "room"}}
	before := slices.Clone(behind)
	s := newStore(t, 2)
	wantWrite(t, s, behind[:3], 1, api.OK)
	wantErrno(t, "Prepare", s.Prepare(1, 0), api.OK)
	wantErrno(t, "Prepare", s.Prepare(1, 1), api.OK)
	wantErrno(t, "Commit", s.Commit(1, 1), api.OK)
	if !slices.Equal(behind, before) {
		t.Errorf("the list is %q now", behind)
	}
}

// text is a string whose bytes the test can change afterwards, as no honest caller could: so it shows if they are kept.
func text(of []byte) string { return unsafe.String(&of[0], len(of)) }

func TestListAndBytesAreNotKeptP1(t *testing.T) {
	for _, preparedFirst := range []bool{false, true} {
		inAllModes(t, 2, func(t *testing.T, s *Store) { // a: 1, b: 0
			key, value := []byte("a"), []byte("one")
			items := []api.Item{{Key: text(key), Value: text(value)}, {Key: "b", Value: "two"}}
			wantWrite(t, s, items, 1, api.OK)
			if preparedFirst {
				wantErrno(t, "Prepare", s.Prepare(1, 1), api.OK)
				wantErrno(t, "Prepare", s.Prepare(1, 0), api.OK)
			}
			copy(key, "z")
			copy(value, "xxx")
			items[1] = api.Item{Key: "d", Value: "four"}
			if !preparedFirst {
				wantErrno(t, "Prepare", s.Prepare(1, 1), api.OK)
				wantErrno(t, "Prepare", s.Prepare(1, 0), api.OK)
			}
			want := []api.Answer{{Key: "a", Write: 1, Value: "one"}, {Key: "b", Write: 1, Value: "two"}, {Key: "d"}, {Key: "z"}}
			commitFor(t, s, 1, "b")
			wantTold(t, s, []string{"a", "b", "d", "z"}, want, 1, 4) // a, as the sibling that it was
			commitFor(t, s, 1, "a")
			wantTold(t, s, []string{"a", "b", "d", "z"}, want, 0, 4)
		})
	}
}

func TestListOfKeysIsNotChangedP1(t *testing.T) {
	behind := []string{"c", "a", "b", "spare"}
	before := slices.Clone(behind)
	s := newStore(t, 2)
	wantRead(t, s, behind[:3], 1, api.OK)
	wantErrno(t, "Ask", s.Ask(1, "b"), api.OK)
	wantErrno(t, "Ask of what stands behind the list", s.Ask(1, "spare"), api.ErrKey)
	if !slices.Equal(behind, before) {
		t.Errorf("the list is %q now", behind)
	}
}

func TestListOfKeysAndBytesAreNotKeptP1(t *testing.T) {
	s := newStore(t, 2) // a: 1, b: 0
	key, asked := []byte("a"), []byte("b")
	keys := []string{text(key), "b", "c"}
	wantRead(t, s, keys, 1, api.OK)
	copy(key, "z")
	keys[2] = "d"
	wantErrno(t, "Ask of a key whose bytes have changed", s.Ask(1, "a"), api.OK)
	wantErrno(t, "Ask of what they are now", s.Ask(1, "z"), api.ErrKey)
	wantErrno(t, "Ask of a key whose place in the list has changed", s.Ask(1, "c"), api.OK)
	wantErrno(t, "Ask of what stands there now", s.Ask(1, "d"), api.ErrKey)
	wantErrno(t, "Ask", s.Ask(1, text(asked)), api.OK)
	copy(asked, "y")
	wantErrno(t, "Ask again, the bytes of what was asked having changed", s.Ask(1, "b"), api.ErrDone)
	wantErrno(t, "Ask of what they are now", s.Ask(1, "y"), api.ErrKey)
}

func TestStoresAreApartP1(t *testing.T) {
	one, two := newStore(t, 2), newStore(t, 2)
	begin(t, one, 1, "a")
	wantErrno(t, "Prepare in the other store", two.Prepare(1, 1), api.ErrNone)
	begin(t, two, 1, "a")
	wantErrno(t, "Prepare", one.Prepare(1, 1), api.OK)
	wantErrno(t, "Commit in the other store", two.Commit(1, 1), api.ErrOrder)
	wantErrno(t, "Commit", one.Commit(1, 1), api.OK)
	wantVisible(t, one, "a", 1)
	wantVisible(t, two, "a", 0)
	wantErrno(t, "Cancel in the other store", two.Cancel(1), api.OK)
	wantErrno(t, "Commit again", one.Commit(1, 1), api.ErrDone)
	wantRead(t, one, []string{"a"}, 1, api.OK)
	wantErrno(t, "Ask in the other store", two.Ask(1, "a"), api.ErrNone)
	wantRead(t, two, []string{"a"}, 1, api.OK)
	wantErrno(t, "Ask in the other store", two.Ask(1, "a"), api.OK)
	wantErrno(t, "Ask", one.Ask(1, "a"), api.OK)
	wantCandidate(t, one, 1, "a", 1)
	wantCandidate(t, two, 1, "a", 0)
	wantFinish(t, one, 1, []api.Answer{{Key: "a", Write: 1, Value: "a"}}, 0, 0)
	wantErrno(t, "Ask, the read of the other store being finished", two.Ask(1, "a"), api.ErrDone)
	wantFinish(t, two, 1, []api.Answer{{Key: "a"}}, 0, 0)
}

// wantGoroutines gives those that have let go of their WaitGroup the moment that they take to end.
func wantGoroutines(t *testing.T, most int) {
	t.Helper()
	for range 1000 {
		if runtime.NumGoroutine() <= most {
			return
		}
		time.Sleep(time.Millisecond)
	}
	t.Errorf("%d goroutines, %d before", runtime.NumGoroutine(), most)
}

func TestNoGoroutineIsLeftP1(t *testing.T) {
	before := runtime.NumGoroutine()
	inAllModes(t, 2, func(t *testing.T, s *Store) {
		begin(t, s, 1, "a", "b")
		begin(t, s, 2, "a")
		wantErrno(t, "Prepare", s.Prepare(1, 0), api.OK)
		wantErrno(t, "Prepare", s.Prepare(1, 1), api.OK)
		wantErrno(t, "Commit", s.Commit(1, 0), api.OK)
		wantErrno(t, "Cancel", s.Cancel(2), api.OK)
		wantRead(t, s, []string{"a", "b"}, 1, api.OK)
		wantNoFinish(t, s, 1, api.ErrOrder)
		askAll(t, s, 1, "a", "b")
		wantFinish(t, s, 1, []api.Answer{{Key: "a", Write: 1, Value: "a"}, {Key: "b", Write: 1, Value: "b"}}, 1, 2)
		wantGoroutines(t, before)
	})
}

// spoil writes over all that an answer shows, its spare room and the bytes of its texts too.
func spoil(answers []api.Answer) {
	for _, each := range answers {
		for _, shown := range []string{each.Key, each.Value} {
			copy(unsafe.Slice(unsafe.StringData(shown), len(shown)), strings.Repeat("z", len(shown)))
		}
	}
	room := answers[:cap(answers)]
	for i := range room {
		room[i] = api.Answer{Key: "spoilt", Write: 99, Value: "spoilt"}
	}
}

// wantOwnAnswers finishes two reads that were asked alike, and spoils the answer of one ahead of the other.
func wantOwnAnswers(t *testing.T, s *Store, keys []string, want []api.Answer, fast, small int) {
	t.Helper()
	one, e := s.Read(keys...)
	wantErrno(t, "Read", e, api.OK)
	two, e := s.Read(keys...)
	wantErrno(t, "Read", e, api.OK)
	askAll(t, s, one, keys...)
	askAll(t, s, two, keys...)
	answers, _, _ := s.Finish(one)
	spare := answers[len(answers):cap(answers)]
	if slices.ContainsFunc(spare, func(a api.Answer) bool { return a != api.Answer{} }) {
		t.Errorf("mode %d: behind the answers stands %v", s.mode, spare)
	}
	spoil(answers)
	wantFinish(t, s, two, want, fast, small)
}

func TestAnswersAreNewMemoryP1(t *testing.T) {
	inAllModes(t, 2, func(t *testing.T, s *Store) { // a, c: 1; b: 0
		keys, value := []string{text([]byte("a")), text([]byte("b")), text([]byte("c"))}, text([]byte("value"))
		want := []api.Answer{{Key: "a", Write: 1, Value: "value"}, {Key: "b", Write: 1, Value: "value"}, {Key: "c", Write: 1, Value: "value"}}
		prepareAll(t, s, 1, value, keys...)
		commitFor(t, s, 1, "b")
		wantOwnAnswers(t, s, keys, want, 2, 3) // by second questions
		commitFor(t, s, 1, "a")
		wantOwnAnswers(t, s, keys, want, 0, 3) // by first questions, where the mode brings values with them
		wantOwnAnswers(t, s, keys[:1], want[:1], 0, 0)
		if !slices.Equal(keys, []string{"a", "b", "c"}) || value != "value" {
			t.Errorf("mode %d: what was handed in is %q, %q now", s.mode, keys, value)
		}
	})
}

func TestNumbersAtOnceP3(t *testing.T) {
	s := newStore(t, 4)
	got := make([]int, api.MaxWrites+40)
	var all sync.WaitGroup
	for i := range got {
		all.Go(func() { got[i], _ = s.Write(api.Item{Key: "a"}, api.Item{Key: "b"}) })
	}
	all.Wait()
	slices.Sort(got)
	for i, n := range got {
		if n != max(0, i-39) {
			t.Fatalf("the numbers are %v", got)
		}
	}
}

func TestCommitOrCancelAtOnceP3(t *testing.T) {
	s := newStore(t, 2)
	for n := 1; n <= api.MaxWrites; n++ {
		begin(t, s, n, "a", "b")
		var commits [2]api.Errno
		var cancels [2]api.Errno
		var all sync.WaitGroup
		wantErrno(t, "Prepare", s.Prepare(n, 0), api.OK)
		wantErrno(t, "Prepare", s.Prepare(n, 1), api.OK)
		for i := range 2 {
			all.Go(func() { commits[i] = s.Commit(n, i) })
			all.Go(func() { cancels[i] = s.Cancel(n) })
		}
		all.Wait()
		slices.Sort(cancels[:])
		isCommitted := commits == [2]api.Errno{} && cancels == [2]api.Errno{api.ErrOrder, api.ErrOrder}
		isCancelled := commits == [2]api.Errno{api.ErrNone, api.ErrNone} && cancels == [2]api.Errno{api.OK, api.ErrNone}
		if isCommitted == isCancelled {
			t.Fatalf("Commit = %v, Cancel = %v", commits, cancels)
		}
		wantKept(t, s, n, "a", map[bool]string{true: "a"}[isCommitted], isCommitted)
	}
}

func TestPrepareAtOnceP3(t *testing.T) {
	s := newStore(t, 2)
	begin(t, s, 1, "a")
	got := make([]api.Errno, 20)
	var all sync.WaitGroup
	for i := range got {
		all.Go(func() { got[i] = s.Prepare(1, 1) })
	}
	all.Wait()
	slices.Sort(got)
	if got[0] != api.OK || got[1] != api.ErrDone || got[19] != api.ErrDone {
		t.Errorf("Prepare at once = %v", got)
	}
}

func TestNumbersAtOnceP4(t *testing.T) {
	s := newStore(t, 4)
	got := make([]int, api.MaxReads+40)
	var all sync.WaitGroup
	for i := range got {
		all.Go(func() { got[i], _ = s.Read("a", "b") })
	}
	all.Wait()
	slices.Sort(got)
	for i, n := range got {
		if n != max(0, i-39) {
			t.Fatalf("the numbers are %v", got)
		}
	}
}

// asksAtOnce asks for one key again and again at the same time, and counts the questions that were taken.
func asksAtOnce(s *Store, read int, key string) int {
	var start, all sync.WaitGroup
	var taken atomic.Int64
	start.Add(1)
	for range 8 {
		all.Go(func() {
			start.Wait()
			if s.Ask(read, key) == api.OK {
				taken.Add(1)
			}
		})
	}
	start.Done()
	all.Wait()
	return int(taken.Load())
}

func TestAskAtOnceP4(t *testing.T) {
	for range 400 { // the wrong moment is short: few rounds would seldom meet it
		s := newStore(t, 2)
		for n := 1; n <= api.MaxReads; n++ {
			wantRead(t, s, []string{"a", "b"}, n, api.OK)
			if taken := asksAtOnce(s, n, "a"); taken != 1 {
				t.Fatalf("of 8 questions at once %d were taken, want 1", taken)
			}
			wantNotAsked(t, s, n, "b")
		}
	}
}

func TestAskWhileOthersCommitP4(t *testing.T) {
	s := newStore(t, 1)
	for n := 1; n <= api.MaxReads; n++ {
		begin(t, s, n, "a")
		wantErrno(t, "Prepare", s.Prepare(n, 0), api.OK)
		wantRead(t, s, []string{"a"}, n, api.OK)
	}
	var all sync.WaitGroup
	for n := 1; n <= api.MaxReads; n++ {
		all.Go(func() {
			wantErrno(t, "Commit", s.Commit(n, 0), api.OK)
			wantErrno(t, "Ask", s.Ask(n, "a"), api.OK)
		})
	}
	all.Wait()
	for n, r := range s.reads {
		if got := r.questions["a"].told.Write; got < n || got > api.MaxReads {
			t.Errorf("asked behind the commit of write %d, the candidate is %d", n, got)
		}
	}
}

// finishesAtOnce finishes one read again and again at the same time, while others ask, and counts the answers.
func finishesAtOnce(t *testing.T, s *Store, read int, want []api.Answer) int {
	var start, all sync.WaitGroup
	var told atomic.Int64
	start.Add(1)
	for range 4 {
		all.Go(func() {
			start.Wait()
			if e := s.Ask(read, "a"); e != api.ErrDone && e != api.ErrNone {
				t.Errorf("Ask again, or behind a Finish = %d", e)
			}
		})
		all.Go(func() {
			start.Wait()
			got, asked, e := s.Finish(read)
			if e == api.OK {
				told.Add(1)
			} else if got != nil || asked != 0 || e != api.ErrNone {
				t.Errorf("a late Finish = %v, %d, %d", got, asked, e)
			}
			if e == api.OK && !slices.Equal(got, want) {
				t.Errorf("Finish = %v, want %v", got, want)
			}
		})
	}
	start.Done()
	all.Wait()
	return int(told.Load())
}

func TestFinishAtOnceP5(t *testing.T) {
	inAllModes(t, 2, func(t *testing.T, s *Store) {
		prepareAll(t, s, 1, "v", "a", "b")
		commitFor(t, s, 1, "b")
		for n := 1; n <= 2000; n++ {
			wantRead(t, s, []string{"b", "a"}, n, api.OK)
			askAll(t, s, n, "a", "b")
			if told := finishesAtOnce(t, s, n, []api.Answer{{Key: "b", Write: 1, Value: "v"}, {Key: "a", Write: 1, Value: "v"}}); told != 1 {
				t.Fatalf("mode %d: of 4 calls at once %d told the answers, want 1", s.mode, told)
			}
		}
	})
}

func TestFoundJustBeforeFinishP5(t *testing.T) {
	s := newStore(t, 2)
	wantRead(t, s, []string{"a"}, 1, api.OK)
	askAll(t, s, 1, "a")
	found, _ := s.findRead(1)
	wantFinish(t, s, 1, []api.Answer{{Key: "a"}}, 0, 0)
	commitAll(t, s, 1, "v", "a")
	wantErrno(t, "ask of what was found ahead", found.ask("a"), api.ErrDone)
	if s.forgetRead(1) {
		t.Error("a second Finish that found the read ahead would tell it again")
	}
}
