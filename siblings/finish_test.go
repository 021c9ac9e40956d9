package siblings

import (
	"strings"
	"testing"

	"siblings/api"
)

// inAllModes runs a test on a store of each mode.
func inAllModes(t *testing.T, parts int, test func(t *testing.T, s *Store)) {
	for _, mode := range modes {
		s, e := New(parts, mode)
		wantErrno(t, "New", e, api.OK)
		test(t, s)
	}
}

func TestFinishRefusalsP5(t *testing.T) {
	inAllModes(t, 2, func(t *testing.T, s *Store) { // a, c: 1; b: 0
		commitAll(t, s, 1, "v", "a", "b")
		wantNoFinish(t, s, 1, api.ErrNone) // a write's number
		wantRead(t, s, []string{"a", "b", "c"}, 1, api.OK)
		wantNoFinish(t, s, 0, api.ErrNone)
		wantNoFinish(t, s, 2, api.ErrNone)
		for _, key := range []string{"b", "c", "a"} {
			wantNoFinish(t, s, 1, api.ErrOrder)
			askAll(t, s, 1, key)
		}
		wantFinish(t, s, 1, []api.Answer{{Key: "a", Write: 1, Value: "v"}, {Key: "b", Write: 1, Value: "v"}, {Key: "c"}}, 0, 3)
		wantNoFinish(t, s, 1, api.ErrNone)
		wantErrno(t, "Ask of what is finished", s.Ask(1, "a"), api.ErrNone)
		wantErrno(t, "Ask of what is finished, of no key of it", s.Ask(1, "d"), api.ErrNone)
		wantRead(t, s, []string{"a"}, 2, api.OK)
		wantNoFinish(t, s, 1, api.ErrNone)
		wantNoFinish(t, s, 2, api.ErrOrder)
	})
}

func TestExampleP5P6(t *testing.T) {
	inAllModes(t, 2, func(t *testing.T, s *Store) { // a: 1, b: 0
		both := []api.Answer{{Key: "a", Write: 1, Value: "1"}, {Key: "b", Write: 1, Value: "1"}}
		prepareAll(t, s, 1, "1", "a", "b")
		wantRead(t, s, []string{"a", "b"}, 1, api.OK)
		askAll(t, s, 1, "b") // ahead of the commit
		commitFor(t, s, 1, "a")
		wantTold(t, s, []string{"a", "b"}, both, 1, 2)
		askAll(t, s, 1, "a")
		wantFinish(t, s, 1, both, 1, 2)
		commitAll(t, s, 2, "2", "a")
		wantTold(t, s, []string{"a", "b"}, []api.Answer{{Key: "a", Write: 2, Value: "2"}, {Key: "b"}}, 0, 2)
		commitFor(t, s, 1, "b")
		wantTold(t, s, []string{"a", "b"}, []api.Answer{{Key: "a", Write: 2, Value: "2"}, both[1]}, 0, 2)
	})
}

func TestNothingIsToldOfNothingP5P6(t *testing.T) {
	for parts := 1; parts <= api.MaxParts; parts++ {
		inAllModes(t, parts, func(t *testing.T, s *Store) {
			prepareAll(t, s, 1, "only prepared", "a", "b")
			begin(t, s, 2, "a", "c")
			prepareAll(t, s, 3, "cancelled", "a", "b", "c")
			wantErrno(t, "Cancel", s.Cancel(3), api.OK)
			commitAll(t, s, 4, "of another key", "d")
			wantTold(t, s, []string{"a"}, []api.Answer{{Key: "a"}}, 0, 0)
			wantTold(t, s, []string{"c", "a", "b"}, []api.Answer{{Key: "c"}, {Key: "a"}, {Key: "b"}}, 0, 0)
		})
	}
}

func TestLoneKeyTakesNoSecondQuestionP6(t *testing.T) {
	inAllModes(t, 2, func(t *testing.T, s *Store) {
		prepareAll(t, s, 1, "1", "a", "b")
		commitFor(t, s, 1, "a")
		wantTold(t, s, []string{"a"}, []api.Answer{{Key: "a", Write: 1, Value: "1"}}, 0, 0)
		wantTold(t, s, []string{"b"}, []api.Answer{{Key: "b"}}, 0, 0)
		wantRead(t, s, []string{"a"}, 3, api.OK)
		askAll(t, s, 3, "a")
		commitAll(t, s, 2, "2", "a")
		wantFinish(t, s, 3, []api.Answer{{Key: "a", Write: 1, Value: "1"}}, 0, 0)
	})
}

func TestSecondQuestionsP6(t *testing.T) {
	inAllModes(t, 3, func(t *testing.T, s *Store) { // c, f: 0; a, d: 1; b, e: 2
		commitAll(t, s, 1, "1", "a", "b", "c", "d", "e", "f")
		all := []string{"a", "b", "c", "d", "e", "f"}
		told := []api.Answer{{Key: "a", Write: 1, Value: "1"}, {Key: "b", Write: 1, Value: "1"}, {Key: "c", Write: 1, Value: "1"}, {Key: "d", Write: 1, Value: "1"}, {Key: "e", Write: 1, Value: "1"}, {Key: "f", Write: 1, Value: "1"}}
		wantTold(t, s, all, told, 0, 6)
		prepareAll(t, s, 2, "2", "a", "b", "c", "d")
		wantTold(t, s, all, told, 0, 6)
		commitFor(t, s, 2, "a") // and d
		for i := range 4 {
			told[i].Write, told[i].Value = 2, "2"
		}
		wantTold(t, s, all, told, 2, 6)                            // b and c
		wantTold(t, s, all[:2], told[:2], 1, 2)                    // b
		wantTold(t, s, []string{"d", "a"}, flip(told, 3, 0), 0, 2) // both are of one part
		prepareAll(t, s, 3, "3", "b", "c", "e", "f")
		commitFor(t, s, 3, "c") // and f
		for _, i := range []int{1, 2, 4, 5} {
			told[i].Write, told[i].Value = 3, "3"
		}
		wantTold(t, s, all, told, 2, 6) // b and e
		wantTold(t, s, []string{"e", "b"}, []api.Answer{{Key: "e", Write: 1, Value: "1"}, {Key: "b", Write: 1, Value: "1"}}, 0, 2)
		commitFor(t, s, 2, "b", "c")
		commitFor(t, s, 3, "b")
		wantTold(t, s, all, told, 0, 6)
	})
}

func flip(answers []api.Answer, one, two int) []api.Answer {
	return []api.Answer{answers[one], answers[two]}
}

func TestAnswersAreInTheOrderOfTheKeysP5(t *testing.T) {
	orders := [][]string{{"1", "2", "3", "4", "5", "6", "7", "8"}, {"8", "7", "6", "5", "4", "3", "2", "1"}, {"5", "1", "8", "2", "7", "3", "6", "4"}}
	for parts := 1; parts <= api.MaxParts; parts++ {
		inAllModes(t, parts, func(t *testing.T, s *Store) {
			for i, order := range orders {
				prepareAll(t, s, i+1, "v", order...)
				commitFor(t, s, i+1, "3")
				fast := 0
				var want []api.Answer
				for _, key := range order {
					want = append(want, api.Answer{Key: key, Write: i + 1, Value: "v"})
					if s.partOf(key) != s.partOf("3") {
						fast++
					}
				}
				for _, asked := range orders {
					read, e := s.Read(order...)
					wantErrno(t, "Read", e, api.OK)
					askAll(t, s, read, asked...)
					wantFinish(t, s, read, want, fast, 8)
				}
			}
		})
	}
}

func TestChosenIsGreatestOfAllCandidatesP5(t *testing.T) {
	inAllModes(t, 4, func(t *testing.T, s *Store) { // a: 1, b: 2, c: 3, d: 0
		prepareAll(t, s, 1, "1", "a", "d")
		prepareAll(t, s, 2, "2", "b", "d")
		prepareAll(t, s, 3, "3", "c", "d")
		commitFor(t, s, 1, "a")
		commitFor(t, s, 3, "c")
		commitFor(t, s, 2, "b")
		a, b, c := api.Answer{Key: "a", Write: 1, Value: "1"}, api.Answer{Key: "b", Write: 2, Value: "2"}, api.Answer{Key: "c", Write: 3, Value: "3"}
		wantTold(t, s, []string{"a", "d"}, []api.Answer{a, {Key: "d", Write: 1, Value: "1"}}, 1, 2)
		wantTold(t, s, []string{"a", "d", "b"}, []api.Answer{a, {Key: "d", Write: 2, Value: "2"}, b}, 1, 3)
		wantTold(t, s, []string{"c", "b", "d", "a"}, []api.Answer{c, b, {Key: "d", Write: 3, Value: "3"}, a}, 1, 4)
		commitFor(t, s, 2, "d")
		wantTold(t, s, []string{"a", "d"}, []api.Answer{a, {Key: "d", Write: 2, Value: "2"}}, 0, 2)
		wantTold(t, s, []string{"d", "a", "c"}, []api.Answer{{Key: "d", Write: 3, Value: "3"}, a, c}, 1, 3)
	})
}

// A chosen write that is no candidate of the key's own brings no siblings: only candidates do.
func TestSiblingsOfNoCandidateAreNotToldP5(t *testing.T) {
	inAllModes(t, 4, func(t *testing.T, s *Store) { // a: 1, b: 2, c: 3
		prepareAll(t, s, 1, "1", "a", "b")
		prepareAll(t, s, 2, "2", "b", "c")
		commitFor(t, s, 1, "a")
		wantTold(t, s, []string{"a", "b", "c"}, []api.Answer{{Key: "a", Write: 1, Value: "1"}, {Key: "b", Write: 1, Value: "1"}, {Key: "c"}}, 1, 3)
		commitFor(t, s, 2, "b")
		wantTold(t, s, []string{"a", "c"}, []api.Answer{{Key: "a", Write: 1, Value: "1"}, {Key: "c"}}, 0, 2)
	})
}

func TestFirstQuestionsHoldWhateverIsCommittedBehindThemP5(t *testing.T) {
	inAllModes(t, 2, func(t *testing.T, s *Store) { // a: 1, b: 0
		commitAll(t, s, 1, "1", "a", "b")
		wantRead(t, s, []string{"a", "b"}, 1, api.OK)
		askAll(t, s, 1, "a")
		commitAll(t, s, 2, "2", "a", "b")
		commitAll(t, s, 3, "3", "a")
		askAll(t, s, 1, "b")
		commitAll(t, s, 4, "4", "a", "b")
		wantFinish(t, s, 1, []api.Answer{{Key: "a", Write: 2, Value: "2"}, {Key: "b", Write: 2, Value: "2"}}, 1, 2)
		wantTold(t, s, []string{"b", "a"}, []api.Answer{{Key: "b", Write: 4, Value: "4"}, {Key: "a", Write: 4, Value: "4"}}, 0, 2)
	})
}

func TestValuesP5(t *testing.T) {
	long := strings.Repeat("\xff", 64)
	inAllModes(t, 4, func(t *testing.T, s *Store) { // a: 1, b: 2, c: 3, d: 0
		wantWrite(t, s, []api.Item{{Key: "a", Value: long}, {Key: "b"}, {Key: "c", Value: "\x00"}, {Key: "d", Value: "a"}}, 1, api.OK)
		for part := range 4 {
			wantErrno(t, "Prepare", s.Prepare(1, part), api.OK)
		}
		want := []api.Answer{{Key: "d", Write: 1, Value: "a"}, {Key: "c", Write: 1, Value: "\x00"}, {Key: "b", Write: 1}, {Key: "a", Write: 1, Value: long}}
		for i, key := range []string{"a", "b", "c", "d"} {
			commitFor(t, s, 1, key)
			wantTold(t, s, []string{"d", "c", "b", "a"}, want, 3-i, 4)
		}
		commitAll(t, s, 2, "", "a")
		want[3] = api.Answer{Key: "a", Write: 2}
		wantTold(t, s, []string{"d", "c", "b", "a"}, want, 0, 4)
	})
}

func TestKeysAreAllTheirBytesP5(t *testing.T) {
	inAllModes(t, 1, func(t *testing.T, s *Store) {
		commitAll(t, s, 1, "1", "\x00", "a")
		commitAll(t, s, 2, "2", "\x00\x00", "A", "12345678")
		wantTold(t, s, []string{"12345678", "\x00", "A", "a", "\x00\x00", "1234567", "\x00\x00\x00"}, []api.Answer{{Key: "12345678", Write: 2, Value: "2"}, {Key: "\x00", Write: 1, Value: "1"}, {Key: "A", Write: 2, Value: "2"}, {Key: "a", Write: 1, Value: "1"}, {Key: "\x00\x00", Write: 2, Value: "2"}, {Key: "1234567"}, {Key: "\x00\x00\x00"}}, 0, 7)
	})
}

// What Mixed carries along is the same for keys that are 64 bytes apart, so it has to ask where Fast has not, and must tell the same.
func TestMixedIsNotLedAstrayP6P7(t *testing.T) {
	for _, c := range []struct {
		mode api.Mode
		want int
	}{{api.Fast, 0}, {api.Small, 3}, {api.Mixed, 1}} {
		s, _ := New(2, c.mode) // a, !: 1; b: 0
		commitAll(t, s, 1, "1", "!", "b")
		commitAll(t, s, 2, "2", "a", "b")
		wantTold(t, s, []string{"!", "a", "b"}, []api.Answer{{Key: "!", Write: 1, Value: "1"}, {Key: "a", Write: 2, Value: "2"}, {Key: "b", Write: 2, Value: "2"}}, 0, 3)
		read, _ := s.Read("!", "a", "b")
		askAll(t, s, read, "!", "a", "b")
		if _, asked, _ := s.Finish(read); asked != c.want {
			t.Errorf("mode %d: %d second questions, want %d", c.mode, asked, c.want)
		}
		wantTold(t, s, []string{"!", "a"}, []api.Answer{{Key: "!", Write: 1, Value: "1"}, {Key: "a", Write: 2, Value: "2"}}, 0, 2)
		wantTold(t, s, []string{"a", "c", "\xe1"}, []api.Answer{{Key: "a", Write: 2, Value: "2"}, {Key: "c"}, {Key: "\xe1"}}, 0, 3)
	}
}

func TestModesKeepNoMoreThanTheyCarryP6(t *testing.T) {
	inAllModes(t, 2, func(t *testing.T, s *Store) {
		commitAll(t, s, 1, "1", "a", "b")
		wantRead(t, s, []string{"a", "b"}, 1, api.OK)
		askAll(t, s, 1, "a", "b")
		for key, each := range s.reads[1].questions {
			isCarried := s.mode != api.Small
			if each.told.HasValue != isCarried || (each.told.Value == "1") != isCarried || (each.told.Siblings != nil) != isCarried {
				t.Errorf("mode %d: of %q is told %v", s.mode, key, each.told)
			}
		}
		wantFinish(t, s, 1, []api.Answer{{Key: "a", Write: 1, Value: "1"}, {Key: "b", Write: 1, Value: "1"}}, 0, 2)
		if len(s.reads) != 0 {
			t.Errorf("mode %d: %d reads are remembered, want none", s.mode, len(s.reads))
		}
	})
}
