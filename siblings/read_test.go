package siblings

import (
	"strings"
	"testing"

	"siblings/api"
)

func TestReadRefusalsP4(t *testing.T) {
	eight := []string{"1", "2", "3", "4", "5", "6", "7", "8"}
	for _, mode := range modes {
		s, _ := New(3, mode)
		for _, c := range []struct {
			keys []string
			want api.Errno
		}{
			{nil, api.ErrSize},
			{[]string{}, api.ErrSize},
			{append(eight[:8:8], "9"), api.ErrSize},
			{make([]string, 9), api.ErrSize},
			{make([]string, 1<<16), api.ErrSize},
			{[]string{""}, api.ErrKey},
			{make([]string, 8), api.ErrKey},
			{[]string{"123456789"}, api.ErrKey},
			{[]string{"ééééa"}, api.ErrKey}, // five runes, nine bytes
			{[]string{strings.Repeat("a", 1<<20)}, api.ErrKey},
			{append(eight[:7:7], "123456789"), api.ErrKey},
			{append(eight[:7:7], "1"), api.ErrTwice},
			{append(eight[:7:7], "7"), api.ErrTwice},
			{[]string{"a", "a"}, api.ErrTwice},
			{[]string{"a", "b", "b", ""}, api.ErrTwice},
			{[]string{"a", "", "a"}, api.ErrKey},
			{[]string{"123456789", "123456789"}, api.ErrKey},
		} {
			wantRead(t, s, c.keys, 0, c.want)
		}
		wantRead(t, s, eight, 1, api.OK)
		wantRead(t, s, []string{"12345678", "a", "A", "\x00", "\x00\x00", "éééé"}, 2, api.OK)
		wantRead(t, s, []string{"a"}, 3, api.OK)
	}
}

func TestReadNumbersAreNotThoseOfWritesP4(t *testing.T) {
	s := newStore(t, 2)
	begin(t, s, 1, "a")
	begin(t, s, 2, "a")
	wantRead(t, s, []string{"a"}, 1, api.OK)
	begin(t, s, 3, "a")
	wantRead(t, s, []string{"a"}, 2, api.OK)
	wantErrno(t, "Ask of what is only a write's number", s.Ask(3, "a"), api.ErrNone)
	wantErrno(t, "Cancel", s.Cancel(2), api.OK)
	wantErrno(t, "Ask of a read with the number of a cancelled write", s.Ask(2, "a"), api.OK)
}

func TestReadFullP4(t *testing.T) {
	s := newStore(t, 2)
	for n := 1; n <= 50; n++ {
		wantRead(t, s, []string{"a", "b"}, n, api.OK)
		wantErrno(t, "Ask", s.Ask(n, "a"), api.OK)
		if n%2 == 0 {
			wantErrno(t, "Ask", s.Ask(n, "b"), api.OK) // to have asked all is not to be finished
		}
	}
	wantRead(t, s, []string{"a"}, 0, api.ErrFull)
	wantRead(t, s, nil, 0, api.ErrSize)
	wantRead(t, s, []string{""}, 0, api.ErrKey)
	wantRead(t, s, []string{"a", "a"}, 0, api.ErrTwice)
	wantErrno(t, "Ask of one behind the last", s.Ask(51, "a"), api.ErrNone)
	wantErrno(t, "Ask of the last but one", s.Ask(49, "b"), api.OK)
	begin(t, s, 1, "a")
}

func TestFinishedReadMakesRoomP4(t *testing.T) {
	s := newStore(t, 2)
	for n := 1; n <= 50; n++ {
		wantRead(t, s, []string{"a"}, n, api.OK)
	}
	wantNoFinish(t, s, 7, api.ErrOrder)
	wantRead(t, s, []string{"a"}, 0, api.ErrFull)
	for _, n := range []int{7, 50} {
		askAll(t, s, n, "a")
		wantFinish(t, s, n, []api.Answer{{Key: "a"}}, 0, 0)
		wantNoFinish(t, s, n, api.ErrNone) // which makes no room again
	}
	wantErrno(t, "Ask of a finished read", s.Ask(7, "a"), api.ErrNone)
	wantErrno(t, "Ask of a finished read, of no key", s.Ask(50, ""), api.ErrNone)
	wantRead(t, s, []string{"a"}, 51, api.OK)
	wantRead(t, s, []string{"b"}, 52, api.OK)
	wantRead(t, s, []string{"c"}, 0, api.ErrFull)
	wantErrno(t, "Ask of a finished read, behind others", s.Ask(7, "a"), api.ErrNone)
	wantErrno(t, "Ask", s.Ask(52, "b"), api.OK)
}

func TestAskP4(t *testing.T) {
	for _, mode := range modes {
		s, _ := New(3, mode) // a, d: 1; b: 2; c: 0
		begin(t, s, 1, "e")
		wantErrno(t, "Ask of no read", s.Ask(1, "a"), api.ErrNone)
		wantRead(t, s, []string{"d", "b", "a"}, 1, api.OK)
		wantRead(t, s, []string{"c", "a"}, 2, api.OK)
		wantErrno(t, "Ask of no read, of no key", s.Ask(3, ""), api.ErrNone)
		for _, key := range []string{"", "c", "e", "A", "aa", "ad", "\x00", "a\x00", "123456789", strings.Repeat("a", 1<<20)} {
			wantErrno(t, "Ask of another key", s.Ask(1, key), api.ErrKey)
		}
		for _, key := range []string{"a", "d", "b"} {
			wantNotAsked(t, s, 1, key)
			wantErrno(t, "Ask", s.Ask(1, key), api.OK)
			wantErrno(t, "Ask again", s.Ask(1, key), api.ErrDone)
			wantCandidate(t, s, 1, key, 0)
		}
		wantErrno(t, "Ask of another key, all being asked", s.Ask(1, "c"), api.ErrKey)
		wantErrno(t, "Ask of what another read has asked", s.Ask(2, "a"), api.OK)
		wantNotAsked(t, s, 2, "c")
		wantErrno(t, "Ask", s.Ask(2, "c"), api.OK)
	}
}

func TestCandidateIsVisibleWriteP4(t *testing.T) {
	s := newStore(t, 2) // a: 1, b: 0
	begin(t, s, 1, "a", "b")
	wantErrno(t, "Prepare", s.Prepare(1, 0), api.OK)
	wantErrno(t, "Prepare", s.Prepare(1, 1), api.OK)
	wantRead(t, s, []string{"a", "b"}, 1, api.OK)
	wantRead(t, s, []string{"a", "b"}, 2, api.OK)
	wantErrno(t, "Ask, it being only prepared", s.Ask(1, "a"), api.OK)
	wantErrno(t, "Commit", s.Commit(1, 1), api.OK)
	wantErrno(t, "Ask, it being committed", s.Ask(2, "a"), api.OK)
	wantErrno(t, "Ask, it being committed elsewhere", s.Ask(2, "b"), api.OK)
	wantErrno(t, "Commit", s.Commit(1, 0), api.OK)
	wantErrno(t, "Ask, it being committed everywhere", s.Ask(1, "b"), api.OK)
	wantCandidate(t, s, 1, "a", 0)
	wantCandidate(t, s, 1, "b", 1)
	wantCandidate(t, s, 2, "a", 1)
	wantCandidate(t, s, 2, "b", 0)
}

func TestCandidateIsGreatestP4(t *testing.T) {
	s := newStore(t, 2)
	begin(t, s, 1, "a", "c")
	begin(t, s, 2, "a")
	begin(t, s, 3, "a")
	for n := 1; n <= 3; n++ {
		wantErrno(t, "Prepare", s.Prepare(n, 1), api.OK)
	}
	wantErrno(t, "Commit of the greater", s.Commit(2, 1), api.OK)
	wantErrno(t, "Commit of the smaller", s.Commit(1, 1), api.OK)
	wantErrno(t, "Cancel of the greatest", s.Cancel(3), api.OK)
	wantRead(t, s, []string{"c", "a"}, 1, api.OK)
	wantErrno(t, "Ask", s.Ask(1, "a"), api.OK)
	wantErrno(t, "Ask", s.Ask(1, "c"), api.OK)
	wantCandidate(t, s, 1, "a", 2)
	wantCandidate(t, s, 1, "c", 1)
}

func TestCandidateStaysP4(t *testing.T) {
	s := newStore(t, 2)
	begin(t, s, 1, "a")
	begin(t, s, 2, "a")
	wantRead(t, s, []string{"a", "b"}, 1, api.OK)
	for n := 1; n <= 2; n++ {
		wantErrno(t, "Prepare", s.Prepare(n, 1), api.OK)
		wantErrno(t, "Commit", s.Commit(n, 1), api.OK)
		wantErrno(t, "Ask", s.Ask(1, "a"), map[int]api.Errno{1: api.OK, 2: api.ErrDone}[n])
		wantCandidate(t, s, 1, "a", 1)
	}
}
