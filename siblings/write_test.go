package siblings

import (
	"strings"
	"testing"

	"siblings/api"
)

func TestWriteRefusalsP3(t *testing.T) {
	longest, tooLong := strings.Repeat("v", 64), strings.Repeat("v", 65)
	eight := []api.Item{{Key: "1"}, {Key: "2"}, {Key: "3"}, {Key: "4"}, {Key: "5"}, {Key: "6"}, {Key: "7"}, {Key: "8"}}
	s := newStore(t, 3)
	for _, c := range []struct {
		items []api.Item
		want  api.Errno
	}{
		{nil, api.ErrSize},
		{[]api.Item{}, api.ErrSize},
		{append(eight[:8:8], api.Item{Key: "9"}), api.ErrSize},
		{make([]api.Item, 9), api.ErrSize},
		{make([]api.Item, 1<<16), api.ErrSize},
		{[]api.Item{{}}, api.ErrKey},
		{[]api.Item{{Key: "123456789"}}, api.ErrKey},
		{[]api.Item{{Key: "a", Value: tooLong}}, api.ErrKey},
		{append(eight[:7:7], api.Item{Key: "8", Value: tooLong}), api.ErrKey},
		{append(eight[:7:7], api.Item{Key: "1"}), api.ErrTwice},
		{[]api.Item{{Key: "a", Value: "x"}, {Key: "a", Value: "y"}}, api.ErrTwice},
		{[]api.Item{{Key: "a"}, {Key: "b"}, {Key: "b"}, {}}, api.ErrTwice},
		{[]api.Item{{Key: "a"}, {}, {Key: "a"}}, api.ErrKey},
		{[]api.Item{{Key: "a"}, {Key: "a", Value: tooLong}}, api.ErrKey},
	} {
		wantWrite(t, s, c.items, 0, c.want)
	}
	wantWrite(t, s, eight, 1, api.OK)
	wantWrite(t, s, []api.Item{{Key: "12345678", Value: longest}, {Key: "a"}, {Key: "A"}, {Key: "\x00"}}, 2, api.OK)
}

func TestWriteFullP3(t *testing.T) {
	s := newStore(t, 2)
	for n := 1; n <= 200; n++ {
		begin(t, s, n, "a")
		if n%3 == 0 {
			wantErrno(t, "Cancel", s.Cancel(n), api.OK)
		}
	}
	wantWrite(t, s, []api.Item{{Key: "a"}}, 0, api.ErrFull)
	wantErrno(t, "Cancel", s.Cancel(200), api.OK)
	wantWrite(t, s, []api.Item{{Key: "a"}}, 0, api.ErrFull)
	wantWrite(t, s, nil, 0, api.ErrSize)
	wantWrite(t, s, []api.Item{{}}, 0, api.ErrKey)
	wantWrite(t, s, []api.Item{{Key: "a"}, {Key: "a"}}, 0, api.ErrTwice)
	wantErrno(t, "Prepare of the last", s.Prepare(199, 1), api.OK)
	wantErrno(t, "Prepare of one behind the last", s.Prepare(201, 1), api.ErrNone)
}

func TestPrepareP3(t *testing.T) {
	s := newStore(t, 3) // a, d: 1; b: 2; c: 0
	begin(t, s, 1, "a", "b", "d")
	wantErrno(t, "Prepare of none, on no part", s.Prepare(2, 9), api.ErrNone)
	wantErrno(t, "Prepare of another's part", s.Prepare(1, 0), api.ErrPart)
	wantErrno(t, "Prepare behind the parts", s.Prepare(1, 3), api.ErrPart)
	wantErrno(t, "Prepare ahead of the parts", s.Prepare(1, -1), api.ErrPart)
	wantKept(t, s, 1, "a", "", false)
	wantErrno(t, "Prepare", s.Prepare(1, 1), api.OK)
	wantErrno(t, "Prepare again", s.Prepare(1, 1), api.ErrDone)
	wantKept(t, s, 1, "a", "a", true)
	wantKept(t, s, 1, "d", "d", true)
	wantKept(t, s, 1, "b", "", false)
	wantErrno(t, "Prepare on the other", s.Prepare(1, 2), api.OK)
	wantKept(t, s, 1, "b", "b", true)
	for _, key := range []string{"a", "b", "d"} {
		wantVisible(t, s, key, 0)
	}
	wantErrno(t, "Commit", s.Commit(1, 1), api.OK)
	wantErrno(t, "Prepare of what is committed", s.Prepare(1, 1), api.ErrDone)
}

func TestCommitP3(t *testing.T) {
	s := newStore(t, 3)
	begin(t, s, 1, "a", "b", "d")
	wantErrno(t, "Commit of none, on no part", s.Commit(2, 9), api.ErrNone)
	wantErrno(t, "Commit on another's part, too early", s.Commit(1, 0), api.ErrPart)
	wantErrno(t, "Commit with nothing prepared", s.Commit(1, 1), api.ErrOrder)
	wantErrno(t, "Prepare", s.Prepare(1, 2), api.OK)
	wantErrno(t, "Commit where it is prepared, too early", s.Commit(1, 2), api.ErrOrder)
	wantErrno(t, "Commit where it is not prepared", s.Commit(1, 1), api.ErrOrder)
	wantVisible(t, s, "b", 0)
	wantErrno(t, "Prepare", s.Prepare(1, 1), api.OK)
	wantErrno(t, "Commit", s.Commit(1, 2), api.OK)
	wantErrno(t, "Commit again", s.Commit(1, 2), api.ErrDone)
	wantErrno(t, "Commit on another's part", s.Commit(1, 0), api.ErrPart)
	wantVisible(t, s, "b", 1)
	wantVisible(t, s, "a", 0)
	wantErrno(t, "Commit", s.Commit(1, 1), api.OK)
	wantErrno(t, "Commit again", s.Commit(1, 1), api.ErrDone)
	wantVisible(t, s, "a", 1)
	wantVisible(t, s, "d", 1)
}

func TestGreatestIsVisibleP3(t *testing.T) {
	s := newStore(t, 2)
	begin(t, s, 1, "a", "c")
	begin(t, s, 2, "a")
	wantErrno(t, "Prepare", s.Prepare(1, 1), api.OK)
	wantErrno(t, "Prepare", s.Prepare(2, 1), api.OK)
	wantErrno(t, "Commit of the greater", s.Commit(2, 1), api.OK)
	wantErrno(t, "Commit of the smaller", s.Commit(1, 1), api.OK)
	wantVisible(t, s, "a", 2)
	wantVisible(t, s, "c", 1)
}

func TestCancelP3(t *testing.T) {
	s := newStore(t, 2) // a: 1, b: 0
	begin(t, s, 1, "a", "b")
	begin(t, s, 2, "a", "b")
	wantErrno(t, "Cancel of none", s.Cancel(3), api.ErrNone)
	wantErrno(t, "Cancel of none", s.Cancel(0), api.ErrNone)
	for _, part := range []int{0, 1} {
		wantErrno(t, "Prepare", s.Prepare(1, part), api.OK)
		wantErrno(t, "Prepare", s.Prepare(2, part), api.OK)
	}
	wantErrno(t, "Cancel", s.Cancel(1), api.OK)
	for _, key := range []string{"a", "b"} {
		wantKept(t, s, 1, key, "", false)
		wantKept(t, s, 2, key, key, true)
	}
	wantErrno(t, "Cancel again", s.Cancel(1), api.ErrNone)
	wantErrno(t, "Prepare of what is cancelled", s.Prepare(1, 1), api.ErrNone)
	wantErrno(t, "Prepare of what is cancelled, on no part", s.Prepare(1, 7), api.ErrNone)
	wantErrno(t, "Commit of what is cancelled", s.Commit(1, 1), api.ErrNone)
	wantErrno(t, "Commit", s.Commit(2, 0), api.OK)
	wantErrno(t, "Cancel, committed on one part", s.Cancel(2), api.ErrOrder)
	wantKept(t, s, 2, "a", "a", true)
	wantErrno(t, "Commit", s.Commit(2, 1), api.OK)
	wantErrno(t, "Cancel, committed on all parts", s.Cancel(2), api.ErrOrder)
	begin(t, s, 3, "a")
	wantErrno(t, "Cancel with nothing prepared", s.Cancel(3), api.OK)
	begin(t, s, 4, "a")
}

func TestFoundJustBeforeCancelP3(t *testing.T) {
	s := newStore(t, 2)
	begin(t, s, 1, "a")
	found, _ := s.findWrite(1)
	wantErrno(t, "Cancel", s.Cancel(1), api.OK)
	wantErrno(t, "prepare of what was found ahead", found.prepare(1), api.ErrNone)
	wantErrno(t, "commit of what was found ahead", found.commit(1), api.ErrNone)
	wantErrno(t, "cancel of what was found ahead", found.cancel(), api.ErrNone)
	wantKept(t, s, 1, "a", "", false)
	if len(s.writes) != 0 {
		t.Errorf("%d writes are remembered, want none", len(s.writes))
	}
}
