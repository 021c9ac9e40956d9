package siblings

import (
	"math"
	"strings"
	"testing"

	"siblings/api"
)

func TestNewP2(t *testing.T) {
	numbers := []int{math.MinInt, -1, 0, 1, 2, 3, 4, 5, 1 << 32, 1<<32 + 1, math.MaxInt}
	for _, parts := range numbers {
		for _, mode := range numbers {
			want := api.OK
			if parts < 1 || parts > 4 {
				want = api.ErrParts
			} else if mode < 1 || mode > 3 {
				want = api.ErrMode
			}
			s, e := New(parts, api.Mode(mode))
			if e != want || (s != nil) != (want == api.OK) {
				t.Errorf("New(%d, %d) = %v, %d, want %d", parts, mode, s != nil, e, want)
			}
		}
	}
}

func TestNewIsEmptyP2(t *testing.T) {
	for parts := 1; parts <= api.MaxParts; parts++ {
		s := newStore(t, parts)
		wantErrno(t, "Prepare of no write", s.Prepare(1, 0), api.ErrNone)
		wantErrno(t, "Commit of no write", s.Commit(1, 0), api.ErrNone)
		wantErrno(t, "Cancel of no write", s.Cancel(1), api.ErrNone)
		wantErrno(t, "Ask of no read", s.Ask(1, "a"), api.ErrNone)
		wantNoFinish(t, s, 1, api.ErrNone)
		wantVisible(t, s, "a", 0)
		begin(t, s, 1, "a")
		wantRead(t, s, []string{"a"}, 1, api.OK)
	}
}

func TestPartP2(t *testing.T) {
	for _, c := range []struct {
		parts int
		key   string
		want  int
		wantE api.Errno
	}{
		{2, "a", 1, api.OK},
		{2, "b", 0, api.OK},
		{4, "ab", 3, api.OK},
		{4, "ba", 3, api.OK},
		{3, "\x00", 0, api.OK},
		{3, "é", 1, api.OK}, // 195 + 169: bytes, not runes
		{4, "\xff", 3, api.OK},
		{3, "\xff\xff\xff\xff\xff\xff\xff\xfe", 2, api.OK}, // the sum is 2039: no byte holds it
		{1, "\xff\xff\xff\xff\xff\xff\xff\xff", 0, api.OK},
		{4, "12345678", 0, api.OK}, // 420
		{4, "", 0, api.ErrKey},
		{4, "123456789", 0, api.ErrKey},
		{4, "ééééa", 0, api.ErrKey}, // five runes, nine bytes
		{4, strings.Repeat("a", 1<<20), 0, api.ErrKey},
	} {
		if p, e := newStore(t, c.parts).Part(c.key); p != c.want || e != c.wantE {
			t.Errorf("of %d parts Part(%.20q) = %d, %d, want %d, %d", c.parts, c.key, p, e, c.want, c.wantE)
		}
	}
}

func TestPartOfEveryByteP2(t *testing.T) {
	for parts := 1; parts <= api.MaxParts; parts++ {
		s := newStore(t, parts)
		for b := range 256 {
			if p, e := s.Part(string([]byte{byte(b)})); p != b%parts || e != api.OK {
				t.Errorf("of %d parts the byte %d is on %d, %d", parts, b, p, e)
			}
		}
	}
}
