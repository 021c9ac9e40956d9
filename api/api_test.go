package api

import "testing"

func TestNumbers(t *testing.T) {
	for i, e := range []Errno{OK, ErrParts, ErrMode, ErrSize, ErrKey, ErrTwice, ErrFull, ErrNone, ErrPart, ErrOrder, ErrDone} {
		if int(e) != i {
			t.Errorf("the error %d has the number %d", i, e)
		}
	}
	for i, m := range []Mode{Fast, Small, Mixed} {
		if int(m) != i+1 {
			t.Errorf("the mode %d has the number %d", i+1, m)
		}
	}
	limits := [...]int{MaxParts, MaxItems, MaxKey, MaxValue, MaxWrites, MaxReads}
	if limits != [...]int{4, 8, 8, 64, 200, 50} {
		t.Errorf("the limits are %v", limits)
	}
}
