package keep

import "testing"

func wantMayWrite(t *testing.T, s Siblings, key string, want bool) {
	t.Helper()
	if got := s.MayWrite(key); got != want {
		t.Errorf("%T: MayWrite(%q) = %v, want %v", s, key, got, want)
	}
}

func TestKeysAreNeverWrong(t *testing.T) {
	for b := range 256 {
		key := string([]byte{byte(b)})
		wantMayWrite(t, Keys{"a", "\xff", "ab"}, key, key == "a" || key == "\xff")
	}
	wantMayWrite(t, Keys{"a", "ab"}, "ab", true)
	wantMayWrite(t, Keys{"a", "ab"}, "ba", false)
	wantMayWrite(t, Keys{}, "a", false)
}

func TestMaskMissesNoKey(t *testing.T) {
	var keys []string
	for _, key := range []string{"a", "b", "ab", "ba", "\x00", "\x00\x00", "\xff", "\xff\xff\xff\xff\xff\xff\xff\xff", "12345678"} {
		keys = append(keys, key)
		for _, each := range keys {
			wantMayWrite(t, MaskOf(keys), each, true)
		}
	}
}

func TestMaskRulesOut(t *testing.T) {
	mask := MaskOf([]string{"a", "ab"})
	for _, key := range []string{"b", "c", "A", "aa", "ba", "\x00"} {
		wantMayWrite(t, mask, key, false)
	}
	wantMayWrite(t, mask, "!", true) // 64 bytes ahead of a, so with the same bit
	wantMayWrite(t, MaskOf(nil), "a", false)
}

func TestToldWithNothingCarriedRulesOutNone(t *testing.T) {
	wantMayWrite(t, Told{Write: 1}, "a", true)
	wantMayWrite(t, Told{Write: 1, Siblings: Keys{"a"}}, "a", true)
	wantMayWrite(t, Told{Write: 1, Siblings: Keys{"a"}}, "b", false)
	wantMayWrite(t, Told{Write: 1, Siblings: MaskOf([]string{"a"})}, "a", true)
	wantMayWrite(t, Told{Write: 1, Siblings: MaskOf([]string{"a"})}, "b", false)
}
