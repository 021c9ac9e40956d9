package keep

import "slices"

// Siblings is what first questions carry along of the keys that a write writes.
type Siblings interface {
	// MayWrite is true of each of these keys. It may be true of another key as well: then a second question shows it.
	MayWrite(key string) bool
}

// Keys carries them whole, so it is never wrong.
type Keys []string

// MayWrite tells if the write writes this key.
func (k Keys) MayWrite(key string) bool { return slices.Contains(k, key) }

// Mask carries one bit for each: it is as short for many keys as for one, and wrong where two keys share a bit.
type Mask uint64

// MaskOf makes the mask of some keys.
func MaskOf(keys []string) Mask {
	var mask Mask
	for _, key := range keys {
		mask |= bitOf(key)
	}
	return mask
}

// MayWrite tells if the write writes this key or one with the same bit.
func (m Mask) MayWrite(key string) bool { return m&bitOf(key) != 0 }

func bitOf(key string) Mask {
	var hash uint64
	for _, b := range []byte(key) {
		hash = hash*31 + uint64(b) // a plain sum would give keys of the same bytes one bit
	}
	return 1 << (hash % 64)
}

// Told is what a first question tells of a key's visible write.
type Told struct {
	Write    int // 0: there is none
	HasValue bool
	Value    string
	Siblings Siblings // nil: nothing is carried along
}

// MayWrite is true of every key if nothing is carried along by which one could be ruled out.
func (t Told) MayWrite(key string) bool { return t.Siblings == nil || t.Siblings.MayWrite(key) }
