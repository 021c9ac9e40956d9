package siblings

import (
	"siblings/api"
	"siblings/keep"
)

// siblingsOf is what first questions carry along, by the mode, of the keys that a write writes.
func siblingsOf(mode api.Mode, keys []string) keep.Siblings {
	switch mode {
	case api.Fast:
		return keep.Keys(keys)
	case api.Mixed:
		return keep.MaskOf(keys)
	}
	return nil
}

// isNumbersOnly tells if a read's first questions carry nothing along. That of a lone key has no second one to wait for, so it brings the value in every mode.
func isNumbersOnly(mode api.Mode, keys []string) bool {
	return mode == api.Small && len(keys) > 1
}
