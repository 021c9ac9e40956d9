package siblings

import (
	"slices"

	"siblings/api"
)

func isKey(key string) bool { return len(key) >= 1 && len(key) <= api.MaxKey }

func isMode(mode api.Mode) bool {
	return mode == api.Fast || mode == api.Small || mode == api.Mixed
}

func isSize(size int) bool { return size >= 1 && size <= api.MaxItems }

func checkItems(items []api.Item) api.Errno {
	if !isSize(len(items)) {
		return api.ErrSize
	}
	for i, item := range items {
		if !isKey(item.Key) || len(item.Value) > api.MaxValue {
			return api.ErrKey
		}
		sameKey := func(ahead api.Item) bool { return ahead.Key == item.Key }
		if slices.ContainsFunc(items[:i], sameKey) {
			return api.ErrTwice
		}
	}
	return api.OK
}

func checkKeys(keys []string) api.Errno {
	if !isSize(len(keys)) {
		return api.ErrSize
	}
	for i, key := range keys {
		if !isKey(key) {
			return api.ErrKey
		}
		if slices.Contains(keys[:i], key) {
			return api.ErrTwice
		}
	}
	return api.OK
}
