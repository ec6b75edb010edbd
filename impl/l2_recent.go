package impl

import "slices"

// MaxTrace is the largest number of keys of a trace.
const MaxTrace = 24

// MaxRoom is the largest room of a cache.
const MaxRoom = 8

// validRoom reports whether a number is the room of a cache.
func validRoom(room int) bool {
	return 1 <= room && room <= MaxRoom
}

// ValidTrace reports whether a trace of keys is valid.
func ValidTrace(t []int) bool {
	if len(t) > MaxTrace {
		return false
	}
	for _, key := range t {
		if !validKey(key) {
			return false
		}
	}
	return true
}

// ValidKeys reports whether the keys of a cache are valid.
func ValidKeys(list []int, room int) bool {
	return validRoom(room) && len(list) <= room && differentKeys(list)
}

// differentKeys reports whether a list has only keys, each of them once.
func differentKeys(list []int) bool {
	for i, key := range list {
		if !validKey(key) || slices.Contains(list[:i], key) {
			return false
		}
	}
	return true
}

// UseRecent returns a cache after a key was used, the least recent one being left out.
func UseRecent(list []int, room int, key int) ([]int, bool) {
	if !ValidKeys(list, room) || !validKey(key) {
		return nil, false
	}
	out := putFirst(withoutKey(list, key), key)
	return out[:min(len(out), room)], slices.Contains(list, key)
}

// withoutKey returns the keys of a list but one, in order.
func withoutKey(list []int, key int) []int {
	out := []int{}
	for _, other := range list {
		if other != key {
			out = append(out, other)
		}
	}
	return out
}

// putFirst returns a list with a key more, at its beginning.
func putFirst(list []int, key int) []int {
	return append([]int{key}, list...)
}

// RunRecent returns a cache after a trace.
func RunRecent(t []int, room int) ([]int, int) {
	return runTrace(t, room, UseRecent)
}

// UseFirst returns a cache after a key was used, the first one being left out.
func UseFirst(list []int, room int, key int) ([]int, bool) {
	if !ValidKeys(list, room) || !validKey(key) {
		return nil, false
	}
	out := append([]int{}, list...)
	if slices.Contains(list, key) {
		return out, true
	}
	out = append(out, key)
	return out[max(len(out)-room, 0):], false
}

// RunFirst returns a cache after a trace.
func RunFirst(t []int, room int) ([]int, int) {
	return runTrace(t, room, UseFirst)
}

// runTrace uses all keys of a trace in a cache that is empty at first, and counts those that were there.
func runTrace(t []int, room int, use func(list []int, room int, key int) ([]int, bool)) ([]int, int) {
	if !ValidTrace(t) || !validRoom(room) {
		return nil, -1
	}
	return useAll(t, []int{}, func(list []int, key int) ([]int, bool) {
		return use(list, room, key)
	})
}

// useAll uses all keys of a trace in a cache of any kind, and counts those that were there.
func useAll[Cache any](t []int, cache Cache, use func(cache Cache, key int) (Cache, bool)) (Cache, int) {
	hits := 0
	for _, key := range t {
		next, hit := use(cache, key)
		if hit {
			hits++
		}
		cache = next
	}
	return cache, hits
}
