package tests

import (
	"slices"
	"testing"

	"loop.example/cacheengine/impl"
)

// segments are valid segments of all rooms, each of both empty, nearly full and full, with few keys and with many.
func segments() []impl.Segments {
	d := &dice{4}
	out := []impl.Segments{}
	for trial := 1; trial <= 8; trial++ {
		for safe := 1; safe <= 8; safe++ {
			for _, news := range fillings(trial) {
				for _, olds := range fillings(safe) {
					for _, most := range []int{16, 31} {
						keys := d.keys(news+olds, most)
						out = append(out, impl.Segments{Trial: trial, Safe: safe, New: keys[:news:news], Old: keys[news:]})
					}
				}
			}
		}
	}
	return out
}

// fillings returns how many keys to put into a room: none, one, one less than fit, and as many as fit.
func fillings(room int) []int {
	return slices.Compact(slices.Sorted(slices.Values([]int{0, 1, room - 1, room})))
}

// forSegments calls a test with all segments, and with keys that are there and keys that are not.
func forSegments(test func(s impl.Segments, key int)) {
	for _, s := range segments() {
		for _, key := range keysToUse(slices.Concat(s.Old, s.New)) {
			test(s, key)
		}
	}
}

// badSegments are segments with a part that is not valid, or a key in both.
func badSegments() []impl.Segments {
	out := []impl.Segments{{}}
	for _, c := range badCaches() {
		out = append(out,
			impl.Segments{Trial: c.room, Safe: 1, New: c.list}, impl.Segments{Trial: 1, Safe: c.room, Old: c.list},
			impl.Segments{Trial: c.room, Safe: 8, New: c.list, Old: []int{20}}, impl.Segments{Trial: 8, Safe: c.room, New: []int{20}, Old: c.list},
			impl.Segments{Trial: c.room, Safe: c.room, New: c.list, Old: c.list})
	}
	for place := range 64 {
		s := impl.Segments{Trial: 8, Safe: 8, New: loop(8, 8), Old: loop(16, 16)[8:]}
		s.Old[place/8] = s.New[place%8]
		out = append(out, s)
	}
	for _, s := range segments() {
		for _, key := range s.New {
			if len(s.Old) < s.Safe {
				out = append(out, impl.Segments{Trial: s.Trial, Safe: s.Safe, New: s.New, Old: append(slices.Clone(s.Old), key)})
			}
		}
		for _, key := range s.Old {
			if len(s.New) < s.Trial {
				out = append(out, impl.Segments{Trial: s.Trial, Safe: s.Safe, New: append([]int{key}, s.New...), Old: s.Old})
			}
		}
	}
	return out
}

// sameSegments reports whether two segments are the same.
func sameSegments(a impl.Segments, b impl.Segments) bool {
	return a.Trial == b.Trial && a.Safe == b.Safe && slices.Equal(a.New, b.New) && slices.Equal(a.Old, b.Old)
}

// firstOf reports whether a key is the first one of a list.
func firstOf(list []int, key int) bool {
	return len(list) > 0 && list[0] == key
}

// segmentsAfter returns what UseSegments should return: it puts the key into a list first, and then cuts what is too long.
func segmentsAfter(s impl.Segments, key int) (impl.Segments, bool) {
	out := impl.Segments{Trial: s.Trial, Safe: s.Safe, New: without(s.New, key), Old: without(s.Old, key)}
	there := slices.Contains(s.New, key) || slices.Contains(s.Old, key)
	if there {
		out.Old = append([]int{key}, out.Old...)
	} else {
		out.New = append([]int{key}, out.New...)
	}
	if len(out.Old) > s.Safe {
		out.New = append([]int{out.Old[s.Safe]}, out.New...)
		out.Old = out.Old[:s.Safe]
	}
	out.New = out.New[:min(len(out.New), s.Trial)]
	return out, there
}

func TestP029SegmentsCanBeEmpty(t *testing.T) {
	for trial := -1; trial <= 10; trial++ {
		for safe := -1; safe <= 10; safe++ {
			want := trial >= 1 && trial <= 8 && safe >= 1 && safe <= 8
			if impl.ValidSegments(impl.Segments{Trial: trial, Safe: safe}) != want {
				t.Errorf("ValidSegments without keys, with the rooms %d and %d, is %t", trial, safe, !want)
			}
			if impl.ValidSegments(impl.Segments{Trial: trial, Safe: safe, New: []int{}, Old: []int{}}) != want {
				t.Errorf("ValidSegments of empty slices, with the rooms %d and %d, is %t", trial, safe, !want)
			}
		}
	}
	for _, room := range badRooms() {
		if impl.ValidSegments(impl.Segments{Trial: room, Safe: 1}) || impl.ValidSegments(impl.Segments{Trial: 1, Safe: room}) || impl.ValidSegments(impl.Segments{Trial: room, Safe: room}) {
			t.Errorf("segments with the room %d are valid", room)
		}
	}
	for key := range 32 {
		if impl.ValidSegments(impl.Segments{Trial: 1, Safe: 1, New: []int{key}, Old: []int{key}}) {
			t.Errorf("segments with %d in both are valid", key)
		}
	}
}

func TestValidSegmentsLimits(t *testing.T) {
	for _, s := range segments() {
		if !impl.ValidSegments(s) {
			t.Errorf("%v are not valid", s)
		}
	}
	for _, s := range badSegments() {
		if impl.ValidSegments(s) {
			t.Errorf("%v are valid", s)
		}
	}
	for news := 0; news <= 10; news++ {
		for olds := 0; olds <= 10; olds++ {
			keys := loop(32, news+olds)
			for room := 1; room <= 8; room++ {
				if impl.ValidSegments(impl.Segments{Trial: room, Safe: 8, New: keys[:news], Old: keys[news:]}) != (news <= room && olds <= 8) {
					t.Errorf("ValidSegments of %d and %d keys with the rooms %d and 8", news, olds, room)
				}
				if impl.ValidSegments(impl.Segments{Trial: 8, Safe: room, New: keys[:news], Old: keys[news:]}) != (news <= 8 && olds <= room) {
					t.Errorf("ValidSegments of %d and %d keys with the rooms 8 and %d", news, olds, room)
				}
			}
		}
	}
}

func TestUseSegments(t *testing.T) {
	forSegments(func(s impl.Segments, key int) {
		out, hit := impl.UseSegments(s, key)
		want, there := segmentsAfter(s, key)
		if !impl.ValidSegments(out) || !sameSegments(out, want) || hit != there {
			t.Errorf("UseSegments(%v, %d) = %v, %t, want %v, %t", s, key, out, hit, want, there)
		}
	})
}

func TestP030KeysThatComeAgainAreSafe(t *testing.T) {
	forSegments(func(s impl.Segments, key int) {
		out, hit := impl.UseSegments(s, key)
		there := slices.Contains(s.New, key) || slices.Contains(s.Old, key)
		if hit != there || firstOf(out.Old, key) != there || there && slices.Contains(out.New, key) {
			t.Errorf("UseSegments(%v, %d) = %v, %t", s, key, out, hit)
		}
		if !there && (!firstOf(out.New, key) || !slices.Equal(out.Old, s.Old)) {
			t.Errorf("UseSegments(%v, %d) = %v", s, key, out)
		}
	})
}

func TestP031KeysThatComeAgainPushNobodyOut(t *testing.T) {
	for _, s := range segments() {
		keys := slices.Concat(s.Old, s.New)
		for _, key := range keys {
			out, _ := impl.UseSegments(s, key)
			after := slices.Concat(out.Old, out.New)
			if !slices.Equal(slices.Sorted(slices.Values(after)), slices.Sorted(slices.Values(keys))) {
				t.Errorf("UseSegments(%v, %d) = %v", s, key, out)
			}
		}
	}
}

func TestP032TracesRunKeyByKeyAlsoForSegments(t *testing.T) {
	for _, trace := range traces() {
		for trial := 1; trial <= 8; trial++ {
			for safe := 1; safe <= 8; safe++ {
				out, hits := impl.RunSegments(trace, trial, safe)
				want, before, hit := impl.Segments{Trial: trial, Safe: safe}, 0, false
				if last := len(trace) - 1; last >= 0 {
					want, before = impl.RunSegments(trace[:last], trial, safe)
					want, hit = impl.UseSegments(want, trace[last])
				}
				if hit {
					before++
				}
				if !impl.ValidSegments(out) || out.Trial != trial || out.Safe != safe || !sameSegments(out, want) || hits != before {
					t.Errorf("RunSegments(%v, %d, %d) = %v, %d, want %v, %d", trace, trial, safe, out, hits, want, before)
				}
			}
		}
	}
}

func TestP033ScansDoNotPushSafeKeysOut(t *testing.T) {
	for _, trace := range traces() {
		if slices.Contains(trace, 31) {
			continue
		}
		scan := []int{31, 30, 29, 28, 27, 26, 25, 24, 23, 22, 21, 20}
		scan = slices.DeleteFunc(scan, func(key int) bool { return slices.Contains(trace, key) })
		scan = scan[:min(len(scan), 24-len(trace))]
		for trial := 1; trial <= 8; trial++ {
			for _, safe := range []int{1, 2, 3, 7, 8} {
				before, few := impl.RunSegments(trace, trial, safe)
				behind, many := impl.RunSegments(slices.Concat(trace, scan), trial, safe)
				if !impl.ValidSegments(behind) || !slices.Equal(behind.Old, before.Old) || many != few {
					t.Errorf("RunSegments(%v, %d, %d) = %v, and %v behind %v", trace, trial, safe, before, behind, scan)
				}
			}
		}
	}
	if s, _ := impl.RunSegments([]int{1, 2, 2, 1, 9, 8, 7, 6}, 2, 3); !slices.Equal(s.Old, []int{1, 2}) || !slices.Equal(s.New, []int{6, 7}) {
		t.Errorf("RunSegments = %v", s)
	}
}

func TestP034AllKeysAreKeys(t *testing.T) {
	for _, s := range segments() {
		if keys := impl.KeysOf(s); !slices.Equal(keys, slices.Concat(s.Old, s.New)) {
			t.Errorf("KeysOf(%v) = %v", s, keys)
		}
	}
	if keys := impl.KeysOf(impl.Segments{Trial: 2, Safe: 2, New: []int{0, 31}, Old: []int{9, 4}}); !slices.Equal(keys, []int{9, 4, 0, 31}) {
		t.Errorf("KeysOf = %v", keys)
	}
}

func TestP144KeysAreInOneSegment(t *testing.T) {
	forSegments(func(s impl.Segments, key int) {
		out, _ := impl.UseSegments(s, key)
		keys := impl.KeysOf(out)
		if len(keys) != len(out.New)+len(out.Old) || len(distinct(keys)) != len(keys) || !slices.Contains(keys, key) {
			t.Errorf("KeysOf(%v) = %v", out, keys)
		}
	})
	for _, trace := range traces() {
		for trial := 1; trial <= 8; trial++ {
			s, _ := impl.RunSegments(trace, trial, 9-trial)
			keys := impl.KeysOf(s)
			if len(distinct(keys)) != len(keys) || len(keys) == 0 && len(trace) > 0 {
				t.Errorf("KeysOf(%v) = %v", s, keys)
			}
		}
	}
}

func TestP141TwoUsesMakeKeysSafe(t *testing.T) {
	forSegments(func(s impl.Segments, key int) {
		once, _ := impl.UseSegments(s, key)
		twice, hit := impl.UseSegments(once, key)
		if !hit || !firstOf(twice.Old, key) || slices.Contains(twice.New, key) {
			t.Errorf("UseSegments(%v, %d) = %v, and then %v, %t", s, key, once, twice, hit)
		}
	})
}

func TestP142SmallTracesFitIntoTrials(t *testing.T) {
	for _, trace := range traces() {
		keys := newKeys(t, trace)
		for trial := max(keys, 1); trial <= 8; trial++ {
			for safe := 1; safe <= 8; safe++ {
				if s, hits := impl.RunSegments(trace, trial, safe); hits != len(trace)-keys || len(impl.KeysOf(s)) != keys {
					t.Errorf("RunSegments(%v, %d, %d) = %v, %d", trace, trial, safe, s, hits)
				}
			}
		}
	}
}

func TestKeysFallBack(t *testing.T) {
	for _, x := range []struct {
		name          string
		before, after impl.Segments
		key           int
	}{
		{"New is full, from its end", impl.Segments{Trial: 3, Safe: 2, New: []int{1, 2, 3}, Old: []int{4, 5}}, impl.Segments{Trial: 3, Safe: 2, New: []int{5, 1, 2}, Old: []int{3, 4}}, 3},
		{"New is full, from its beginning", impl.Segments{Trial: 3, Safe: 2, New: []int{1, 2, 3}, Old: []int{4, 5}}, impl.Segments{Trial: 3, Safe: 2, New: []int{5, 2, 3}, Old: []int{1, 4}}, 1},
		{"New is not full", impl.Segments{Trial: 4, Safe: 2, New: []int{1, 2}, Old: []int{4, 5}}, impl.Segments{Trial: 4, Safe: 2, New: []int{5, 1}, Old: []int{2, 4}}, 2},
		{"the rooms are 1", impl.Segments{Trial: 1, Safe: 1, New: []int{0}, Old: []int{31}}, impl.Segments{Trial: 1, Safe: 1, New: []int{31}, Old: []int{0}}, 0},
		{"Old has room for one more", impl.Segments{Trial: 3, Safe: 3, New: []int{1, 2, 3}, Old: []int{4, 5}}, impl.Segments{Trial: 3, Safe: 3, New: []int{1, 3}, Old: []int{2, 4, 5}}, 2},
		{"Old is empty", impl.Segments{Trial: 3, Safe: 1, New: []int{1, 2, 3}}, impl.Segments{Trial: 3, Safe: 1, New: []int{1, 3}, Old: []int{2}}, 2},
		{"the key is in a full Old", impl.Segments{Trial: 2, Safe: 3, New: []int{1, 2}, Old: []int{4, 5, 6}}, impl.Segments{Trial: 2, Safe: 3, New: []int{1, 2}, Old: []int{6, 4, 5}}, 6},
		{"the key is first in Old", impl.Segments{Trial: 2, Safe: 3, New: []int{1}, Old: []int{4, 5, 6}}, impl.Segments{Trial: 2, Safe: 3, New: []int{1}, Old: []int{4, 5, 6}}, 4},
	} {
		if out, hit := impl.UseSegments(x.before, x.key); !hit || !sameSegments(out, x.after) {
			t.Errorf("%s: UseSegments(%v, %d) = %v, %t, want %v", x.name, x.before, x.key, out, hit, x.after)
		}
	}
	if out, hit := impl.UseSegments(impl.Segments{Trial: 2, Safe: 3, New: []int{1, 2}, Old: []int{4}}, 9); hit || !sameSegments(out, impl.Segments{Trial: 2, Safe: 3, New: []int{9, 1}, Old: []int{4}}) {
		t.Errorf("UseSegments of a new key = %v, %t", out, hit)
	}
}

func TestSegmentsOtherArguments(t *testing.T) {
	for _, s := range badSegments() {
		for _, key := range append([]int{0, 1, 20, 31, 32, -1}, s.New...) {
			if out, hit := impl.UseSegments(s, key); hit || !sameSegments(out, impl.Segments{}) {
				t.Errorf("UseSegments(%v, %d) = %v, %t", s, key, out, hit)
			}
		}
		if keys := impl.KeysOf(s); len(keys) != 0 {
			t.Errorf("KeysOf(%v) = %v", s, keys)
		}
	}
	for _, s := range segments() {
		for _, key := range badKeys() {
			if out, hit := impl.UseSegments(s, key); hit || !sameSegments(out, impl.Segments{}) {
				t.Errorf("UseSegments(%v, %d) = %v, %t", s, key, out, hit)
			}
		}
	}
}

func TestRunSegmentsOtherArguments(t *testing.T) {
	check := func(trace []int, trial int, safe int) {
		t.Helper()
		if out, hits := impl.RunSegments(trace, trial, safe); hits != -1 || !sameSegments(out, impl.Segments{}) {
			t.Errorf("RunSegments(%v, %d, %d) = %v, %d", trace, trial, safe, out, hits)
		}
	}
	for _, trace := range badTraces() {
		for _, room := range []int{1, 2, 8, 0, 9} {
			check(trace, room, 1)
			check(trace, 8, room)
		}
	}
	for _, room := range badRooms() {
		for _, trace := range [][]int{nil, {}, {1}, {1, 2, 1}} {
			check(trace, room, 1)
			check(trace, 8, room)
			check(trace, room, room)
		}
	}
	for _, rooms := range [][2]int{{1, 1}, {1, 8}, {8, 1}, {8, 8}} {
		want := impl.Segments{Trial: rooms[0], Safe: rooms[1]}
		if out, hits := impl.RunSegments(nil, rooms[0], rooms[1]); hits != 0 || !sameSegments(out, want) {
			t.Errorf("RunSegments(nil, %d, %d) = %v, %d", rooms[0], rooms[1], out, hits)
		}
		want.Old = []int{0}
		if out, hits := impl.RunSegments(make([]int, 24), rooms[0], rooms[1]); hits != 23 || !sameSegments(out, want) {
			t.Errorf("RunSegments of one key 24 times, %d, %d = %v, %d", rooms[0], rooms[1], out, hits)
		}
	}
}

// checkSegmentsApart fails if a call modifies its argument, if its result shares memory with it or in itself, or if it keeps memory for the next call.
func checkSegmentsApart(t *testing.T, name string, s impl.Segments, call func(s impl.Segments) impl.Segments) {
	t.Helper()
	checkPartsApart(t, name, [][]int{s.New, s.Old}, func(parts [][]int) [][]int {
		out := call(impl.Segments{Trial: s.Trial, Safe: s.Safe, New: parts[0], Old: parts[1]})
		return [][]int{out.New, out.Old}
	})
}

func TestSegmentsAreApart(t *testing.T) {
	use := func(key int) func(s impl.Segments) impl.Segments {
		return func(s impl.Segments) impl.Segments { out, _ := impl.UseSegments(s, key); return out }
	}
	forSegments(func(s impl.Segments, key int) {
		checkSegmentsApart(t, "UseSegments", s, use(key))
	})
	for _, s := range append(segments(), badSegments()...) {
		checkSegmentsApart(t, "UseSegments of no key", s, use(32))
		checkSegmentsApart(t, "KeysOf", s, func(s impl.Segments) impl.Segments { return impl.Segments{New: impl.KeysOf(s)} })
		checkSegmentsApart(t, "ValidSegments", s, func(s impl.Segments) impl.Segments { impl.ValidSegments(s); return impl.Segments{} })
	}
	for _, s := range badSegments() {
		checkSegmentsApart(t, "UseSegments", s, use(1))
	}
	for _, trace := range append(traces(), badTraces()...) {
		for _, room := range []int{1, 3, 8, 9} {
			checkSegmentsApart(t, "RunSegments", impl.Segments{New: trace}, func(s impl.Segments) impl.Segments {
				out, _ := impl.RunSegments(s.New, room, 2)
				return out
			})
		}
	}
}
