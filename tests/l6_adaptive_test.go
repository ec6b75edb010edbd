package tests

import (
	"math"
	"slices"
	"testing"

	"loop.example/cacheengine/impl"
)

// adaptiveLists are valid lists of all rooms: of the rooms 1 to 4 nearly all lengths of the four lists, of the others the shortest and longest ones, each with the targets that matter.
func adaptiveLists() []impl.Lists {
	d := &dice{6}
	out := []impl.Lists{}
	for room := 1; room <= 8; room++ {
		for _, once := range corners(room) {
			for _, often := range corners(room - once) {
				for _, wasOnce := range corners(room - once) {
					for _, wasOften := range corners(2*room - once - often - wasOnce) {
						a := cutLists(d.keys(once+often+wasOnce+wasOften, 31), once, often, wasOnce)
						a.Room = room
						for _, a.Target = range targets(room, once) {
							out = append(out, a)
						}
					}
				}
			}
		}
	}
	return out
}

// corners returns the smallest and greatest numbers in 0..n: all of them up to 3.
func corners(n int) []int {
	out := []int{}
	for _, x := range []int{0, 1, n - 1, n} {
		if 0 <= x && x <= n && !slices.Contains(out, x) {
			out = append(out, x)
		}
	}
	return out
}

// targets returns targets at their limits and around a number of keys.
func targets(room int, keys int) []int {
	out := []int{}
	for _, target := range []int{0, 1, keys - 1, keys, keys + 1, room - 1, room} {
		if 0 <= target && target <= room && !slices.Contains(out, target) {
			out = append(out, target)
		}
	}
	return out
}

// cutLists returns lists of the first keys, the next ones and so on; WasOften has those that are left.
func cutLists(keys []int, once int, often int, wasOnce int) impl.Lists {
	a := impl.Lists{}
	a.Once, keys = keys[:once:once], keys[once:]
	a.Often, keys = keys[:often:often], keys[often:]
	a.WasOnce, a.WasOften = keys[:wasOnce:wasOnce], keys[wasOnce:]
	return a
}

// lists returns adaptive lists with all their fields.
func lists(room int, target int, once []int, often []int, wasOnce []int, wasOften []int) impl.Lists {
	return impl.Lists{Room: room, Target: target, Once: once, Often: often, WasOnce: wasOnce, WasOften: wasOften}
}

// forLists calls a test with all lists, and with each key of them and some others.
func forLists(test func(a impl.Lists, key int)) {
	for _, a := range adaptiveLists() {
		for _, key := range keysToUse(listKeys(a)) {
			test(a, key)
		}
	}
}

// listKeys returns the keys of all four lists.
func listKeys(a impl.Lists) []int {
	return slices.Concat(a.Once, a.Often, a.WasOnce, a.WasOften)
}

// cacheOf returns the keys of the cache.
func cacheOf(a impl.Lists) []int {
	return slices.Concat(a.Once, a.Often)
}

// badLists are lists with too many keys, with a key twice, with a number that is no key, or with a room or a target out of its limits.
func badLists() []impl.Lists {
	out := append([]impl.Lists{{}}, longLists()...)
	for _, room := range badRooms() {
		for _, target := range []int{0, 1, room} {
			out = append(out, impl.Lists{Room: room, Target: target}, impl.Lists{Room: room, Target: target, Once: []int{1}, WasOften: []int{2}})
		}
	}
	for room := 1; room <= 8; room++ {
		for _, target := range []int{-1, -2, -room, room + 1, room + 2, 100, math.MaxInt, math.MinInt} {
			out = append(out, impl.Lists{Room: room, Target: target}, impl.Lists{Room: room, Target: target, Often: []int{1}, WasOnce: []int{2}})
		}
	}
	for place := range 16 {
		for _, key := range badKeys() {
			keys := loop(32, 16)
			keys[place] = key
			out = append(out, fullLists(keys))
		}
		for other := range 16 {
			keys := loop(32, 16)
			if keys[other] = keys[place]; other != place {
				out = append(out, fullLists(keys))
			}
		}
	}
	return out
}

// fullLists returns lists of 16 keys, four in each, with the greatest room.
func fullLists(keys []int) impl.Lists {
	a := cutLists(keys, 4, 4, 4)
	a.Room, a.Target = 8, 4
	return a
}

// longLists are lists of different keys with one key more than their room allows.
func longLists() []impl.Lists {
	out := []impl.Lists{}
	for room := 1; room <= 8; room++ {
		for once := 0; once <= room; once++ {
			rest := room - once
			for _, n := range [][3]int{{once, rest + 1, 0}, {once, 0, rest + 1}, {once, rest, rest + 1}, {once, rest + 1, rest}} {
				a := cutLists(loop(32, n[0]+n[1]+n[2]), n[0], n[1], n[2])
				a.Room = room
				out = append(out, a)
			}
			for _, often := range []int{0, rest} {
				a := cutLists(loop(32, 2*room+1), once, often, rest)
				a.Room = room
				out = append(out, a)
			}
		}
	}
	return out
}

// copyLists returns lists with memory of their own.
func copyLists(a impl.Lists) impl.Lists {
	a.Once, a.Often = slices.Clone(a.Once), slices.Clone(a.Often)
	a.WasOnce, a.WasOften = slices.Clone(a.WasOnce), slices.Clone(a.WasOften)
	return a
}

// sameLists reports whether two adaptive lists are the same.
func sameLists(a impl.Lists, b impl.Lists) bool {
	return a.Room == b.Room && a.Target == b.Target && slices.Equal(a.Once, b.Once) && slices.Equal(a.Often, b.Often) && slices.Equal(a.WasOnce, b.WasOnce) && slices.Equal(a.WasOften, b.WasOften)
}

// listsAfter returns what UseLists should return, sentence by sentence of the document.
func listsAfter(a impl.Lists, key int) (impl.Lists, bool) {
	out := copyLists(a)
	switch {
	case slices.Contains(cacheOf(a), key):
		out.Once = without(a.Once, key)
		out.Often = append([]int{key}, without(a.Often, key)...)
		return out, true
	case slices.Contains(a.WasOnce, key):
		for step := max(len(a.WasOften)/len(a.WasOnce), 1); step > 0 && out.Target < a.Room; step-- {
			out.Target++
		}
		out.WasOnce = without(a.WasOnce, key)
		out = withRoom(out, false)
		out.Often = append([]int{key}, out.Often...)
	case slices.Contains(a.WasOften, key):
		for step := max(len(a.WasOnce)/len(a.WasOften), 1); step > 0 && out.Target > 0; step-- {
			out.Target--
		}
		out.WasOften = without(a.WasOften, key)
		out = withRoom(out, true)
		out.Often = append([]int{key}, out.Often...)
	case len(a.Once) == a.Room:
		out.Once = append([]int{key}, a.Once[:a.Room-1]...)
	default:
		if len(a.Once)+len(a.WasOnce) == a.Room {
			out.WasOnce = a.WasOnce[:len(a.WasOnce)-1]
		} else if len(listKeys(a)) == 2*a.Room {
			out.WasOften = a.WasOften[:len(a.WasOften)-1]
		}
		out = withRoom(out, false)
		out.Once = append([]int{key}, out.Once...)
	}
	return out, false
}

// withRoom returns lists in which room was made if the cache is full.
func withRoom(a impl.Lists, wasOften bool) impl.Lists {
	if len(a.Once)+len(a.Often) < a.Room {
		return a
	}
	most := a.Target
	if wasOften {
		most = max(a.Target-1, 0)
	}
	if last := len(a.Once) - 1; len(a.Once) > most || len(a.Often) == 0 {
		a.WasOnce = append([]int{a.Once[last]}, a.WasOnce...)
		a.Once = a.Once[:last]
		return a
	}
	last := len(a.Often) - 1
	a.WasOften = append([]int{a.Often[last]}, a.WasOften...)
	a.Often = a.Often[:last]
	return a
}

func TestP044AdaptiveListsCanBeEmpty(t *testing.T) {
	for room := -1; room <= 10; room++ {
		for target := -2; target <= 11; target++ {
			want := 1 <= room && room <= 8 && 0 <= target && target <= room
			if impl.ValidLists(impl.Lists{Room: room, Target: target}) != want {
				t.Errorf("ValidLists without keys, with the room %d and the target %d, is %t", room, target, !want)
			}
			empty := impl.Lists{Room: room, Target: target, Once: []int{}, Often: []int{}, WasOnce: []int{}, WasOften: []int{}}
			if impl.ValidLists(empty) != want {
				t.Errorf("ValidLists of empty slices, with the room %d and the target %d, is %t", room, target, !want)
			}
		}
	}
}

func TestValidListsLimits(t *testing.T) {
	for _, a := range adaptiveLists() {
		if !impl.ValidLists(a) {
			t.Errorf("%v are not valid", a)
		}
	}
	for _, a := range badLists() {
		if impl.ValidLists(a) {
			t.Errorf("%v are valid", a)
		}
	}
	for room := 1; room <= 8; room++ {
		for once := 0; once <= room+1; once++ {
			for often := 0; often <= room+1; often++ {
				for wasOnce := 0; wasOnce <= room+1; wasOnce++ {
					for wasOften := 0; once+often+wasOnce+wasOften <= 2*room+1; wasOften++ {
						a := cutLists(loop(32, once+often+wasOnce+wasOften), once, often, wasOnce)
						a.Room, a.Target = room, room
						want := once+often <= room && once+wasOnce <= room && once+often+wasOnce+wasOften <= 2*room
						if impl.ValidLists(a) != want {
							t.Errorf("ValidLists(%v) is %t", a, !want)
						}
					}
				}
			}
		}
	}
}

func TestUseLists(t *testing.T) {
	forLists(func(a impl.Lists, key int) {
		out, hit := impl.UseLists(a, key)
		want, there := listsAfter(a, key)
		if !sameLists(out, want) || hit != there {
			t.Errorf("UseLists(%v, %d) = %v, %t, want %v, %t", a, key, out, hit, want, there)
		}
	})
}

func TestP045UsedKeysAreInTheCache(t *testing.T) {
	forLists(func(a impl.Lists, key int) {
		out, hit := impl.UseLists(a, key)
		known := slices.Contains(listKeys(a), key)
		if !impl.ValidLists(out) || out.Room != a.Room || firstOf(out.Often, key) != known || firstOf(out.Once, key) == known {
			t.Errorf("UseLists(%v, %d) = %v", a, key, out)
		}
		if hit != slices.Contains(cacheOf(a), key) {
			t.Errorf("UseLists(%v, %d) = %t", a, key, hit)
		}
	})
}

func TestP046TargetsFollowWhatWasMissed(t *testing.T) {
	forLists(func(a impl.Lists, key int) {
		out, _ := impl.UseLists(a, key)
		grows := slices.Contains(a.WasOnce, key) && a.Target < a.Room
		falls := slices.Contains(a.WasOften, key) && a.Target > 0
		if !impl.ValidLists(out) || (out.Target > a.Target) != grows || (out.Target < a.Target) != falls {
			t.Errorf("UseLists(%v, %d) has the target %d", a, key, out.Target)
		}
	})
}

func TestP047OneKeyLeavesAtMost(t *testing.T) {
	forLists(func(a impl.Lists, key int) {
		out, hit := impl.UseLists(a, key)
		gone := 0
		for _, other := range cacheOf(a) {
			if !slices.Contains(cacheOf(out), other) {
				gone++
			}
		}
		want := 1
		if hit || len(cacheOf(a)) < a.Room {
			want = 0
		}
		if !impl.ValidLists(out) || gone != want {
			t.Errorf("UseLists(%v, %d) = %v, %t: %d keys left", a, key, out, hit, gone)
		}
	})
}

func TestP148KeysThatWereThereAreKnown(t *testing.T) {
	forLists(func(a impl.Lists, key int) {
		out, _ := impl.UseLists(a, key)
		if !slices.Contains(listKeys(a), key) {
			return
		}
		for _, other := range cacheOf(a) {
			if !slices.Contains(listKeys(out), other) {
				t.Errorf("UseLists(%v, %d) = %v: %d is not known", a, key, out, other)
			}
		}
		if len(listKeys(out)) != len(listKeys(a)) {
			t.Errorf("UseLists(%v, %d) = %v has other keys", a, key, out)
		}
	})
}

func TestP147TwoUsesMakeKeysFrequent(t *testing.T) {
	forLists(func(a impl.Lists, key int) {
		once, _ := impl.UseLists(a, key)
		twice, hit := impl.UseLists(once, key)
		if !hit || !firstOf(twice.Often, key) || slices.Contains(twice.Once, key) || twice.Target != once.Target {
			t.Errorf("UseLists(%v, %d) = %v, and then %v, %t", a, key, once, twice, hit)
		}
	})
}

func TestP048TracesRunKeyByKeyAlsoForAdaptiveLists(t *testing.T) {
	for _, trace := range traces() {
		for room := 1; room <= 8; room++ {
			out, hits := impl.RunLists(trace, room)
			want, before, hit := impl.Lists{Room: room}, 0, false
			if last := len(trace) - 1; last >= 0 {
				want, before = impl.RunLists(trace[:last], room)
				want, hit = impl.UseLists(want, trace[last])
			}
			if hit {
				before++
			}
			if !impl.ValidLists(out) || out.Room != room || !sameLists(out, want) || hits != before {
				t.Errorf("RunLists(%v, %d) = %v, %d, want %v, %d", trace, room, out, hits, want, before)
			}
		}
	}
}

func TestP049SmallTracesFit(t *testing.T) {
	for _, trace := range traces() {
		keys := newKeys(t, trace)
		for room := max(keys, 1); room <= 8; room++ {
			if a, hits := impl.RunLists(trace, room); hits != len(trace)-keys || len(cacheOf(a)) != keys {
				t.Errorf("RunLists(%v, %d) = %v, %d", trace, room, a, hits)
			}
		}
	}
}

func TestP149AdaptiveListsHitWhatComesAgain(t *testing.T) {
	for _, trace := range traces() {
		keys := newKeys(t, trace)
		for room := 1; room <= 8; room++ {
			if a, hits := impl.RunLists(trace, room); hits < 0 || hits > len(trace)-keys || len(cacheOf(a)) != min(keys, room) {
				t.Errorf("RunLists(%v, %d) = %v, %d", trace, room, a, hits)
			}
		}
	}
}

func TestP050CachedKeysAreThoseOfBothLists(t *testing.T) {
	for _, a := range adaptiveLists() {
		if keys := impl.CachedKeys(a); !slices.Equal(keys, cacheOf(a)) || len(distinct(keys)) != len(keys) {
			t.Errorf("CachedKeys(%v) = %v", a, keys)
		}
	}
	for _, trace := range traces() {
		for room := 1; room <= 8; room++ {
			a, _ := impl.RunLists(trace, room)
			if keys := impl.CachedKeys(a); !slices.Equal(keys, cacheOf(a)) || len(distinct(keys)) != len(keys) || len(keys) == 0 && len(trace) > 0 {
				t.Errorf("CachedKeys(%v) = %v", a, keys)
			}
		}
	}
	if keys := impl.CachedKeys(impl.Lists{Room: 3, Once: []int{31}, Often: []int{7, 0}, WasOnce: []int{4}, WasOften: []int{5}}); !slices.Equal(keys, []int{31, 7, 0}) {
		t.Errorf("CachedKeys = %v", keys)
	}
}

func TestTargetsChangeByTheLengthsOfLists(t *testing.T) {
	for _, x := range []struct {
		wasOnce, wasOften int
		target            int
		up, down          int
	}{
		{1, 1, 4, 5, 3}, {1, 4, 1, 5, 0}, {1, 4, 5, 8, 4}, {1, 8, 0, 8, 0}, {2, 5, 3, 5, 2}, {2, 3, 3, 4, 2}, {3, 8, 6, 8, 5}, {3, 8, 5, 7, 4},
		{4, 1, 4, 5, 0}, {4, 1, 5, 6, 1}, {4, 1, 3, 4, 0}, {5, 2, 3, 4, 1}, {8, 3, 8, 8, 6}, {8, 3, 1, 2, 0}, {3, 2, 8, 8, 7}, {8, 8, 0, 1, 0}, {8, 1, 8, 8, 0}, {7, 1, 8, 8, 1},
	} {
		a := cutLists(loop(32, x.wasOnce+x.wasOften), 0, 0, x.wasOnce)
		a.Room, a.Target = 8, x.target
		for _, key := range a.WasOnce {
			if out, hit := impl.UseLists(a, key); hit || out.Target != x.up || !slices.Equal(out.Often, []int{key}) || !slices.Equal(out.WasOnce, without(a.WasOnce, key)) {
				t.Errorf("UseLists(%v, %d) = %v, want the target %d", a, key, out, x.up)
			}
		}
		for _, key := range a.WasOften {
			if out, hit := impl.UseLists(a, key); hit || out.Target != x.down || !slices.Equal(out.Often, []int{key}) || !slices.Equal(out.WasOften, without(a.WasOften, key)) {
				t.Errorf("UseLists(%v, %d) = %v, want the target %d", a, key, out, x.down)
			}
		}
	}
}

func TestUseListsCases(t *testing.T) {
	for _, x := range []struct {
		name          string
		before, after impl.Lists
		key           int
		hit           bool
	}{
		{"a key of Once, all lists being full", lists(2, 1, []int{1}, []int{2}, []int{3}, []int{4}), lists(2, 1, nil, []int{1, 2}, []int{3}, []int{4}), 1, true},
		{"the last key of Often", lists(3, 0, []int{1}, []int{2, 3}, nil, nil), lists(3, 0, []int{1}, []int{3, 2}, nil, nil), 3, true},
		{"WasOnce, more keys in Once than Target", lists(4, 1, []int{1, 2, 3}, []int{4}, []int{5}, nil), lists(4, 2, []int{1, 2}, []int{5, 4}, []int{3}, nil), 5, false},
		{"WasOnce, as many keys in Once as Target then", lists(4, 1, []int{1, 2}, []int{3, 4}, []int{5, 6}, nil), lists(4, 2, []int{1, 2}, []int{6, 3}, []int{5}, []int{4}), 6, false},
		{"WasOften, as many keys in Once as Target then", lists(4, 3, []int{1, 2}, []int{3, 4}, []int{5}, []int{6, 7}), lists(4, 2, []int{1}, []int{7, 3, 4}, []int{2, 5}, []int{6}), 7, false},
		{"WasOften, fewer keys in Once than Target then", lists(4, 4, []int{1, 2}, []int{3, 4}, []int{5}, []int{6, 7}), lists(4, 3, []int{1, 2}, []int{6, 3}, []int{5}, []int{4, 7}), 6, false},
		{"WasOften, Once is empty, Target 0", lists(2, 0, nil, []int{1, 2}, []int{3}, []int{4}), lists(2, 0, nil, []int{4, 1}, []int{3}, []int{2}), 4, false},
		{"WasOnce, Once is empty", lists(2, 2, nil, []int{1, 2}, []int{3}, []int{4}), lists(2, 2, nil, []int{3, 1}, nil, []int{2, 4}), 3, false},
		{"WasOften, Often is empty, Target at Room", lists(2, 2, []int{1, 2}, nil, nil, []int{3, 4}), lists(2, 1, []int{1}, []int{4}, []int{2}, []int{3}), 4, false},
		{"WasOften, Often is empty, Once has fewer keys than Target", lists(1, 1, []int{1}, nil, nil, []int{4}), lists(1, 0, nil, []int{4}, []int{1}, nil), 4, false},
		{"WasOnce, the cache is not full", lists(3, 3, []int{1}, []int{2}, []int{3, 4}, []int{5}), lists(3, 3, []int{1}, []int{4, 2}, []int{3}, []int{5}), 4, false},
		{"WasOften, the cache is not full", lists(3, 0, []int{1}, []int{2}, []int{3, 4}, []int{5}), lists(3, 0, []int{1}, []int{5, 2}, []int{3, 4}, nil), 5, false},
		{"new, Once has all keys of the cache", lists(2, 2, []int{1, 2}, nil, nil, nil), lists(2, 2, []int{9, 1}, nil, nil, nil), 9, false},
		{"new, Once has all keys of the cache, WasOften is full", lists(2, 0, []int{1, 2}, nil, nil, []int{3, 4}), lists(2, 0, []int{9, 1}, nil, nil, []int{3, 4}), 9, false},
		{"new, Once and WasOnce are full, Once is greater than Target", lists(3, 0, []int{1, 2}, []int{3}, []int{4}, nil), lists(3, 0, []int{9, 1}, []int{3}, []int{2}, nil), 9, false},
		{"new, Once and WasOnce are full, Once is as Target", lists(3, 2, []int{1, 2}, []int{3}, []int{4}, []int{5}), lists(3, 2, []int{9, 1, 2}, nil, nil, []int{3, 5}), 9, false},
		{"new, WasOnce is full alone", lists(2, 0, nil, []int{1, 2}, []int{3, 4}, nil), lists(2, 0, []int{9}, []int{1}, []int{3}, []int{2}), 9, false},
		{"new, WasOnce is full, the cache is not", lists(2, 0, nil, []int{1}, []int{3, 4}, []int{5}), lists(2, 0, []int{9}, []int{1}, []int{3}, []int{5}), 9, false},
		{"new, all lists have twice Room keys", lists(2, 0, []int{1}, []int{2}, nil, []int{3, 4}), lists(2, 0, []int{9}, []int{2}, []int{1}, []int{3}), 9, false},
		{"new, all lists have twice Room keys, the cache is not full", lists(2, 0, []int{1}, nil, nil, []int{3, 4, 5}), lists(2, 0, []int{9, 1}, nil, nil, []int{3, 4}), 9, false},
		{"new, only WasOften has keys", lists(2, 1, nil, nil, nil, []int{3, 4, 5, 6}), lists(2, 1, []int{9}, nil, nil, []int{3, 4, 5}), 9, false},
		{"new, one less than twice Room keys", lists(2, 1, []int{1}, []int{2}, nil, []int{3}), lists(2, 1, []int{9, 1}, nil, nil, []int{2, 3}), 9, false},
		{"new, no keys", lists(1, 1, nil, nil, nil, nil), lists(1, 1, []int{31}, nil, nil, nil), 31, false},
		{"new, the room 1", lists(1, 0, nil, []int{31}, []int{1}, nil), lists(1, 0, []int{0}, nil, nil, []int{31}), 0, false},
	} {
		if out, hit := impl.UseLists(x.before, x.key); hit != x.hit || !sameLists(out, x.after) {
			t.Errorf("%s: UseLists(%v, %d) = %v, %t, want %v", x.name, x.before, x.key, out, hit, x.after)
		}
	}
}

func TestAdaptiveListsOtherArguments(t *testing.T) {
	check := func(a impl.Lists, key int) {
		t.Helper()
		if out, hit := impl.UseLists(a, key); hit || !sameLists(out, impl.Lists{}) {
			t.Errorf("UseLists(%v, %d) = %v, %t", a, key, out, hit)
		}
	}
	for _, a := range badLists() {
		for _, key := range []int{0, 1, 2, 15, 31, 32, -1} {
			check(a, key)
		}
		if keys := impl.CachedKeys(a); len(keys) != 0 {
			t.Errorf("CachedKeys(%v) = %v", a, keys)
		}
	}
	for _, a := range adaptiveLists() {
		for _, key := range badKeys() {
			check(a, key)
		}
	}
}

func TestRunListsOtherArguments(t *testing.T) {
	forBadRuns(func(trace []int, room int) {
		if out, hits := impl.RunLists(trace, room); hits != -1 || !sameLists(out, impl.Lists{}) {
			t.Errorf("RunLists(%v, %d) = %v, %d", trace, room, out, hits)
		}
	})
	for _, room := range []int{1, 2, 8} {
		if out, hits := impl.RunLists(nil, room); hits != 0 || !sameLists(out, impl.Lists{Room: room}) {
			t.Errorf("RunLists(nil, %d) = %v, %d", room, out, hits)
		}
		if out, hits := impl.RunLists(make([]int, 24), room); hits != 23 || !sameLists(out, impl.Lists{Room: room, Often: []int{0}}) {
			t.Errorf("RunLists of one key 24 times, %d = %v, %d", room, out, hits)
		}
	}
}

// partsOf returns the four lists.
func partsOf(a impl.Lists) [][]int {
	return [][]int{a.Once, a.Often, a.WasOnce, a.WasOften}
}

// withParts returns adaptive lists with other keys in the four lists.
func withParts(a impl.Lists, parts [][]int) impl.Lists {
	return lists(a.Room, a.Target, parts[0], parts[1], parts[2], parts[3])
}

// checkListsApart fails if a call modifies its argument, if its result shares memory with it or in itself, or if it keeps memory for the next call.
func checkListsApart(t *testing.T, name string, a impl.Lists, call func(a impl.Lists) impl.Lists) {
	t.Helper()
	checkPartsApart(t, name, partsOf(a), func(parts [][]int) [][]int { return partsOf(call(withParts(a, parts))) })
}

func TestAdaptiveListsAreApart(t *testing.T) {
	use := func(key int) func(a impl.Lists) impl.Lists {
		return func(a impl.Lists) impl.Lists { out, _ := impl.UseLists(a, key); return out }
	}
	forLists(func(a impl.Lists, key int) {
		checkListsApart(t, "UseLists", a, use(key))
	})
	for _, a := range append(adaptiveLists(), badLists()...) {
		checkListsApart(t, "UseLists of no key", a, use(32))
		checkListsApart(t, "CachedKeys", a, func(a impl.Lists) impl.Lists { return impl.Lists{Once: impl.CachedKeys(a)} })
		checkListsApart(t, "ValidLists", a, func(a impl.Lists) impl.Lists { impl.ValidLists(a); return impl.Lists{} })
	}
	for _, a := range badLists() {
		checkListsApart(t, "UseLists", a, use(1))
	}
	for _, trace := range append(traces(), badTraces()...) {
		for _, room := range []int{1, 3, 8, 9} {
			checkListsApart(t, "RunLists", impl.Lists{Once: trace}, func(a impl.Lists) impl.Lists { out, _ := impl.RunLists(a.Once, room); return out })
		}
	}
}
