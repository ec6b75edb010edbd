package tests

import (
	"slices"
	"testing"

	"loop.example/cacheengine/impl"
)

// allTiers are valid tiers of all rooms, each of both empty, nearly full and full, with few keys and with many.
func allTiers() []impl.Tiers {
	d := &dice{12}
	out := []impl.Tiers{}
	for small := 1; small <= 8; small++ {
		for large := 1; large <= 8; large++ {
			for _, near := range fillings(small) {
				for _, far := range fillings(large) {
					for _, most := range []int{16, 31} {
						keys := d.keys(near+far, most)
						out = append(out, tiers(small, large, keys[:near:near], keys[near:]))
					}
				}
			}
		}
	}
	return out
}

// tiers returns tiers with both rooms and both lists.
func tiers(small int, large int, near []int, far []int) impl.Tiers {
	return impl.Tiers{Small: small, Large: large, Near: near, Far: far}
}

// tierKeys returns the keys of both lists.
func tierKeys(t impl.Tiers) []int {
	return slices.Concat(t.Near, t.Far)
}

// forTiers calls a test with all tiers, and with keys that are there and keys that are not.
func forTiers(test func(u impl.Tiers, key int)) {
	for _, u := range allTiers() {
		for _, key := range keysToUse(tierKeys(u)) {
			test(u, key)
		}
	}
}

// badTiers are tiers with a list that is not valid for its room, or a key in both.
func badTiers() []impl.Tiers {
	out := []impl.Tiers{{}, tiers(0, 0, row(1), row(2))}
	for _, c := range badCaches() {
		out = append(out,
			tiers(c.room, 1, c.list, nil), tiers(1, c.room, nil, c.list),
			tiers(c.room, 8, c.list, row(20)), tiers(8, c.room, row(20), c.list), tiers(c.room, c.room, c.list, c.list))
	}
	for place := range 64 {
		u := tiers(8, 8, loop(8, 8), loop(16, 16)[8:])
		u.Far[place/8] = u.Near[place%8]
		out = append(out, u)
	}
	for _, u := range allTiers() {
		for _, key := range u.Near {
			if len(u.Far) < u.Large {
				out = append(out, tiers(u.Small, u.Large, u.Near, append(slices.Clone(u.Far), key)))
			}
		}
		for _, key := range u.Far {
			if len(u.Near) < u.Small {
				out = append(out, tiers(u.Small, u.Large, append(row(key), u.Near...), u.Far))
			}
		}
	}
	return out
}

// sameTiers reports whether two tiers are the same.
func sameTiers(a impl.Tiers, b impl.Tiers) bool {
	return a.Small == b.Small && a.Large == b.Large && slices.Equal(a.Near, b.Near) && slices.Equal(a.Far, b.Far)
}

// whereIn returns where a key is.
func whereIn(u impl.Tiers, key int) int {
	switch {
	case slices.Contains(u.Near, key):
		return impl.TierNear
	case slices.Contains(u.Far, key):
		return impl.TierFar
	}
	return impl.TierNone
}

// tiersAfter returns what UseTiers should return: it moves the key and no other one, and then all keys that have no room where they are.
func tiersAfter(u impl.Tiers, key int) (impl.Tiers, int) {
	near := append(row(key), without(u.Near, key)...)
	far := without(u.Far, key)
	fits := min(len(near), u.Small)
	far = append(slices.Clone(near[fits:]), far...)
	return tiers(u.Small, u.Large, near[:fits], far[:min(len(far), u.Large)]), whereIn(u, key)
}

// priceOf returns the cost of a key that was in a tier.
func priceOf(tier int) int {
	return map[int]int{impl.TierNone: 100, impl.TierNear: 1, impl.TierFar: 10}[tier]
}

func TestTierConstants(t *testing.T) {
	if impl.TierNone != 0 || impl.TierNear != 1 || impl.TierFar != 2 {
		t.Errorf("TierNone = %d, TierNear = %d, TierFar = %d", impl.TierNone, impl.TierNear, impl.TierFar)
	}
	if impl.NearCost != 1 || impl.FarCost != 10 || impl.NoneCost != 100 {
		t.Errorf("NearCost = %d, FarCost = %d, NoneCost = %d", impl.NearCost, impl.FarCost, impl.NoneCost)
	}
}

func TestP095TiersCanBeEmpty(t *testing.T) {
	for small := -1; small <= 10; small++ {
		for large := -1; large <= 10; large++ {
			want := small >= 1 && small <= 8 && large >= 1 && large <= 8
			if impl.ValidTiers(tiers(small, large, nil, nil)) != want || impl.ValidTiers(tiers(small, large, row(), []int{})) != want {
				t.Errorf("ValidTiers without keys, with the rooms %d and %d, is %t", small, large, !want)
			}
		}
	}
	for _, room := range badRooms() {
		if impl.ValidTiers(tiers(room, 1, nil, nil)) || impl.ValidTiers(tiers(8, room, nil, nil)) || impl.ValidTiers(tiers(room, room, nil, nil)) {
			t.Errorf("tiers with the room %d are valid", room)
		}
	}
}

func TestValidTiersLimits(t *testing.T) {
	for _, u := range allTiers() {
		if !impl.ValidTiers(u) {
			t.Errorf("%v are not valid", u)
		}
	}
	for _, u := range badTiers() {
		if impl.ValidTiers(u) {
			t.Errorf("%v are valid", u)
		}
	}
	for near := 0; near <= 10; near++ {
		for far := 0; far <= 10; far++ {
			keys := loop(32, near+far)
			for room := 1; room <= 8; room++ {
				if impl.ValidTiers(tiers(room, 8, keys[:near], keys[near:])) != (near <= room && far <= 8) {
					t.Errorf("ValidTiers of %d and %d keys with the rooms %d and 8", near, far, room)
				}
				if impl.ValidTiers(tiers(8, room, keys[:near], keys[near:])) != (near <= 8 && far <= room) {
					t.Errorf("ValidTiers of %d and %d keys with the rooms 8 and %d", near, far, room)
				}
			}
		}
	}
	for key := range 32 {
		if impl.ValidTiers(tiers(1, 1, row(key), row(key))) || !impl.ValidTiers(tiers(1, 1, row(key), row(31-key))) {
			t.Errorf("ValidTiers of %d and itself, or another one", key)
		}
	}
}

func TestUseTiers(t *testing.T) {
	forTiers(func(u impl.Tiers, key int) {
		out, tier := impl.UseTiers(u, key)
		if want, where := tiersAfter(u, key); !sameTiers(out, want) || tier != where {
			t.Errorf("UseTiers(%v, %d) = %v, %d, want %v, %d", u, key, out, tier, want, where)
		}
	})
}

func TestP096UsedKeysAreNear(t *testing.T) {
	forTiers(func(u impl.Tiers, key int) {
		if out, _ := impl.UseTiers(u, key); !impl.ValidTiers(out) || !firstOf(out.Near, key) || out.Small != u.Small || out.Large != u.Large {
			t.Errorf("UseTiers(%v, %d) = %v", u, key, out)
		}
	})
}

func TestP097KeysThatAreTherePushNobodyOut(t *testing.T) {
	forTiers(func(u impl.Tiers, key int) {
		out, tier := impl.UseTiers(u, key)
		keys := tierKeys(u)
		gone := slices.DeleteFunc(slices.Clone(keys), func(other int) bool { return slices.Contains(tierKeys(out), other) })
		there := slices.Contains(keys, key)
		if (tier == impl.TierNone) == there || there && len(gone) > 0 || len(gone) > 1 {
			t.Errorf("UseTiers(%v, %d) = %v, %d: %v are not there any more", u, key, out, tier, gone)
		}
	})
}

func TestP167NearKeysStayNear(t *testing.T) {
	forTiers(func(u impl.Tiers, key int) {
		once, _ := impl.UseTiers(u, key)
		if twice, tier := impl.UseTiers(once, key); tier != impl.TierNear || !sameTiers(twice, once) || len(once.Near) == 0 {
			t.Errorf("UseTiers(%v, %d) = %v, and then %v, %d", u, key, once, twice, tier)
		}
	})
}

func TestUseTiersCases(t *testing.T) {
	full := tiers(3, 2, row(1, 2, 3), row(4, 5))
	for _, x := range []struct {
		name      string
		before    impl.Tiers
		key       int
		tier      int
		near, far []int
	}{
		{"no keys at all", tiers(1, 1, nil, nil), 31, impl.TierNone, row(31), nil},
		{"no keys at all, the largest rooms", tiers(8, 8, row(), row()), 0, impl.TierNone, row(0), nil},
		{"first in Near", full, 1, impl.TierNear, row(1, 2, 3), row(4, 5)},
		{"in the middle of Near", full, 2, impl.TierNear, row(2, 1, 3), row(4, 5)},
		{"last in Near", full, 3, impl.TierNear, row(3, 1, 2), row(4, 5)},
		{"first in Far", full, 4, impl.TierFar, row(4, 1, 2), row(3, 5)},
		{"last in Far", full, 5, impl.TierFar, row(5, 1, 2), row(3, 4)},
		{"nowhere, both are full", full, 9, impl.TierNone, row(9, 1, 2), row(3, 4)},
		{"nowhere, Far has room", tiers(3, 3, row(1, 2, 3), row(4, 5)), 9, impl.TierNone, row(9, 1, 2), row(3, 4, 5)},
		{"nowhere, Far is empty", tiers(3, 2, row(1, 2, 3), nil), 9, impl.TierNone, row(9, 1, 2), row(3)},
		{"nowhere, Near has room", tiers(4, 2, row(1, 2, 3), row(4, 5)), 9, impl.TierNone, row(9, 1, 2, 3), row(4, 5)},
		{"nowhere, Near is empty", tiers(1, 2, nil, row(4, 5)), 9, impl.TierNone, row(9), row(4, 5)},
		{"first in Far, Near has room", tiers(4, 2, row(1, 2, 3), row(4, 5)), 4, impl.TierFar, row(4, 1, 2, 3), row(5)},
		{"last in Far, Near has room", tiers(4, 2, row(1, 2, 3), row(4, 5)), 5, impl.TierFar, row(5, 1, 2, 3), row(4)},
		{"first in Far, Near is empty", tiers(1, 2, nil, row(4, 5)), 4, impl.TierFar, row(4), row(5)},
		{"last in Far, Near is empty", tiers(8, 2, nil, row(4, 5)), 5, impl.TierFar, row(5), row(4)},
		{"the only one of Far, Near is empty", tiers(1, 1, nil, row(31)), 31, impl.TierFar, row(31), nil},
		{"first in Far, Far has room", tiers(2, 8, row(1, 2), row(4, 5, 6)), 4, impl.TierFar, row(4, 1), row(2, 5, 6)},
		{"in the middle of Far, Far has room", tiers(2, 8, row(1, 2), row(4, 5, 6)), 5, impl.TierFar, row(5, 1), row(2, 4, 6)},
		{"last in Far, Far has room", tiers(2, 8, row(1, 2), row(4, 5, 6)), 6, impl.TierFar, row(6, 1), row(2, 4, 5)},
		{"last in Near, Near has room, Far is empty", tiers(8, 1, row(1, 2), nil), 2, impl.TierNear, row(2, 1), nil},
		{"rooms of 1, near", tiers(1, 1, row(0), row(31)), 0, impl.TierNear, row(0), row(31)},
		{"rooms of 1, far", tiers(1, 1, row(0), row(31)), 31, impl.TierFar, row(31), row(0)},
		{"rooms of 1, nowhere", tiers(1, 1, row(0), row(31)), 7, impl.TierNone, row(7), row(0)},
		{"rooms of 8, last in Near", tiers(8, 8, loop(8, 8), loop(16, 16)[8:]), 7, impl.TierNear, row(7, 0, 1, 2, 3, 4, 5, 6), loop(16, 16)[8:]},
		{"rooms of 8, last in Far", tiers(8, 8, loop(8, 8), loop(16, 16)[8:]), 15, impl.TierFar, row(15, 0, 1, 2, 3, 4, 5, 6), loop(15, 15)[7:]},
		{"rooms of 8, nowhere", tiers(8, 8, loop(8, 8), loop(16, 16)[8:]), 31, impl.TierNone, row(31, 0, 1, 2, 3, 4, 5, 6), loop(15, 15)[7:]},
	} {
		if out, tier := impl.UseTiers(x.before, x.key); tier != x.tier || !sameTiers(out, tiers(x.before.Small, x.before.Large, x.near, x.far)) {
			t.Errorf("%s: UseTiers(%v, %d) = %v, %d, want %v, %v, %d", x.name, x.before, x.key, out, tier, x.near, x.far, x.tier)
		}
	}
}

func TestRunTiers(t *testing.T) {
	forTwoRooms(func(trace []int, small int, large int) {
		want, sum := tiers(small, large, nil, nil), 0
		for _, key := range trace {
			next, tier := tiersAfter(want, key)
			sum += priceOf(tier)
			want = next
		}
		if out, cost := impl.RunTiers(trace, small, large); !sameTiers(out, want) || cost != sum {
			t.Errorf("RunTiers(%v, %d, %d) = %v, %d, want %v, %d", trace, small, large, out, cost, want, sum)
		}
	})
}

func TestP098TiersAreOneRecentCache(t *testing.T) {
	forTwoRooms(func(trace []int, small int, large int) {
		out, _ := impl.RunTiers(trace, small, large)
		keys := impl.AllKeys(out)
		if !slices.Equal(keys, lastDistinct(trace, small+large)) {
			t.Errorf("AllKeys of RunTiers(%v, %d, %d) = %v", trace, small, large, keys)
		}
		if small+large > 8 {
			return
		}
		if recent, hits := impl.RunRecent(trace, small+large); hits < 0 || !slices.Equal(keys, recent) {
			t.Errorf("RunTiers(%v, %d, %d) = %v, and RunRecent %v", trace, small, large, out, recent)
		}
	})
}

func TestP099TracesRunKeyByKeyAlsoForTiers(t *testing.T) {
	forTwoRooms(func(trace []int, small int, large int) {
		out, cost := impl.RunTiers(trace, small, large)
		want, sum := tiers(small, large, nil, nil), 0
		if last := len(trace) - 1; last >= 0 {
			before, first := impl.RunTiers(trace[:last], small, large)
			after, tier := impl.UseTiers(before, trace[last])
			want, sum = after, first+priceOf(tier)
		}
		if !sameTiers(out, want) || cost != sum {
			t.Errorf("RunTiers(%v, %d, %d) = %v, %d, want %v, %d", trace, small, large, out, cost, want, sum)
		}
	})
}

func TestP168CostsAreBetweenTheLeastAndTheGreatest(t *testing.T) {
	forTwoRooms(func(trace []int, small int, large int) {
		before := 0
		for n := range len(trace) + 1 {
			_, cost := impl.RunTiers(trace[:n], small, large)
			if cost < n*impl.NearCost || cost > n*impl.NoneCost {
				t.Errorf("RunTiers(%v, %d, %d) costs %d", trace[:n], small, large, cost)
			}
			if n > 0 && !slices.Contains(trace[:n-1], trace[n-1]) && cost != before+impl.NoneCost {
				t.Errorf("RunTiers(%v, %d, %d) costs %d, without the new key %d", trace[:n], small, large, cost, before)
			}
			before = cost
		}
		if keys := newKeys(t, trace); before < keys*impl.NoneCost+(len(trace)-keys)*impl.NearCost {
			t.Errorf("RunTiers(%v, %d, %d) costs %d", trace, small, large, before)
		}
	})
}

func TestRunTiersCases(t *testing.T) {
	for _, x := range []struct {
		name         string
		trace        []int
		small, large int
		cost         int
		near, far    []int
	}{
		{"a nil trace", nil, 1, 8, 0, nil, nil},
		{"an empty trace", row(), 8, 1, 0, nil, nil},
		{"one new key", row(31), 1, 1, 100, row(31), nil},
		{"one key 24 times", times(24, 0), 1, 1, 123, row(0), nil},
		{"a far key", row(1, 2, 1), 1, 1, 210, row(1), row(2)},
		{"a far key that is near then", row(1, 2, 1, 1), 1, 1, 211, row(1), row(2)},
		{"a key that was left out", row(1, 2, 3, 1), 1, 1, 400, row(1), row(3)},
		{"each kind of use", row(1, 2, 1, 1, 3, 4, 2), 1, 1, 511, row(2), row(4)},
		{"a near key, a larger Near", row(1, 2, 1), 2, 1, 201, row(1, 2), nil},
		{"far keys again and again", loop(3, 24), 1, 2, 510, row(2), row(1, 0)},
		{"keys that are left out again and again", loop(4, 24), 1, 2, 2400, row(3), row(2, 1)},
		{"the largest rooms are full", loop(16, 24), 8, 8, 1680, reversed(loop(8, 8)), reversed(loop(16, 16)[8:])},
		{"the largest rooms are too small", loop(17, 24), 8, 8, 2400, row(6, 5, 4, 3, 2, 1, 0, 16), row(15, 14, 13, 12, 11, 10, 9, 8)},
		{"24 different keys", longest(), 8, 8, 2400, reversed(longest()[16:]), reversed(longest()[8:16])},
	} {
		if out, cost := impl.RunTiers(x.trace, x.small, x.large); cost != x.cost || !sameTiers(out, tiers(x.small, x.large, x.near, x.far)) {
			t.Errorf("%s: RunTiers(%v, %d, %d) = %v, %d, want %v, %v, %d", x.name, x.trace, x.small, x.large, out, cost, x.near, x.far, x.cost)
		}
	}
}

func TestP100AllKeysOfTiersAreKeys(t *testing.T) {
	for _, u := range allTiers() {
		if keys := impl.AllKeys(u); !slices.Equal(keys, tierKeys(u)) || len(distinct(keys)) != len(keys) {
			t.Errorf("AllKeys(%v) = %v", u, keys)
		}
	}
	if keys := impl.AllKeys(tiers(2, 2, row(9, 4), row(0, 31))); !slices.Equal(keys, row(9, 4, 0, 31)) {
		t.Errorf("AllKeys = %v", keys)
	}
	forTiers(func(u impl.Tiers, key int) {
		out, _ := impl.UseTiers(u, key)
		if keys := impl.AllKeys(out); !firstOf(keys, key) || len(keys) != len(out.Near)+len(out.Far) || len(distinct(keys)) != len(keys) {
			t.Errorf("AllKeys(%v) = %v", out, keys)
		}
	})
}

func TestTiersOtherArguments(t *testing.T) {
	check := func(u impl.Tiers, key int) {
		t.Helper()
		if out, tier := impl.UseTiers(u, key); tier != -1 || !sameTiers(out, impl.Tiers{}) {
			t.Errorf("UseTiers(%v, %d) = %v, %d", u, key, out, tier)
		}
	}
	for _, u := range badTiers() {
		for _, key := range append([]int{0, 1, 20, 31, 32, -1}, tierKeys(u)...) {
			check(u, key)
		}
		if keys := impl.AllKeys(u); len(keys) != 0 {
			t.Errorf("AllKeys(%v) = %v", u, keys)
		}
	}
	for _, u := range allTiers() {
		for _, key := range badKeys() {
			check(u, key)
		}
	}
}

func TestRunTiersOtherArguments(t *testing.T) {
	check := func(trace []int, small int, large int) {
		t.Helper()
		if out, cost := impl.RunTiers(trace, small, large); cost != -1 || !sameTiers(out, impl.Tiers{}) {
			t.Errorf("RunTiers(%v, %d, %d) = %v, %d", trace, small, large, out, cost)
		}
	}
	forBadRuns(func(trace []int, room int) {
		check(trace, room, 1)
		check(trace, 8, room)
		check(trace, room, room)
	})
}

// checkTiersApart fails if a call modifies its argument, if its result shares memory with it or in itself, or if it keeps memory for the next call.
func checkTiersApart(t *testing.T, name string, u impl.Tiers, call func(u impl.Tiers) impl.Tiers) {
	t.Helper()
	checkPartsApart(t, name, [][]int{u.Near, u.Far}, func(parts [][]int) [][]int {
		out := call(tiers(u.Small, u.Large, parts[0], parts[1]))
		return [][]int{out.Near, out.Far}
	})
}

func TestTiersAreApart(t *testing.T) {
	use := func(key int) func(u impl.Tiers) impl.Tiers {
		return func(u impl.Tiers) impl.Tiers { out, _ := impl.UseTiers(u, key); return out }
	}
	forTiers(func(u impl.Tiers, key int) {
		checkTiersApart(t, "UseTiers", u, use(key))
	})
	for _, u := range append(allTiers(), badTiers()...) {
		checkTiersApart(t, "UseTiers of no key", u, use(32))
		checkTiersApart(t, "AllKeys", u, func(u impl.Tiers) impl.Tiers { return impl.Tiers{Near: impl.AllKeys(u)} })
		checkTiersApart(t, "ValidTiers", u, func(u impl.Tiers) impl.Tiers { impl.ValidTiers(u); return impl.Tiers{} })
	}
	for _, u := range badTiers() {
		checkTiersApart(t, "UseTiers", u, use(1))
	}
	for _, trace := range append(traces(), badTraces()...) {
		for _, room := range []int{1, 3, 8, 9} {
			checkTiersApart(t, "RunTiers", impl.Tiers{Near: trace}, func(u impl.Tiers) impl.Tiers { out, _ := impl.RunTiers(u.Near, room, 2); return out })
		}
	}
}
