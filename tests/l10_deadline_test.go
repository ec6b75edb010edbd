package tests

import (
	"math"
	"slices"
	"testing"

	"loop.example/cacheengine/impl"
)

// timedLists are valid timed keys from none to as many as there may be, with equal, early, late, near and mixed times.
func timedLists() [][]impl.Timed {
	d := &dice{10}
	untils := []func() int{
		func() int { return 0 },
		func() int { return 1000 },
		func() int { return 500 },
		func() int { return d.upTo(2) },
		func() int { return 1000 - d.upTo(2) },
		func() int { return 400 + 5*d.upTo(40) },
		func() int { return d.upTo(1000) },
	}
	out := [][]impl.Timed{nil, {}}
	for n := 0; n <= 12; n++ {
		for _, most := range []int{12, 31} {
			for _, until := range untils {
				list := []impl.Timed{}
				for _, key := range slices.Sorted(slices.Values(d.keys(n, most))) {
					list = append(list, impl.Timed{Key: key, Until: until()})
				}
				out = append(out, list)
			}
		}
	}
	return out
}

// timed returns timed keys of a key and a time each.
func timed(rows ...[2]int) []impl.Timed {
	list := []impl.Timed{}
	for _, row := range rows {
		list = append(list, impl.Timed{Key: row[0], Until: row[1]})
	}
	return list
}

// timedFrom returns n timed keys, one behind the other, from a key on.
func timedFrom(first int, n int) []impl.Timed {
	list := []impl.Timed{}
	for i := range n {
		list = append(list, impl.Timed{Key: first + i, Until: 100 * i % 1001})
	}
	return list
}

// timedKeys returns the keys of a list, in order.
func timedKeys(list []impl.Timed) []int {
	out := []int{}
	for _, x := range list {
		out = append(out, x.Key)
	}
	return out
}

// untilOf returns until when a key counts, or -1 if it is not there.
func untilOf(list []impl.Timed, key int) int {
	for _, x := range list {
		if x.Key == key {
			return x.Until
		}
	}
	return -1
}

// forPuts calls a test with all lists, with keys that are there and keys that are not, and with times, if there are not too many keys then.
func forPuts(test func(list []impl.Timed, key int, until int)) {
	for _, list := range timedLists() {
		for _, key := range keysToUse(timedKeys(list)) {
			for _, until := range []int{0, 1, 499, 500, 501, 999, 1000} {
				if len(list) < 12 || untilOf(list, key) >= 0 {
					test(list, key, until)
				}
			}
		}
	}
}

// timesOf returns the times of a list and those around them, those at the limits, and the least and greatest numbers.
func timesOf(list []impl.Timed) []int {
	out := []int{math.MinInt, -1001, -1, 0, 1, 79, 80, 999, 1000, 1001, 5000, math.MaxInt}
	for _, x := range list {
		out = append(out, x.Until-1, x.Until, x.Until+1)
	}
	slices.Sort(out)
	return slices.Compact(out)
}

// forTimes calls a test with all lists and with times.
func forTimes(test func(list []impl.Timed, now int)) {
	for _, list := range timedLists() {
		for _, now := range timesOf(list) {
			test(list, now)
		}
	}
}

// badTimed are lists with a key or a time out of its limits, with keys that do not ascend, or with too many of them.
func badTimed() [][]impl.Timed {
	out := [][]impl.Timed{timedFrom(0, 13), timedFrom(19, 13), timedFrom(0, 32), timed([2]int{2, 0}, [2]int{1, 0}), timed([2]int{5, 1}, [2]int{5, 2}), make([]impl.Timed, 12)}
	for n := 1; n <= 12; n++ {
		for place := range n {
			change := func(key int, until int) {
				list := timedFrom(7, n)
				list[place] = impl.Timed{Key: key, Until: until}
				out = append(out, list)
			}
			for _, key := range badKeys() {
				change(key, 1)
			}
			for _, until := range badTimes() {
				change(7+place, until)
			}
			if place > 0 {
				change(6+place, 1000)
				change(5+place, 1000)
			}
			if place < n-1 {
				change(8+place, 0)
				change(9+place, 0)
			}
		}
	}
	return out
}

func TestDeadlineConstants(t *testing.T) {
	if impl.MaxTimed != 12 || impl.WheelSlots != 8 || impl.WheelStep != 10 {
		t.Errorf("MaxTimed = %d, WheelSlots = %d, WheelStep = %d", impl.MaxTimed, impl.WheelSlots, impl.WheelStep)
	}
}

func TestP074TimedKeysCanBeLeftOut(t *testing.T) {
	for _, list := range timedLists() {
		if !impl.ValidTimed(list) {
			t.Errorf("%v is not valid", list)
		}
		for place := range list {
			if shorter := slices.Delete(slices.Clone(list), place, place+1); !impl.ValidTimed(shorter) {
				t.Errorf("%v is not valid", shorter)
			}
		}
	}
}

func TestValidTimedLimits(t *testing.T) {
	for _, list := range [][]impl.Timed{nil, {}, timed([2]int{0, 0}), timed([2]int{31, 1000}), timed([2]int{0, 1000}, [2]int{31, 0}), timed([2]int{30, 7}, [2]int{31, 7})} {
		if !impl.ValidTimed(list) {
			t.Errorf("%v is not valid", list)
		}
	}
	for n := 0; n <= 14; n++ {
		for first := 0; first <= 33-n; first++ {
			want := n <= 12 && (n == 0 || first+n <= 32)
			if impl.ValidTimed(timedFrom(first, n)) != want {
				t.Errorf("ValidTimed of %d keys from %d on is %t", n, first, !want)
			}
		}
	}
	for _, list := range badTimed() {
		if impl.ValidTimed(list) {
			t.Errorf("%v is valid", list)
		}
	}
}

func TestPutTimed(t *testing.T) {
	forPuts(func(list []impl.Timed, key int, until int) {
		want := []impl.Timed{}
		for other := range 32 {
			if time := untilOf(list, other); other == key {
				want = append(want, impl.Timed{Key: key, Until: until})
			} else if time >= 0 {
				want = append(want, impl.Timed{Key: other, Until: time})
			}
		}
		if out, ok := impl.PutTimed(list, key, until); !ok || !impl.ValidTimed(out) || !slices.Equal(out, want) {
			t.Errorf("PutTimed(%v, %d, %d) = %v, %t, want %v", list, key, until, out, ok, want)
		}
	})
}

func TestP075PutKeysCountUntilTheirTimes(t *testing.T) {
	forPuts(func(list []impl.Timed, key int, until int) {
		out, ok := impl.PutTimed(list, key, until)
		if !ok || !impl.LiveAt(out, key, until) || impl.LiveAt(out, key, until+1) || !impl.LiveAt(out, key, until-1) {
			t.Errorf("PutTimed(%v, %d, %d) = %v, %t", list, key, until, out, ok)
		}
	})
}

func TestP076OtherKeysStay(t *testing.T) {
	forPuts(func(list []impl.Timed, key int, until int) {
		out, ok := impl.PutTimed(list, key, until)
		for other := -1; other <= 32; other++ {
			for _, now := range []int{untilOf(list, other), untilOf(list, other) + 1, until, until + 1, 0, 1000} {
				if other != key && (!ok || impl.LiveAt(out, other, now) != impl.LiveAt(list, other, now)) {
					t.Errorf("PutTimed(%v, %d, %d) = %v, %t: %d at %d", list, key, until, out, ok, other, now)
				}
			}
		}
	})
}

func TestP077TheLastTimeCounts(t *testing.T) {
	forPuts(func(list []impl.Timed, key int, until int) {
		once, ok := impl.PutTimed(list, key, until)
		for _, second := range []int{0, until, 500, 1000} {
			twice, again := impl.PutTimed(once, key, second)
			want, _ := impl.PutTimed(list, key, second)
			if !ok || !again || len(twice) != len(once) || !slices.Equal(twice, want) || untilOf(twice, key) != second {
				t.Errorf("PutTimed(%v, %d, %d) = %v, and at %d %v", list, key, until, once, second, twice)
			}
		}
	})
}

func TestP161TheOrderOfPuttingDoesNotMatter(t *testing.T) {
	for _, list := range timedLists() {
		if len(list) > 10 {
			continue
		}
		for a := range 32 {
			for b := range a {
				x, _ := impl.PutTimed(list, a, 30)
				x, one := impl.PutTimed(x, b, 20)
				y, _ := impl.PutTimed(list, b, 20)
				y, two := impl.PutTimed(y, a, 30)
				if !one || !two || untilOf(x, a) != 30 || untilOf(x, b) != 20 || !slices.Equal(x, y) {
					t.Errorf("PutTimed of %d and %d into %v = %v, or %v", a, b, list, x, y)
				}
			}
		}
	}
}

func TestPutTimedCases(t *testing.T) {
	few := timed([2]int{3, 7}, [2]int{5, 9})
	for _, x := range []struct {
		name       string
		before     []impl.Timed
		key, until int
		after      []impl.Timed
		ok         bool
	}{
		{"no timed keys", nil, 31, 1000, timed([2]int{31, 1000}), true},
		{"an empty slice", []impl.Timed{}, 0, 0, timed([2]int{0, 0}), true},
		{"before all others", few, 2, 8, timed([2]int{2, 8}, [2]int{3, 7}, [2]int{5, 9}), true},
		{"behind all others", few, 6, 8, timed([2]int{3, 7}, [2]int{5, 9}, [2]int{6, 8}), true},
		{"between", few, 4, 9, timed([2]int{3, 7}, [2]int{4, 9}, [2]int{5, 9}), true},
		{"instead of the first one, earlier", few, 3, 6, timed([2]int{3, 6}, [2]int{5, 9}), true},
		{"instead of the last one, later", few, 5, 10, timed([2]int{3, 7}, [2]int{5, 10}), true},
		{"the same time again", few, 5, 9, few, true},
		{"the least key", few, 0, 0, timed([2]int{0, 0}, [2]int{3, 7}, [2]int{5, 9}), true},
		{"the greatest key", few, 31, 1000, timed([2]int{3, 7}, [2]int{5, 9}, [2]int{31, 1000}), true},
		{"the 12th key", timedFrom(1, 11), 0, 5, append(timed([2]int{0, 5}), timedFrom(1, 11)...), true},
		{"a 13th key before all others", timedFrom(1, 12), 0, 5, nil, false},
		{"a 13th key behind all others", timedFrom(1, 12), 13, 5, nil, false},
		{"a 13th key between", append(timedFrom(1, 11), timed([2]int{20, 0})...), 15, 5, nil, false},
		{"the first one of 12 keys", timedFrom(1, 12), 1, 5, append(timed([2]int{1, 5}), timedFrom(1, 12)[1:]...), true},
		{"the last one of 12 keys", timedFrom(1, 12), 12, 5, append(timedFrom(1, 11), timed([2]int{12, 5})...), true},
	} {
		if out, ok := impl.PutTimed(x.before, x.key, x.until); ok != x.ok || !slices.Equal(out, x.after) {
			t.Errorf("%s: PutTimed(%v, %d, %d) = %v, %t, want %v, %t", x.name, x.before, x.key, x.until, out, ok, x.after, x.ok)
		}
	}
}

func TestTooManyTimedKeys(t *testing.T) {
	for _, list := range timedLists() {
		for key := range 32 {
			want := len(list) < 12 || untilOf(list, key) >= 0
			if out, ok := impl.PutTimed(list, key, 50); ok != want || !ok && len(out) != 0 {
				t.Errorf("PutTimed(%v, %d, 50) = %v, %t", list, key, out, ok)
			}
		}
	}
}

func TestLiveAt(t *testing.T) {
	forTimes(func(list []impl.Timed, now int) {
		for key := range 32 {
			until := untilOf(list, key)
			if live := impl.LiveAt(list, key, now); live != (until >= 0 && until >= now) {
				t.Errorf("LiveAt(%v, %d, %d) is %t", list, key, now, live)
			}
		}
		for _, key := range badKeys() {
			if impl.LiveAt(list, key, now) {
				t.Errorf("LiveAt(%v, %d, %d) is true", list, key, now)
			}
		}
	})
}

func TestP078DeadKeysStayDead(t *testing.T) {
	for _, list := range timedLists() {
		for _, key := range keysToUse(timedKeys(list)) {
			before := true
			for _, now := range timesOf(list) {
				live := impl.LiveAt(list, key, now)
				if live && !before {
					t.Errorf("%d of %v counts again at %d", key, list, now)
				}
				before = live
			}
		}
	}
	list := timed([2]int{3, 0}, [2]int{4, 500}, [2]int{5, 1000})
	for now := -2; now <= 1002; now++ {
		if impl.LiveAt(list, 3, now) != (now <= 0) || impl.LiveAt(list, 4, now) != (now <= 500) || impl.LiveAt(list, 5, now) != (now <= 1000) {
			t.Errorf("LiveAt(%v) at %d", list, now)
		}
	}
}

func TestP079DroppedKeysAreDead(t *testing.T) {
	forTimes(func(list []impl.Timed, now int) {
		want := []impl.Timed{}
		for _, x := range list {
			if impl.LiveAt(list, x.Key, now) {
				want = append(want, x)
			}
		}
		if out, n := impl.DropDead(list, now); !impl.ValidTimed(out) || !slices.Equal(out, want) || n != len(list)-len(want) {
			t.Errorf("DropDead(%v, %d) = %v, %d, want %v", list, now, out, n, want)
		}
	})
}

func TestP080NobodyDiesTwice(t *testing.T) {
	forTimes(func(list []impl.Timed, now int) {
		once, n := impl.DropDead(list, now)
		twice, again := impl.DropDead(once, now)
		if n < 0 || again != 0 || len(once) != len(list)-n || !slices.Equal(twice, once) {
			t.Errorf("DropDead(%v, %d) = %v, %d, and then %v, %d", list, now, once, n, twice, again)
		}
	})
}

func TestP162LaterMoreAreDead(t *testing.T) {
	for _, list := range timedLists() {
		before := len(list)
		for _, now := range timesOf(list) {
			out, n := impl.DropDead(list, now)
			if len(out) > before || n != len(list)-len(out) || now > 1000 && len(out) != 0 || now <= 0 && n != 0 {
				t.Errorf("DropDead(%v, %d) = %v, %d, and %d keys earlier", list, now, out, n, before)
			}
			before = len(out)
		}
	}
}

func TestP081TheNextDeathIsTheFirstOne(t *testing.T) {
	for _, list := range timedLists() {
		if len(list) == 0 {
			continue
		}
		next := impl.NextDeath(list)
		_, none := impl.DropDead(list, next)
		_, some := impl.DropDead(list, next+1)
		if next < 0 || next > 1000 || none != 0 || some < 1 {
			t.Errorf("NextDeath(%v) = %d: DropDead drops %d, and %d a time later", list, next, none, some)
		}
	}
}

func TestP082WithoutKeysNobodyDies(t *testing.T) {
	for _, list := range timedLists() {
		want := -1
		for _, x := range list {
			if want == -1 || x.Until < want {
				want = x.Until
			}
		}
		if next := impl.NextDeath(list); next != want {
			t.Errorf("NextDeath(%v) = %d, want %d", list, next, want)
		}
	}
}

// wheel returns WheelOf of timed keys, and fails if it has not as many slots as there are.
func wheel(t *testing.T, list []impl.Timed) [][]int {
	t.Helper()
	out := impl.WheelOf(list)
	if len(out) != 8 {
		t.Fatalf("WheelOf(%v) = %v", list, out)
	}
	return out
}

func TestP083WheelsHaveAllKeys(t *testing.T) {
	for _, list := range timedLists() {
		all := []int{}
		for slot, keys := range wheel(t, list) {
			if !slices.Equal(keys, slices.Compact(slices.Sorted(slices.Values(keys)))) {
				t.Errorf("WheelOf(%v) has %v in the slot %d", list, keys, slot)
			}
			for _, key := range keys {
				if until := untilOf(list, key); until < 0 || until%80/10 != slot {
					t.Errorf("WheelOf(%v) has %d in the slot %d", list, key, slot)
				}
			}
			all = append(all, keys...)
		}
		if slices.Sort(all); !slices.Equal(all, timedKeys(list)) {
			t.Errorf("WheelOf(%v) has the keys %v", list, all)
		}
	}
}

// slotOf returns the slot in which a wheel has a key, or -1.
func slotOf(wheel [][]int, key int) int {
	return slices.IndexFunc(wheel, func(keys []int) bool { return slices.Contains(keys, key) })
}

func TestP084WheelsTurn(t *testing.T) {
	for _, list := range timedLists() {
		for place, x := range list {
			longer := slices.Clone(list)
			if longer[place].Until += 80; longer[place].Until > 1000 {
				continue
			}
			if before, behind := wheel(t, list), wheel(t, longer); slotOf(before, x.Key) < 0 || !sameParts(before, behind) {
				t.Errorf("WheelOf(%v) = %v, and %v with %d a turn longer", list, before, behind, x.Key)
			}
		}
	}
	for until := range 1001 {
		if slot := slotOf(wheel(t, timed([2]int{31, until})), 31); slot != until/10%8 {
			t.Errorf("WheelOf a key until %d has it in the slot %d", until, slot)
		}
	}
}

func TestP163TheNextDeathIsInItsSlot(t *testing.T) {
	for _, list := range timedLists() {
		if len(list) == 0 {
			continue
		}
		next := impl.NextDeath(list)
		keys := wheel(t, list)[next/10%8]
		if !slices.ContainsFunc(keys, func(key int) bool { return untilOf(list, key) == next }) {
			t.Errorf("WheelOf(%v) has %v in the slot of %d", list, keys, next)
		}
	}
}

func TestWheelCases(t *testing.T) {
	for _, x := range []struct {
		name string
		list []impl.Timed
		want [][]int
	}{
		{"no timed keys", nil, make([][]int, 8)},
		{"an empty slice", []impl.Timed{}, make([][]int, 8)},
		{"the limits of slots", timed([2]int{0, 0}, [2]int{1, 9}, [2]int{2, 10}, [2]int{3, 19}, [2]int{4, 20}, [2]int{5, 69}, [2]int{6, 70}, [2]int{7, 79}), [][]int{{0, 1}, {2, 3}, {4}, nil, nil, nil, {5}, {6, 7}}},
		{"slots that go around", timed([2]int{0, 80}, [2]int{1, 79}, [2]int{2, 89}, [2]int{3, 90}, [2]int{4, 160}, [2]int{5, 0}), [][]int{{0, 2, 4, 5}, {3}, nil, nil, nil, nil, nil, {1}}},
		{"the last times", timed([2]int{9, 1000}, [2]int{30, 999}, [2]int{31, 960}), [][]int{{31}, nil, nil, {30}, {9}, nil, nil, nil}},
		{"12 keys with the same time", timedAt(20, 12, 35), [][]int{nil, nil, nil, row(20, 21, 22, 23, 24, 25, 26, 27, 28, 29, 30, 31), nil, nil, nil, nil}},
	} {
		if out := wheel(t, x.list); !sameParts(out, x.want) {
			t.Errorf("%s: WheelOf(%v) = %v, want %v", x.name, x.list, out, x.want)
		}
	}
}

// timedAt returns n timed keys from a key on with the same time.
func timedAt(first int, n int, until int) []impl.Timed {
	list := timedFrom(first, n)
	for i := range list {
		list[i].Until = until
	}
	return list
}

func TestDeathCases(t *testing.T) {
	for _, x := range []struct {
		name string
		list []impl.Timed
		now  int
		left []impl.Timed
		dead int
		next int
	}{
		{"no timed keys", nil, 5, nil, 0, -1},
		{"no timed keys, the greatest time", []impl.Timed{}, math.MaxInt, nil, 0, -1},
		{"a time equal to Until", timed([2]int{1, 5}), 5, timed([2]int{1, 5}), 0, 5},
		{"one before", timed([2]int{1, 5}), 4, timed([2]int{1, 5}), 0, 5},
		{"one behind", timed([2]int{1, 5}), 6, nil, 1, 5},
		{"the first and the last one die", timed([2]int{1, 5}, [2]int{2, 7}, [2]int{3, 6}), 7, timed([2]int{2, 7}), 2, 5},
		{"one between dies", timed([2]int{1, 9}, [2]int{2, 3}, [2]int{3, 6}), 6, timed([2]int{1, 9}, [2]int{3, 6}), 1, 3},
		{"the last one is next", timed([2]int{1, 9}, [2]int{2, 8}, [2]int{3, 7}), 0, timed([2]int{1, 9}, [2]int{2, 8}, [2]int{3, 7}), 0, 7},
		{"several with the same time", timed([2]int{1, 4}, [2]int{2, 4}, [2]int{3, 9}, [2]int{4, 4}), 5, timed([2]int{3, 9}), 3, 4},
		{"12 keys at their time", timedAt(20, 12, 1000), 1000, timedAt(20, 12, 1000), 0, 1000},
		{"12 keys a time later", timedAt(20, 12, 1000), 1001, nil, 12, 1000},
		{"the time 0", timedAt(0, 3, 0), 0, timedAt(0, 3, 0), 0, 0},
		{"the time 1", timedAt(0, 3, 0), 1, nil, 3, 0},
		{"a time below 0", timedAt(0, 3, 0), -1, timedAt(0, 3, 0), 0, 0},
		{"the least time", timedAt(0, 3, 0), math.MinInt, timedAt(0, 3, 0), 0, 0},
		{"the greatest time", timedAt(0, 3, 1000), math.MaxInt, nil, 3, 1000},
	} {
		if out, dead := impl.DropDead(x.list, x.now); !slices.Equal(out, x.left) || dead != x.dead {
			t.Errorf("%s: DropDead(%v, %d) = %v, %d, want %v, %d", x.name, x.list, x.now, out, dead, x.left, x.dead)
		}
		if next := impl.NextDeath(x.list); next != x.next {
			t.Errorf("%s: NextDeath(%v) = %d, want %d", x.name, x.list, next, x.next)
		}
	}
}

func TestPutTimedOtherArguments(t *testing.T) {
	check := func(list []impl.Timed, key int, until int) {
		t.Helper()
		if out, ok := impl.PutTimed(list, key, until); ok || len(out) != 0 {
			t.Errorf("PutTimed(%v, %d, %d) = %v, %t", list, key, until, out, ok)
		}
	}
	for _, list := range badTimed() {
		for _, key := range []int{0, 7, 8, 31, 32, -1} {
			for _, until := range []int{0, 1, 1000, 1001, -1} {
				check(list, key, until)
			}
		}
	}
	for _, list := range timedLists() {
		for _, key := range badKeys() {
			for _, until := range []int{0, 1, 1000, 1001, -1} {
				check(list, key, until)
			}
		}
		for _, until := range badTimes() {
			for _, key := range keysToUse(timedKeys(list)) {
				check(list, key, until)
			}
		}
	}
}

func TestDeadlinesOtherArguments(t *testing.T) {
	for _, list := range badTimed() {
		for _, now := range []int{math.MinInt, -1, 0, 1, 500, 1000, 1001, math.MaxInt} {
			for _, key := range append([]int{0, 31, 32, -1}, timedKeys(list)...) {
				if impl.LiveAt(list, key, now) {
					t.Errorf("LiveAt(%v, %d, %d) is true", list, key, now)
				}
			}
			if out, n := impl.DropDead(list, now); len(out) != 0 || n != -1 {
				t.Errorf("DropDead(%v, %d) = %v, %d", list, now, out, n)
			}
		}
		if next := impl.NextDeath(list); next != -1 {
			t.Errorf("NextDeath(%v) = %d", list, next)
		}
		if out := impl.WheelOf(list); len(out) != 0 {
			t.Errorf("WheelOf(%v) = %v", list, out)
		}
	}
}

// markTimed returns a timed key that is not valid.
func markTimed(n int) impl.Timed {
	return impl.Timed{Key: n, Until: n}
}

// checkWheelApart fails if a slot of a wheel shares memory with another one or with the next wheel.
func checkWheelApart(t *testing.T, list []impl.Timed) {
	t.Helper()
	out := impl.WheelOf(list)
	result := eachPart(out, slices.Clone[[]int])
	if !markParts(out) {
		t.Errorf("WheelOf(%v): two slots share memory", list)
	}
	again := impl.WheelOf(list)
	if !sameParts(again, result) {
		t.Errorf("WheelOf(%v) = %v, and then %v", list, result, again)
	}
	if both := slices.Concat(out, again); !markParts(both) {
		t.Errorf("WheelOf(%v): two wheels share memory", list)
	}
}

func TestDeadlinesAreApart(t *testing.T) {
	check := func(name string, list []impl.Timed, call func(list []impl.Timed) []impl.Timed) {
		t.Helper()
		checkApartOf(t, name, list, markTimed, markTimed, call)
	}
	numbers := func(name string, list []impl.Timed, call func(list []impl.Timed) []int) {
		t.Helper()
		checkApartOf(t, name, list, markTimed, number, call)
	}
	for _, list := range append(timedLists(), badTimed()...) {
		for _, key := range append([]int{0, 15, 31, 32}, timedKeys(list)...) {
			check("PutTimed", list, func(list []impl.Timed) []impl.Timed { out, _ := impl.PutTimed(list, key, 500); return out })
			numbers("LiveAt", list, func(list []impl.Timed) []int { impl.LiveAt(list, key, 500); return nil })
		}
		for _, now := range []int{-1, 0, 1, 500, 1000, 1001} {
			check("DropDead", list, func(list []impl.Timed) []impl.Timed { out, _ := impl.DropDead(list, now); return out })
		}
		numbers("ValidTimed", list, func(list []impl.Timed) []int { impl.ValidTimed(list); return nil })
		numbers("NextDeath", list, func(list []impl.Timed) []int { return []int{impl.NextDeath(list)} })
		numbers("WheelOf", list, func(list []impl.Timed) []int { return slices.Concat(impl.WheelOf(list)...) })
		checkWheelApart(t, list)
	}
}
