package tests

import (
	"math"
	"slices"
	"testing"

	"loop.example/cacheengine/impl"
)

// space is weighed keys and a room for them.
type space struct {
	list []impl.Weighed
	room int
}

// spaces are weighed keys that are valid for their rooms, with no key at first, and then one more after the other until the room is full, or full but for 1.
func spaces() []space {
	d := &dice{11}
	out := []space{{nil, 1}, {[]impl.Weighed{}, 50}}
	for _, room := range []int{1, 2, 3, 7, 18, 19, 20, 21, 22, 39, 40, 41, 49, 50} {
		for _, most := range []int{1, 2, 5, 10, 20} {
			for _, spare := range []int{0, 1} {
				list := []impl.Weighed{}
				left := room - spare
				for _, key := range d.keys(32, 31) {
					out = append(out, space{slices.Clone(list), room})
					if left == 0 {
						break
					}
					size := min(1+d.upTo(most-1), left)
					list = append(list, impl.Weighed{Key: key, Size: size})
					left -= size
				}
			}
		}
	}
	return out
}

// weighed returns weighed keys of a key and a size each.
func weighed(rows ...[2]int) []impl.Weighed {
	list := []impl.Weighed{}
	for _, row := range rows {
		list = append(list, impl.Weighed{Key: row[0], Size: row[1]})
	}
	return list
}

// weighedFrom returns n keys with the same size, one behind the other, from a key on.
func weighedFrom(first int, n int, size int) []impl.Weighed {
	list := []impl.Weighed{}
	for i := range n {
		list = append(list, impl.Weighed{Key: first + i, Size: size})
	}
	return list
}

// weighedKeys returns the keys of a list, in order.
func weighedKeys(list []impl.Weighed) []int {
	out := []int{}
	for _, x := range list {
		out = append(out, x.Key)
	}
	return out
}

// sumOf returns the sum of all sizes.
func sumOf(list []impl.Weighed) int {
	sum := 0
	for _, x := range list {
		sum += x.Size
	}
	return sum
}

// othersOf returns weighed keys without one key.
func othersOf(list []impl.Weighed, key int) []impl.Weighed {
	return slices.DeleteFunc(slices.Clone(list), func(x impl.Weighed) bool { return x.Key == key })
}

// forWeighs calls a test with all spaces, with keys that are there and keys that are not, and with all sizes.
func forWeighs(test func(s space, key int, size int)) {
	for _, s := range spaces() {
		for _, key := range keysToUse(weighedKeys(s.list)) {
			for size := 1; size <= 20; size++ {
				test(s, key, size)
			}
		}
	}
}

// weighedAfter returns what UseWeighed should return: from the key on, as many as fit.
func weighedAfter(s space, key int, size int) ([]impl.Weighed, int) {
	others := othersOf(s.list, key)
	all := append(weighed([2]int{key, size}), others...)
	n := len(all)
	for sumOf(all[:n]) > s.room {
		n--
	}
	if n == 0 {
		return nil, len(others)
	}
	return all[:n], len(all) - n
}

// badSpaceRooms are numbers that are no rooms for weighed keys.
func badSpaceRooms() []int {
	return []int{0, -1, -50, 51, 52, 1000, math.MaxInt, math.MinInt}
}

// badSizes are numbers that are no sizes of keys.
func badSizes() []int {
	return []int{0, -1, -20, 21, 22, 100, math.MaxInt, math.MinInt}
}

// badCounts are numbers that are no counts.
func badCounts() []int {
	return []int{-1, -2, -100, 101, 102, math.MaxInt, math.MinInt}
}

// badSpaces are weighed keys that are not valid for their rooms: with a key or a size out of its limits, a key twice, too small a room, or none.
func badSpaces() []space {
	out := []space{
		{weighedFrom(0, 33, 1), 50}, {weighedFrom(0, 32, 2), 50}, {make([]impl.Weighed, 3), 50}, {weighed([2]int{31, 20}, [2]int{31, 20}), 50},
		{weighed([2]int{1, math.MaxInt}, [2]int{2, math.MaxInt}, [2]int{3, 3}), 50}, {weighed([2]int{1, -1}, [2]int{2, 20}, [2]int{3, 1}), 20},
	}
	for n := 1; n <= 5; n++ {
		for place := range n {
			change := func(key int, size int) {
				list := weighedFrom(7, n, 5)
				list[place] = impl.Weighed{Key: key, Size: size}
				out = append(out, space{list, 50})
			}
			for _, key := range badKeys() {
				change(key, 5)
			}
			for _, size := range badSizes() {
				change(7+place, size)
			}
			for other := range n {
				if other != place {
					change(7+other, 5)
					change(7+other, 1)
				}
			}
		}
	}
	for _, s := range spaces() {
		for _, room := range []int{sumOf(s.list) - 1, sumOf(s.list) - 2, 1} {
			if room >= 1 && room < sumOf(s.list) {
				out = append(out, space{s.list, room})
			}
		}
	}
	for _, room := range badSpaceRooms() {
		out = append(out, space{nil, room}, space{[]impl.Weighed{}, room}, space{weighedFrom(3, 1, 1), room}, space{weighedFrom(3, 2, 20), room})
	}
	return out
}

func TestWeightConstants(t *testing.T) {
	if impl.MaxSize != 20 || impl.MaxSpace != 50 || impl.WorthScale != 100 || impl.MaxChoices != 8 {
		t.Errorf("MaxSize = %d, MaxSpace = %d, WorthScale = %d, MaxChoices = %d", impl.MaxSize, impl.MaxSpace, impl.WorthScale, impl.MaxChoices)
	}
}

func TestP085WeighedKeysCanBeLeftOut(t *testing.T) {
	for _, s := range spaces() {
		for n := range len(s.list) + 1 {
			if !impl.ValidWeighed(s.list[:n], s.room) {
				t.Errorf("%v is not valid for %d", s.list[:n], s.room)
			}
		}
	}
}

func TestValidWeighedLimits(t *testing.T) {
	for room := -2; room <= 53; room++ {
		want := 1 <= room && room <= 50
		if impl.ValidWeighed(nil, room) != want || impl.ValidWeighed([]impl.Weighed{}, room) != want {
			t.Errorf("ValidWeighed of no keys, %d", room)
		}
		for n := 1; n <= 34; n++ {
			for _, size := range []int{0, 1, 2, 5, 10, 19, 20, 21} {
				valid := want && n <= 32 && 1 <= size && size <= 20 && n*size <= room
				if list := weighedFrom(0, n, size); impl.ValidWeighed(list, room) != valid {
					t.Errorf("ValidWeighed(%v, %d) is %t", list, room, !valid)
				}
			}
		}
	}
	for _, list := range [][]impl.Weighed{weighed([2]int{31, 20}, [2]int{0, 20}, [2]int{15, 10}), weighedFrom(0, 32, 1), weighed([2]int{5, 1}, [2]int{4, 1})} {
		if !impl.ValidWeighed(list, 50) {
			t.Errorf("%v is not valid", list)
		}
	}
	for _, s := range badSpaces() {
		if impl.ValidWeighed(s.list, s.room) {
			t.Errorf("%v is valid for %d", s.list, s.room)
		}
	}
}

func TestP086SpaceIsFreeOrUsed(t *testing.T) {
	for _, s := range spaces() {
		for room := max(sumOf(s.list), 1); room <= 50; room++ {
			if free := impl.FreeSpace(s.list, room); free < 0 || free+sumOf(s.list) != room {
				t.Errorf("FreeSpace(%v, %d) = %d", s.list, room, free)
			}
		}
	}
	if impl.FreeSpace(nil, 50) != 50 || impl.FreeSpace(nil, 1) != 1 || impl.FreeSpace(weighedFrom(3, 2, 20), 40) != 0 || impl.FreeSpace(weighedFrom(3, 2, 20), 41) != 1 {
		t.Error("FreeSpace")
	}
}

func TestUseWeighed(t *testing.T) {
	forWeighs(func(s space, key int, size int) {
		want, left := weighedAfter(s, key, size)
		if out, n := impl.UseWeighed(s.list, s.room, key, size); !slices.Equal(out, want) || n != left {
			t.Errorf("UseWeighed(%v, %d, %d, %d) = %v, %d, want %v, %d", s.list, s.room, key, size, out, n, want, left)
		}
	})
}

func TestP087UsedKeysAreFirstIfTheyFit(t *testing.T) {
	forWeighs(func(s space, key int, size int) {
		out, _ := impl.UseWeighed(s.list, s.room, key, size)
		fits := len(out) > 0 && out[0] == impl.Weighed{Key: key, Size: size}
		if !impl.ValidWeighed(out, s.room) || fits != (size <= s.room) || !fits && len(out) > 0 {
			t.Errorf("UseWeighed(%v, %d, %d, %d) = %v", s.list, s.room, key, size, out)
		}
	})
}

func TestP088OthersKeepTheirOrder(t *testing.T) {
	forWeighs(func(s space, key int, size int) {
		out, n := impl.UseWeighed(s.list, s.room, key, size)
		others := othersOf(s.list, key)
		behind := out[min(len(out), 1):]
		if n < 0 || n+len(behind) != len(others) || !slices.Equal(behind, others[:len(behind)]) {
			t.Errorf("UseWeighed(%v, %d, %d, %d) = %v, %d", s.list, s.room, key, size, out, n)
		}
	})
}

func TestP089NobodyIsPushedOutWithoutNeed(t *testing.T) {
	forWeighs(func(s space, key int, size int) {
		out, n := impl.UseWeighed(s.list, s.room, key, size)
		others := othersOf(s.list, key)
		if n == 0 || size > s.room {
			return
		}
		if n > len(others) || len(out) != 1+len(others)-n || impl.FreeSpace(out, s.room) >= others[len(others)-n].Size {
			t.Errorf("UseWeighed(%v, %d, %d, %d) = %v, %d", s.list, s.room, key, size, out, n)
		}
	})
}

func TestP164SpaceBecomesLessByWhatIsUsed(t *testing.T) {
	forWeighs(func(s space, key int, size int) {
		free := impl.FreeSpace(s.list, s.room)
		if slices.Contains(weighedKeys(s.list), key) || size > free {
			return
		}
		out, n := impl.UseWeighed(s.list, s.room, key, size)
		if n != 0 || free < 0 || impl.FreeSpace(out, s.room) != free-size {
			t.Errorf("UseWeighed(%v, %d, %d, %d) = %v, %d", s.list, s.room, key, size, out, n)
		}
	})
}

func TestP165UsingTwiceWithTheSameSizeIsUsingOnce(t *testing.T) {
	forWeighs(func(s space, key int, size int) {
		once, _ := impl.UseWeighed(s.list, s.room, key, size)
		if twice, n := impl.UseWeighed(once, s.room, key, size); n != 0 || !slices.Equal(twice, once) {
			t.Errorf("UseWeighed(%v, %d, %d, %d) = %v, and then %v, %d", s.list, s.room, key, size, once, twice, n)
		}
	})
}

func TestUseWeighedCases(t *testing.T) {
	few := weighed([2]int{3, 5}, [2]int{8, 6}, [2]int{1, 4})
	for _, x := range []struct {
		name      string
		before    []impl.Weighed
		room      int
		key, size int
		after     []impl.Weighed
		left      int
	}{
		{"no keys at all", nil, 1, 31, 1, weighed([2]int{31, 1}), 0},
		{"an empty slice, the largest room", []impl.Weighed{}, 50, 0, 20, weighed([2]int{0, 20}), 0},
		{"the first one, a smaller size", few, 15, 3, 4, weighed([2]int{3, 4}, [2]int{8, 6}, [2]int{1, 4}), 0},
		{"the first one, the same size", few, 15, 3, 5, few, 0},
		{"the first one, a greater size", few, 15, 3, 6, weighed([2]int{3, 6}, [2]int{8, 6}), 1},
		{"the first one, a greater size that fits", few, 16, 3, 6, weighed([2]int{3, 6}, [2]int{8, 6}, [2]int{1, 4}), 0},
		{"in the middle, a smaller size", few, 15, 8, 1, weighed([2]int{8, 1}, [2]int{3, 5}, [2]int{1, 4}), 0},
		{"in the middle, the same size", few, 15, 8, 6, weighed([2]int{8, 6}, [2]int{3, 5}, [2]int{1, 4}), 0},
		{"in the middle, a greater size", few, 15, 8, 7, weighed([2]int{8, 7}, [2]int{3, 5}), 1},
		{"the last one, a smaller size", few, 15, 1, 3, weighed([2]int{1, 3}, [2]int{3, 5}, [2]int{8, 6}), 0},
		{"the last one, the same size", few, 15, 1, 4, weighed([2]int{1, 4}, [2]int{3, 5}, [2]int{8, 6}), 0},
		{"the last one, a greater size", few, 15, 1, 5, weighed([2]int{1, 5}, [2]int{3, 5}), 1},
		{"a new key that fills the room exactly", few, 20, 0, 5, weighed([2]int{0, 5}, [2]int{3, 5}, [2]int{8, 6}, [2]int{1, 4}), 0},
		{"a new key with one less", few, 20, 0, 4, weighed([2]int{0, 4}, [2]int{3, 5}, [2]int{8, 6}, [2]int{1, 4}), 0},
		{"a new key with one more", few, 20, 0, 6, weighed([2]int{0, 6}, [2]int{3, 5}, [2]int{8, 6}), 1},
		{"several keys are left out", few, 15, 0, 10, weighed([2]int{0, 10}, [2]int{3, 5}), 2},
		{"all others are left out", few, 15, 0, 11, weighed([2]int{0, 11}), 3},
		{"a new key that fills the room alone", few, 15, 0, 15, weighed([2]int{0, 15}), 3},
		{"a key that is there fills the room alone", few, 15, 8, 15, weighed([2]int{8, 15}), 2},
		{"a new key that is too large", few, 15, 0, 16, nil, 3},
		{"a key that is there and too large, first", few, 15, 3, 16, nil, 2},
		{"a key that is there and too large, last", few, 15, 1, 20, nil, 2},
		{"the only key becomes too large", weighed([2]int{8, 1}), 1, 8, 2, nil, 0},
		{"too large, without any other", nil, 19, 8, 20, nil, 0},
		{"only the last key goes, though another one is enough", weighed([2]int{1, 1}, [2]int{2, 9}, [2]int{3, 1}, [2]int{4, 1}), 12, 5, 1, weighed([2]int{5, 1}, [2]int{1, 1}, [2]int{2, 9}, [2]int{3, 1}), 1},
		{"no smaller key stays behind one that goes", weighed([2]int{1, 1}, [2]int{2, 9}, [2]int{3, 1}), 11, 5, 2, weighed([2]int{5, 2}, [2]int{1, 1}), 2},
		{"all keys are there", weighedFrom(0, 32, 1), 32, 31, 1, append(weighed([2]int{31, 1}), weighedFrom(0, 31, 1)...), 0},
		{"all keys are there, a greater size", weighedFrom(0, 32, 1), 32, 0, 20, append(weighed([2]int{0, 20}), weighedFrom(1, 12, 1)...), 19},
	} {
		if out, left := impl.UseWeighed(x.before, x.room, x.key, x.size); left != x.left || !slices.Equal(out, x.after) {
			t.Errorf("%s: UseWeighed(%v, %d, %d, %d) = %v, %d, want %v, %d", x.name, x.before, x.room, x.key, x.size, out, left, x.after, x.left)
		}
	}
}

// forWorths calls a test with all numbers of times, costs and sizes that are valid.
func forWorths(test func(times int, cost int, size int)) {
	for times := 0; times <= 100; times++ {
		for cost := 0; cost <= 100; cost++ {
			for size := 1; size <= 20; size++ {
				test(times, cost, size)
			}
		}
	}
}

func TestWorthOf(t *testing.T) {
	forWorths(func(times int, cost int, size int) {
		worth, whole := impl.WorthOf(times, cost, size), 100*times*cost
		if worth*size > whole || whole >= (worth+1)*size {
			t.Errorf("WorthOf(%d, %d, %d) = %d", times, cost, size, worth)
		}
	})
	for _, x := range [][4]int{{0, 0, 1, 0}, {0, 100, 1, 0}, {100, 0, 20, 0}, {1, 1, 20, 5}, {1, 1, 1, 100}, {1, 1, 3, 33}, {1, 2, 3, 66}, {2, 1, 3, 66}, {1, 3, 3, 100}, {1, 1, 19, 5}, {100, 100, 1, 1000000}, {100, 100, 20, 50000}, {100, 100, 7, 142857}} {
		if worth := impl.WorthOf(x[0], x[1], x[2]); worth != x[3] {
			t.Errorf("WorthOf(%d, %d, %d) = %d, want %d", x[0], x[1], x[2], worth, x[3])
		}
	}
}

func TestP090WorthGrowsWithUseAndCost(t *testing.T) {
	forWorths(func(times int, cost int, size int) {
		worth := impl.WorthOf(times, cost, size)
		if times < 100 && impl.WorthOf(times+1, cost, size) < worth || cost < 100 && impl.WorthOf(times, cost+1, size) < worth {
			t.Errorf("WorthOf(%d, %d, %d) = %d, and it falls", times, cost, size, worth)
		}
		if size < 20 && impl.WorthOf(times, cost, size+1) > worth {
			t.Errorf("WorthOf(%d, %d, %d) = %d, and it grows with the size", times, cost, size, worth)
		}
	})
}

func TestP091SmallKeysAreWorthWhatTheyCost(t *testing.T) {
	forWorths(func(times int, cost int, size int) {
		small := impl.WorthOf(times, cost, 1)
		if small != times*cost*impl.WorthScale || impl.WorthOf(times, cost, size) != small/size {
			t.Errorf("WorthOf(%d, %d, %d) = %d, with the size 1 %d", times, cost, size, impl.WorthOf(times, cost, size), small)
		}
	})
}

// choice is sizes and as many values.
type choice struct{ sizes, values []int }

// choices are from no sizes to as many as there may be, with few and with many different sizes and values.
func choices() []choice {
	d := &dice{110}
	out := []choice{{nil, nil}, {row(), nil}, {nil, row()}}
	values := []func() int{
		func() int { return 0 },
		func() int { return 100 },
		func() int { return d.upTo(1) },
		func() int { return 1 + d.upTo(3) },
		func() int { return d.upTo(100) },
	}
	for n := 0; n <= 8; n++ {
		for _, sizes := range []func() int{
			func() int { return 1 },
			func() int { return 20 },
			func() int { return 1 + d.upTo(2) },
			func() int { return 5 + d.upTo(3) },
			func() int { return 1 + d.upTo(19) },
			func() int { return 17 + d.upTo(3) },
		} {
			for _, value := range values {
				x := choice{row(), row()}
				for range n {
					x.sizes, x.values = append(x.sizes, sizes()), append(x.values, value())
				}
				out = append(out, x)
			}
		}
	}
	return append(out, choice{row(1, 2, 3, 4, 5, 6, 7, 8), row(1, 2, 3, 4, 5, 6, 7, 8)}, choice{row(8, 7, 6, 5, 4, 3, 2, 1), row(8, 7, 6, 5, 4, 3, 2, 1)})
}

// sumAt returns the sum of the numbers of some places.
func sumAt(numbers []int, places []int) int {
	sum := 0
	for _, place := range places {
		sum += numbers[place]
	}
	return sum
}

// waysToChoose returns all sets of n places, each one before those that do not take the first place at which they differ.
func waysToChoose(n int) [][]int {
	out := [][]int{{}}
	for place := n - 1; place >= 0; place-- {
		with := [][]int{}
		for _, places := range out {
			with = append(with, append(row(place), places...))
		}
		out = append(with, out...)
	}
	return out
}

// bestWay returns what BestFill should return: of all ways that fit the first one with the greatest sum.
func bestWay(x choice, room int) []int {
	best, most := row(), -1
	for _, places := range waysToChoose(len(x.sizes)) {
		if value := sumAt(x.values, places); value > most && sumAt(x.sizes, places) <= room {
			best, most = places, value
		}
	}
	return best
}

// forFills calls a test with all choices and with small and large rooms and those around all sizes together.
func forFills(test func(x choice, room int)) {
	for _, x := range choices() {
		all := sumAt(x.sizes, loop(32, len(x.sizes)))
		rooms := []int{1, 2, 5, 6, 10, 17, 19, 20, 21, 35, 49, 50}
		for _, room := range []int{all - 1, all, all + 1} {
			if 1 <= room && room <= 50 {
				rooms = append(rooms, room)
			}
		}
		for _, room := range rooms {
			test(x, room)
		}
	}
}

func TestBestFill(t *testing.T) {
	forFills(func(x choice, room int) {
		if out, want := impl.BestFill(x.sizes, x.values, room), bestWay(x, room); !slices.Equal(out, want) {
			t.Errorf("BestFill(%v, %v, %d) = %v, want %v", x.sizes, x.values, room, out, want)
		}
	})
}

func TestP092WhatIsFilledInFits(t *testing.T) {
	forFills(func(x choice, room int) {
		out := impl.BestFill(x.sizes, x.values, room)
		before := -1
		for _, place := range out {
			if place <= before || place >= len(x.sizes) {
				t.Fatalf("BestFill(%v, %v, %d) = %v", x.sizes, x.values, room, out)
			}
			before = place
		}
		if sumAt(x.sizes, out) > room {
			t.Errorf("BestFill(%v, %v, %d) = %v does not fit", x.sizes, x.values, room, out)
		}
	})
}

func TestP093NothingIsBetter(t *testing.T) {
	forFills(func(x choice, room int) {
		out := impl.BestFill(x.sizes, x.values, room)
		for _, places := range waysToChoose(len(x.sizes)) {
			if sumAt(x.sizes, places) <= room && sumAt(x.values, places) > sumAt(x.values, out) {
				t.Errorf("BestFill(%v, %v, %d) = %v, and %v is better", x.sizes, x.values, room, out, places)
			}
		}
	})
}

func TestP094EverythingThatFitsIsTaken(t *testing.T) {
	for _, x := range choices() {
		all := loop(32, len(x.sizes))
		for room := max(sumAt(x.sizes, all), 1); room <= 50; room++ {
			if out := impl.BestFill(x.sizes, x.values, room); !slices.Equal(out, all) {
				t.Errorf("BestFill(%v, %v, %d) = %v", x.sizes, x.values, room, out)
			}
		}
	}
}

func TestP166MoreRoomIsBetterFilled(t *testing.T) {
	for _, x := range choices() {
		before := 0
		for room := 1; room <= 50; room++ {
			value := sumAt(x.values, impl.BestFill(x.sizes, x.values, room))
			if value < before {
				t.Errorf("BestFill(%v, %v) with the room %d is worth %d, and with one less %d", x.sizes, x.values, room, value, before)
			}
			before = value
		}
	}
	for _, room := range []int{1, 49, 50} {
		if out := impl.BestFill(times(8, 1), times(8, 100), room); len(out) != min(room, 8) {
			t.Errorf("BestFill of 8 small sizes, %d = %v", room, out)
		}
	}
}

func TestBestFillCases(t *testing.T) {
	for _, x := range []struct {
		name          string
		sizes, values []int
		room          int
		want          []int
	}{
		{"no sizes", nil, nil, 1, nil},
		{"empty slices", row(), row(), 50, nil},
		{"one that fits exactly", row(20), row(100), 20, row(0)},
		{"one that is too large by 1", row(20), row(100), 19, nil},
		{"one with the value 0", row(1), row(0), 1, row(0)},
		{"one with the value 0 that is too large", row(2), row(0), 1, nil},
		{"all are too large", row(2, 3, 20), row(1, 2, 100), 1, nil},
		{"equal sizes and values, room for one", times(8, 7), times(8, 3), 13, row(0)},
		{"equal sizes and values, room for three", times(8, 7), times(8, 3), 21, row(0, 1, 2)},
		{"equal sizes, the last one is worth most", row(4, 4, 4), row(1, 2, 3), 8, row(1, 2)},
		{"all values 0, the first ones are taken", row(3, 3, 3), row(0, 0, 0), 6, row(0, 1)},
		{"all values 0, the first one does not fit", row(7, 3, 3), row(0, 0, 0), 6, row(1, 2)},
		{"all values 0, the first one alone fits", row(6, 3, 3), row(0, 0, 0), 6, row(0)},
		{"the value 0 between, with room", row(2, 2, 2), row(5, 0, 5), 6, row(0, 1, 2)},
		{"the value 0 between, without room", row(2, 2, 2), row(5, 0, 5), 5, row(0, 2)},
		{"the value 0 behind, with room", row(2, 2), row(5, 0), 4, row(0, 1)},
		{"the first one, or two with the same sum", row(6, 3, 3), row(4, 2, 2), 6, row(0)},
		{"two with the same sum, or the last one", row(3, 3, 6), row(2, 2, 4), 6, row(0, 1)},
		{"two choices that differ at the second place", row(1, 5, 3, 2), row(1, 7, 4, 3), 6, row(0, 1)},
		{"fewer sizes, but the same sum and an earlier place", row(4, 1, 1, 2), row(4, 1, 1, 2), 4, row(0)},
		{"fewer sizes, and a later place", row(1, 1, 2, 4), row(1, 1, 2, 4), 4, row(0, 1, 2)},
		{"the greatest value does not pay", row(10, 5, 5), row(9, 5, 5), 10, row(1, 2)},
		{"the most for its size does not pay", row(6, 10), row(7, 10), 10, row(1)},
		{"everything but one size", row(1, 1, 1, 1, 1, 1, 1, 1), row(5, 5, 5, 4, 5, 5, 5, 5), 7, row(0, 1, 2, 4, 5, 6, 7)},
		{"8 sizes, everything exactly", row(20, 20, 4, 2, 1, 1, 1, 1), times(8, 100), 50, loop(8, 8)},
		{"8 sizes, one less", row(20, 20, 5, 1, 1, 1, 1, 2), times(8, 100), 50, loop(7, 7)},
		{"the largest sizes and values", times(8, 20), times(8, 100), 50, row(0, 1)},
	} {
		if out := impl.BestFill(x.sizes, x.values, x.room); !slices.Equal(out, x.want) {
			t.Errorf("%s: BestFill(%v, %v, %d) = %v, want %v", x.name, x.sizes, x.values, x.room, out, x.want)
		}
	}
}

func TestWeighedOtherArguments(t *testing.T) {
	check := func(s space, key int, size int) {
		t.Helper()
		if out, left := impl.UseWeighed(s.list, s.room, key, size); left != -1 || len(out) != 0 {
			t.Errorf("UseWeighed(%v, %d, %d, %d) = %v, %d", s.list, s.room, key, size, out, left)
		}
	}
	for _, s := range badSpaces() {
		if free := impl.FreeSpace(s.list, s.room); free != -1 {
			t.Errorf("FreeSpace(%v, %d) = %d", s.list, s.room, free)
		}
		for _, key := range []int{0, 3, 7, 8, 31, 32} {
			for _, size := range []int{0, 1, 20, 21} {
				check(s, key, size)
			}
		}
	}
	for _, s := range spaces() {
		for _, key := range badKeys() {
			check(s, key, 1)
			check(s, key, 20)
		}
		for _, size := range badSizes() {
			for _, key := range append(weighedKeys(s.list), 0, 31) {
				check(s, key, size)
			}
		}
	}
}

func TestWorthOfOtherArguments(t *testing.T) {
	check := func(times int, cost int, size int) {
		t.Helper()
		if worth := impl.WorthOf(times, cost, size); worth != -1 {
			t.Errorf("WorthOf(%d, %d, %d) = %d", times, cost, size, worth)
		}
	}
	for _, size := range append(badSizes(), 1, 7, 20) {
		for _, bad := range badCounts() {
			for _, count := range append(badCounts(), 0, 1, 100) {
				check(bad, count, size)
				check(count, bad, size)
			}
		}
	}
	for _, size := range badSizes() {
		for _, count := range []int{0, 1, 100} {
			check(count, 0, size)
			check(count, 1, size)
			check(count, 100, size)
		}
	}
}

func TestBestFillOtherArguments(t *testing.T) {
	check := func(sizes []int, values []int, room int) {
		t.Helper()
		if out := impl.BestFill(sizes, values, room); len(out) != 0 {
			t.Errorf("BestFill(%v, %v, %d) = %v", sizes, values, room, out)
		}
	}
	for _, x := range choices() {
		for _, room := range badSpaceRooms() {
			check(x.sizes, x.values, room)
		}
		check(append(slices.Clone(x.sizes), 1), x.values, 50)
		check(x.sizes, append(slices.Clone(x.values), 1), 50)
		check(slices.Concat(times(9-len(x.sizes), 1), x.sizes), slices.Concat(times(9-len(x.values), 1), x.values), 50)
		for place := range x.sizes {
			for _, size := range badSizes() {
				check(slices.Replace(slices.Clone(x.sizes), place, place+1, size), x.values, 50)
			}
			for _, value := range badCounts() {
				check(x.sizes, slices.Replace(slices.Clone(x.values), place, place+1, value), 50)
			}
		}
	}
	for _, n := range []int{9, 10, 24, 100} {
		check(times(n, 1), times(n, 1), 50)
		check(times(n, 20), times(n, 0), 50)
		check(times(n, 1), nil, 50)
		check(nil, times(n, 1), 50)
	}
	if out := impl.BestFill(times(8, 1), times(8, 1), 50); !slices.Equal(out, loop(8, 8)) {
		t.Errorf("BestFill of 8 sizes = %v", out)
	}
}

// markWeighed returns a weighed key that is not valid.
func markWeighed(n int) impl.Weighed {
	return impl.Weighed{Key: n, Size: n}
}

func TestWeightsAreApart(t *testing.T) {
	numbers := func(name string, s space, call func(list []impl.Weighed)) {
		t.Helper()
		checkApartOf(t, name, s.list, markWeighed, number, func(list []impl.Weighed) []int { call(list); return nil })
	}
	for _, s := range append(spaces(), badSpaces()...) {
		for _, key := range append([]int{0, 15, 31, 32}, weighedKeys(s.list)...) {
			for _, size := range []int{1, 2, 10, 19, 20, 21} {
				checkApartOf(t, "UseWeighed", s.list, markWeighed, markWeighed, func(list []impl.Weighed) []impl.Weighed {
					out, _ := impl.UseWeighed(list, s.room, key, size)
					return out
				})
			}
		}
		numbers("ValidWeighed", s, func(list []impl.Weighed) { impl.ValidWeighed(list, s.room) })
		numbers("FreeSpace", s, func(list []impl.Weighed) { impl.FreeSpace(list, s.room) })
	}
	for _, x := range append(choices(), choice{times(9, 1), times(9, 1)}, choice{row(1, 21), row(1, 1)}, choice{row(1, 2), row(1, 101)}, choice{row(1), row(1, 2)}) {
		for _, room := range []int{0, 1, 20, 50, 51} {
			checkPartsApart(t, "BestFill", [][]int{x.sizes, x.values}, func(parts [][]int) [][]int {
				return [][]int{impl.BestFill(parts[0], parts[1], room)}
			})
		}
	}
}
