package tests

import (
	"math"
	"slices"
	"testing"

	"loop.example/cacheengine/impl"
)

// gates are valid caches with a gate of all rooms, each of both lists empty, nearly full and full, with empty, low, mixed and full counters, at the first, the last and other numbers of added keys.
func gates() []impl.Gate {
	d := &dice{9}
	out := []impl.Gate{}
	for window := 1; window <= 8; window++ {
		for room := 1; room <= 8; room++ {
			for _, news := range fillings(window) {
				for _, mains := range fillings(room) {
					keys := d.keys(news+mains, 31)
					for _, sketch := range [][]int{impl.EmptySketch(), lowSketch(d), d.sketch(), times(24, 15)} {
						for _, added := range []int{0, d.upTo(15), 15} {
							out = append(out, impl.Gate{Window: window, Room: room, New: keys[:news:news], Main: keys[news:], Sketch: sketch, Added: added})
						}
					}
				}
			}
		}
	}
	return out
}

// lowSketch returns a sketch in which equal counts, and counts that differ by 1, are frequent.
func lowSketch(d *dice) []int {
	s := make([]int, 24)
	for i := range s {
		s[i] = 3 + d.upTo(2)
	}
	return s
}

// gateKeys returns the keys of both lists.
func gateKeys(g impl.Gate) []int {
	return slices.Concat(g.New, g.Main)
}

// forGates calls a test with all gates, and with keys that are there and keys that are not.
func forGates(test func(g impl.Gate, key int)) {
	for _, g := range gates() {
		for _, key := range keysToUse(gateKeys(g)) {
			test(g, key)
		}
	}
}

// forTwoRooms calls a test with traces and both rooms.
func forTwoRooms(test func(trace []int, window int, room int)) {
	for _, trace := range traces() {
		for window := 1; window <= 8; window++ {
			for room := 1; room <= 8; room++ {
				test(trace, window, room)
			}
		}
	}
}

// badGates are caches with a gate with a part that is not valid, or a key in both lists.
func badGates() []impl.Gate {
	empty := impl.EmptySketch()
	out := []impl.Gate{{}, {Window: 1, Room: 1}, {Window: 8, Room: 8, New: []int{1}, Main: []int{2}}}
	for _, c := range badCaches() {
		out = append(out,
			impl.Gate{Window: c.room, Room: 1, New: c.list, Sketch: empty}, impl.Gate{Window: 1, Room: c.room, Main: c.list, Sketch: empty},
			impl.Gate{Window: c.room, Room: 8, New: c.list, Main: []int{20}, Sketch: empty}, impl.Gate{Window: 8, Room: c.room, New: []int{20}, Main: c.list, Sketch: empty},
			impl.Gate{Window: c.room, Room: c.room, New: c.list, Main: c.list, Sketch: empty})
	}
	for place := range 64 {
		g := impl.Gate{Window: 8, Room: 8, New: loop(8, 8), Main: loop(16, 16)[8:], Sketch: empty}
		g.Main[place/8] = g.New[place%8]
		out = append(out, g)
	}
	for _, sketch := range badSketches() {
		out = append(out, impl.Gate{Window: 1, Room: 8, Sketch: sketch, Added: 1}, impl.Gate{Window: 2, Room: 1, New: []int{1, 2}, Main: []int{3}, Sketch: sketch})
	}
	for _, added := range []int{-1, -2, -16, 16, 17, 100, math.MaxInt, math.MinInt} {
		out = append(out, impl.Gate{Window: 1, Room: 8, Sketch: empty, Added: added}, impl.Gate{Window: 2, Room: 1, New: []int{1, 2}, Main: []int{3}, Sketch: empty, Added: added})
	}
	return out
}

// sameGate reports whether two caches with a gate are the same.
func sameGate(a impl.Gate, b impl.Gate) bool {
	return a.Window == b.Window && a.Room == b.Room && a.Added == b.Added && sameParts(gateParts(a), gateParts(b))
}

// gateParts returns both lists and the sketch.
func gateParts(g impl.Gate) [][]int {
	return [][]int{g.New, g.Main, g.Sketch}
}

// countIn returns what CountOf should return, from the table of all places.
func countIn(s []int, key int) int {
	c := cells()
	return min(s[c[0][key]], s[c[1][key]], s[c[2][key]])
}

// learned returns the sketch, and how many keys were added to it, behind a key.
func learned(s []int, added int, key int) ([]int, int) {
	out := slices.Clone(s)
	for row := range 3 {
		if cell := cells()[row][key]; out[cell] < 15 {
			out[cell]++
		}
	}
	if added != 15 {
		return out, added + 1
	}
	for i := range out {
		out[i] >>= 1
	}
	return out, 0
}

// gateAfter returns what UseGate should return, sentence by sentence of the document.
func gateAfter(g impl.Gate, key int) (impl.Gate, bool) {
	out := impl.Gate{Window: g.Window, Room: g.Room, New: slices.Clone(g.New), Main: slices.Clone(g.Main)}
	out.Sketch, out.Added = learned(g.Sketch, g.Added, key)
	for _, list := range [][]int{out.Main, out.New} {
		if place := slices.Index(list, key); place >= 0 {
			copy(list[1:], list[:place])
			list[0] = key
			return out, true
		}
	}
	out.New = append([]int{key}, out.New...)
	if len(out.New) == g.Window+1 {
		leaving := out.New[g.Window]
		out.New = out.New[:g.Window]
		if last := g.Room - 1; len(out.Main) < g.Room {
			out.Main = append([]int{leaving}, out.Main...)
		} else if countIn(out.Sketch, leaving) > countIn(out.Sketch, out.Main[last]) {
			out.Main = append([]int{leaving}, out.Main[:last]...)
		}
	}
	return out, false
}

func TestAdmissionConstants(t *testing.T) {
	if impl.AgeAfter != 16 {
		t.Errorf("AgeAfter = %d", impl.AgeAfter)
	}
}

func TestP067GatesCanBeOpen(t *testing.T) {
	for window := -1; window <= 10; window++ {
		for room := -1; room <= 10; room++ {
			for added := -2; added <= 18; added++ {
				want := 1 <= window && window <= 8 && 1 <= room && room <= 8 && 0 <= added && added <= 15
				if impl.ValidGate(impl.Gate{Window: window, Room: room, Sketch: impl.EmptySketch(), Added: added}) != want {
					t.Errorf("ValidGate without keys, with the rooms %d and %d and %d added keys, is %t", window, room, added, !want)
				}
				if impl.ValidGate(impl.Gate{Window: window, Room: room, New: []int{}, Main: []int{}, Sketch: impl.EmptySketch(), Added: added}) != want {
					t.Errorf("ValidGate of empty slices, with the rooms %d and %d and %d added keys, is %t", window, room, added, !want)
				}
			}
		}
	}
}

func TestValidGateLimits(t *testing.T) {
	for _, g := range gates() {
		if !impl.ValidGate(g) {
			t.Errorf("%v is not valid", g)
		}
	}
	for _, g := range badGates() {
		if impl.ValidGate(g) {
			t.Errorf("%v is valid", g)
		}
	}
	for news := 0; news <= 10; news++ {
		for mains := 0; mains <= 10; mains++ {
			keys := loop(32, news+mains)
			for room := 1; room <= 8; room++ {
				g := impl.Gate{Window: room, Room: 8, New: keys[:news], Main: keys[news:], Sketch: times(24, 15), Added: 15}
				if impl.ValidGate(g) != (news <= room && mains <= 8) {
					t.Errorf("ValidGate of %d and %d keys with the rooms %d and 8", news, mains, room)
				}
				g.Window, g.Room = 8, room
				if impl.ValidGate(g) != (news <= 8 && mains <= room) {
					t.Errorf("ValidGate of %d and %d keys with the rooms 8 and %d", news, mains, room)
				}
			}
		}
	}
}

func TestUseGate(t *testing.T) {
	forGates(func(g impl.Gate, key int) {
		out, hit := impl.UseGate(g, key)
		want, there := gateAfter(g, key)
		if !sameGate(out, want) || hit != there {
			t.Errorf("UseGate(%v, %d) = %v, %t, want %v, %t", g, key, out, hit, want, there)
		}
	})
}

func TestP068UsedKeysAreThere(t *testing.T) {
	forGates(func(g impl.Gate, key int) {
		out, hit := impl.UseGate(g, key)
		inMain := slices.Contains(g.Main, key)
		if !impl.ValidGate(out) || out.Window != g.Window || out.Room != g.Room || firstOf(out.Main, key) != inMain || firstOf(out.New, key) == inMain {
			t.Errorf("UseGate(%v, %d) = %v", g, key, out)
		}
		if hit != slices.Contains(gateKeys(g), key) {
			t.Errorf("UseGate(%v, %d) = %t", g, key, hit)
		}
	})
}

func TestP069GatesLearnFromAllKeys(t *testing.T) {
	forGates(func(g impl.Gate, key int) {
		out, _ := impl.UseGate(g, key)
		sketch, added := impl.AddKey(g.Sketch, key), g.Added+1
		if added == 16 {
			sketch, added = impl.HalveSketch(sketch), 0
		}
		if len(out.Sketch) != 24 || !slices.Equal(out.Sketch, sketch) || out.Added != added {
			t.Errorf("UseGate(%v, %d) has the sketch %v and %d, want %v and %d", g, key, out.Sketch, out.Added, sketch, added)
		}
	})
}

func TestP070GatesPreferKeysThatAreCountedMoreOften(t *testing.T) {
	gone, stayed := 0, 0
	forGates(func(g impl.Gate, key int) {
		out, hit := impl.UseGate(g, key)
		if hit || len(g.New) < g.Window || len(g.Main) < g.Room {
			if len(gateKeys(out)) < len(gateKeys(g)) || len(without(g.Main, key)) > len(without(out.Main, key)) {
				t.Errorf("UseGate(%v, %d) = %v: a key left without need", g, key, out)
			}
			return
		}
		leaving, last := g.New[g.Window-1], g.Main[g.Room-1]
		preferred := impl.Prefers(out.Sketch, leaving, last)
		if slices.Contains(out.Main, leaving) != preferred || slices.Contains(out.Main, last) == preferred || !begins(without(out.Main, leaving), g.Main[:g.Room-1]) {
			t.Errorf("UseGate(%v, %d) = %v, and Prefers = %t", g, key, out, preferred)
		}
		if preferred {
			gone++
		} else {
			stayed++
		}
	})
	if gone == 0 || stayed == 0 {
		t.Errorf("%d keys were pushed out, and %d were not", gone, stayed)
	}
}

func TestP158HitsPushNobodyOutThroughGates(t *testing.T) {
	for _, g := range gates() {
		for _, key := range gateKeys(g) {
			out, hit := impl.UseGate(g, key)
			for _, lists := range [][2][]int{{g.New, out.New}, {g.Main, out.Main}} {
				if !hit || !slices.Equal(slices.Sorted(slices.Values(lists[0])), slices.Sorted(slices.Values(lists[1]))) {
					t.Errorf("UseGate(%v, %d) = %v, %t", g, key, out, hit)
				}
			}
			if !slices.Equal(without(out.New, key), without(g.New, key)) || !slices.Equal(without(out.Main, key), without(g.Main, key)) {
				t.Errorf("UseGate(%v, %d) = %v: other keys change their order", g, key, out)
			}
		}
	}
}

func TestP071TracesRunKeyByKeyAlsoForGates(t *testing.T) {
	forTwoRooms(func(trace []int, window int, room int) {
		out, hits := impl.RunGate(trace, window, room)
		want, before, hit := impl.Gate{Window: window, Room: room, Sketch: impl.EmptySketch()}, 0, false
		if last := len(trace) - 1; last >= 0 {
			want, before = impl.RunGate(trace[:last], window, room)
			want, hit = impl.UseGate(want, trace[last])
		}
		if hit {
			before++
		}
		if !impl.ValidGate(out) || out.Window != window || out.Room != room || !sameGate(out, want) || hits != before {
			t.Errorf("RunGate(%v, %d, %d) = %v, %d, want %v, %d", trace, window, room, out, hits, want, before)
		}
	})
}

func TestP072SmallTracesFitThroughGates(t *testing.T) {
	forTwoRooms(func(trace []int, window int, room int) {
		keys := newKeys(t, trace)
		if keys > window+room {
			return
		}
		if g, hits := impl.RunGate(trace, window, room); hits != len(trace)-keys || len(gateKeys(g)) != keys {
			t.Errorf("RunGate(%v, %d, %d) = %v, %d", trace, window, room, g, hits)
		}
	})
}

func TestP159GatesHitWhatComesAgain(t *testing.T) {
	forTwoRooms(func(trace []int, window int, room int) {
		g, hits := impl.RunGate(trace, window, room)
		if hits < 0 || hits > len(trace)-newKeys(t, trace) || g.Added != len(trace)%16 {
			t.Errorf("RunGate(%v, %d, %d) = %v, %d", trace, window, room, g, hits)
		}
	})
}

func TestP151GatesAreNoBetterThanTheBest(t *testing.T) {
	forRuns(func(trace []int, both int) {
		best := impl.BestHits(trace, both)
		for window := 1; window < both; window++ {
			// With 1 more the best has no fewer hits; but never more keys are there than both rooms tell, so that it needs none.
			for _, room := range []int{both - window, both - window - 1} {
				if room == 0 {
					continue
				}
				if _, hits := impl.RunGate(trace, window, room); hits < 0 || hits > best {
					t.Errorf("BestHits(%v, %d) = %d, and RunGate with %d and %d has %d", trace, both, best, window, room, hits)
				}
			}
		}
	})
}

func TestP073KeysAreNotPreferredToThemselves(t *testing.T) {
	d := &dice{73}
	for range rounds / 4 {
		for _, s := range [][]int{d.sketch(), lowSketch(d)} {
			for a := range 32 {
				for b := range 32 {
					forth, back := impl.Prefers(s, a, b), impl.Prefers(s, b, a)
					if forth && back || a == b && forth || forth != (countIn(s, a) > countIn(s, b)) || !forth && !back && countIn(s, a) != countIn(s, b) {
						t.Fatalf("Prefers(%v, %d, %d) = %t, and %t in the other order", s, a, b, forth, back)
					}
				}
			}
		}
	}
}

func TestP160AddedKeysArePreferred(t *testing.T) {
	for a := range 32 {
		s := addAll(impl.EmptySketch(), times(15, a)...)
		for b := range 32 {
			apart := false
			for row := range 3 {
				apart = apart || impl.CellOf(row, a) != impl.CellOf(row, b)
			}
			if impl.Prefers(s, a, b) != apart || impl.Prefers(s, b, a) {
				t.Errorf("Prefers of %d, added 15 times, over %d is %t", a, b, !apart)
			}
		}
	}
}

// counted returns a sketch in which each key in a list has its counters at least at a count, and all other counters are 0.
func counted(counts map[int]int) []int {
	s := make([]int, 24)
	for key, count := range counts {
		for row := range 3 {
			cell := cells()[row][key]
			s[cell] = max(s[cell], count)
		}
	}
	return s
}

// gate returns a cache with a gate with all its fields but the rooms, which are as full as the lists are.
func gate(news []int, mains []int, sketch []int, added int) impl.Gate {
	return impl.Gate{Window: max(len(news), 1), Room: max(len(mains), 1), New: news, Main: mains, Sketch: sketch, Added: added}
}

// counts returns a count for the key 0, which comes out of New, and one for the key 1, the last one of Main.
func counts(leaving int, last int) map[int]int {
	return map[int]int{0: leaving, 1: last}
}

func TestUseGateCases(t *testing.T) {
	wide := func(g impl.Gate, window int, room int) impl.Gate { g.Window, g.Room = window, room; return g }
	empty, full := impl.EmptySketch(), times(24, 15)
	// The keys 0, 1, 2, 10, 18 and 29 have no cell in common, so that each count is that of its key alone.
	both := func(counts map[int]int, added int) impl.Gate {
		return gate(row(2, 0), row(10, 1), counted(counts), added)
	}
	one := func(counts map[int]int, added int) impl.Gate { return gate(row(0), row(1), counted(counts), added) }
	for _, x := range []struct {
		name      string
		before    impl.Gate
		key       int
		hit       bool
		new, main []int
		added     int
	}{
		{"no keys at all", gate(nil, nil, empty, 0), 31, false, row(31), nil, 1},
		{"no keys at all, the largest rooms", wide(gate(nil, nil, empty, 15), 8, 8), 0, false, row(0), nil, 0},
		{"New is not full", wide(gate(row(1, 2), row(3), full, 3), 3, 1), 9, false, row(9, 1, 2), row(3), 4},
		{"Main is empty", gate(row(1, 2), nil, empty, 3), 9, false, row(9, 1), row(2), 4},
		{"Main has room for one", wide(both(counts(0, 9), 14), 2, 3), 18, false, row(18, 2), row(0, 10, 1), 15},
		{"Main has room for one, the rooms 1 and 8", wide(gate(row(5), loop(32, 32)[10:17], full, 15), 1, 8), 9, false, row(9), row(5, 10, 11, 12, 13, 14, 15, 16), 0},
		{"Main is full, greater count", both(counts(3, 2), 0), 18, false, row(18, 2), row(0, 10), 1},
		{"Main is full, equal counts", both(counts(2, 2), 0), 18, false, row(18, 2), row(10, 1), 1},
		{"Main is full, smaller count", both(counts(2, 3), 0), 18, false, row(18, 2), row(10, 1), 1},
		{"the first key of Main counts more", both(map[int]int{0: 3, 1: 2, 10: 15}, 0), 18, false, row(18, 2), row(0, 10), 1},
		{"the first key of Main counts less", both(map[int]int{0: 3, 1: 4}, 0), 18, false, row(18, 2), row(10, 1), 1},
		{"the first key of New counts more", both(map[int]int{2: 15, 1: 1}, 0), 18, false, row(18, 2), row(10, 1), 1},
		{"the key that is used counts more", both(map[int]int{18: 15, 1: 1}, 0), 18, false, row(18, 2), row(10, 1), 1},
		{"rooms of 1, greater count", one(counts(1, 0), 7), 18, false, row(18), row(0), 8},
		{"rooms of 1, equal counts", one(counts(0, 0), 7), 18, false, row(18), row(1), 8},
		{"rooms of 8, greater count", gate(row(2, 3, 4, 5, 6, 7, 8, 0), row(10, 11, 12, 13, 14, 15, 16, 1), counted(counts(4, 3)), 7), 18, false, row(18, 2, 3, 4, 5, 6, 7, 8), row(0, 10, 11, 12, 13, 14, 15, 16), 8},
		{"full counters", gate(row(2, 0), row(10, 1), full, 14), 31, false, row(31, 2), row(10, 1), 15},
		{"full counters that are halved", gate(row(2, 0), row(10, 1), full, 15), 31, false, row(31, 2), row(10, 1), 0},
		{"a full counter is greater than one that is not", both(counts(15, 14), 0), 18, false, row(18, 2), row(0, 10), 1},
		{"the 15th key: 3 is greater than 2", one(counts(3, 2), 14), 18, false, row(18), row(0), 15},
		{"the 16th key: 3 and 2 are both 1 then", one(counts(3, 2), 15), 18, false, row(18), row(1), 0},
		{"the 16th key: 4 is still greater than 3", one(counts(4, 3), 15), 18, false, row(18), row(0), 0},
		{"the 16th key is there already", both(counts(4, 3), 15), 0, true, row(0, 2), row(10, 1), 0},
		{"the first key of New", both(counts(9, 0), 1), 2, true, row(2, 0), row(10, 1), 2},
		{"the last key of New", gate(row(2, 29, 0), row(10, 1), counted(counts(9, 0)), 1), 0, true, row(0, 2, 29), row(10, 1), 2},
		{"the first key of Main", both(counts(9, 0), 1), 10, true, row(2, 0), row(10, 1), 2},
		{"a key between in Main", gate(row(2, 0), row(10, 29, 1), counted(counts(9, 0)), 1), 29, true, row(2, 0), row(29, 10, 1), 2},
		{"the last key of Main", gate(row(2, 0), row(10, 29, 1), counted(counts(9, 0)), 1), 1, true, row(2, 0), row(1, 10, 29), 2},
		{"a key of New, while New and Main are not full", wide(both(counts(9, 0), 0), 3, 3), 0, true, row(0, 2), row(10, 1), 1},
		{"the only key of New", one(counts(9, 0), 0), 0, true, row(0), row(1), 1},
		{"the only key of Main", one(counts(9, 0), 0), 1, true, row(0), row(1), 1},
	} {
		out, hit := impl.UseGate(x.before, x.key)
		sketch, _ := learned(x.before.Sketch, x.before.Added, x.key)
		want := impl.Gate{Window: x.before.Window, Room: x.before.Room, New: x.new, Main: x.main, Sketch: sketch, Added: x.added}
		if hit != x.hit || !sameGate(out, want) {
			t.Errorf("%s: UseGate(%v, %d) = %v, %t, want %v", x.name, x.before, x.key, out, hit, want)
		}
	}
}

func TestTheNewSketchDecides(t *testing.T) {
	// The keys 2 and 3 have the same counter in the first row, where alone counters are not full: a use of 3 adds to the count of 2, one of 0 does not.
	for _, x := range []struct {
		name          string
		leaving, last int
		leavingCount  int
		lastCount     int
		key           int
		want          int
	}{
		{"equal counts become greater", 2, 1, 4, 4, 3, 2},
		{"equal counts stay equal", 2, 1, 4, 4, 0, 1},
		{"a smaller count becomes equal", 2, 1, 3, 4, 3, 1},
		{"a greater count becomes equal", 1, 2, 5, 4, 3, 2},
		{"a greater count stays greater", 1, 2, 5, 4, 0, 1},
	} {
		s := times(24, 15)
		s[cells()[0][x.leaving]], s[cells()[0][x.last]] = x.leavingCount, x.lastCount
		out, _ := impl.UseGate(gate(row(x.leaving), row(x.last), s, 0), x.key)
		if !slices.Equal(out.New, row(x.key)) || !slices.Equal(out.Main, row(x.want)) {
			t.Errorf("%s: UseGate = %v, want %d in Main", x.name, out, x.want)
		}
	}
}

func TestRunGate(t *testing.T) {
	forTwoRooms(func(trace []int, window int, room int) {
		want, hits := impl.Gate{Window: window, Room: room, Sketch: times(24, 0)}, 0
		for _, key := range trace {
			next, hit := gateAfter(want, key)
			if hit {
				hits++
			}
			want = next
		}
		if out, n := impl.RunGate(trace, window, room); !sameGate(out, want) || n != hits {
			t.Errorf("RunGate(%v, %d, %d) = %v, %d, want %v, %d", trace, window, room, out, n, want, hits)
		}
	})
}

func TestRunGateCases(t *testing.T) {
	for _, x := range []struct {
		name         string
		trace        []int
		window, room int
		hits         int
		new, main    []int
		added        int
	}{
		{"a nil trace", nil, 1, 8, 0, nil, nil, 0},
		{"an empty trace", row(), 8, 1, 0, nil, nil, 0},
		{"one key", row(31), 1, 1, 0, row(31), nil, 1},
		{"one key 15 times", times(15, 31), 1, 1, 14, row(31), nil, 15},
		{"one key 16 times", times(16, 31), 1, 1, 15, row(31), nil, 0},
		{"one key 24 times", times(24, 31), 8, 8, 23, row(31), nil, 8},
		{"a key that came twice stays in Main", row(0, 1, 0, 2), 1, 1, 1, row(2), row(0), 4},
		{"a scan does not push it out", row(0, 1, 0, 2, 10, 18, 29), 1, 1, 1, row(29), row(0), 7},
		{"a key that comes more often pushes out", row(1, 0, 0, 2), 1, 1, 1, row(2), row(0), 4},
		{"a key that comes as often does not", row(1, 0, 0, 1, 2), 1, 1, 2, row(2), row(1), 5},
	} {
		out, hits := impl.RunGate(x.trace, x.window, x.room)
		if hits != x.hits || !slices.Equal(out.New, x.new) || !slices.Equal(out.Main, x.main) || out.Added != x.added || len(out.Sketch) != 24 {
			t.Errorf("%s: RunGate(%v, %d, %d) = %v, %d", x.name, x.trace, x.window, x.room, out, hits)
		}
	}
}

func TestGatesOtherArguments(t *testing.T) {
	check := func(g impl.Gate, key int) {
		t.Helper()
		if out, hit := impl.UseGate(g, key); hit || !sameGate(out, impl.Gate{}) {
			t.Errorf("UseGate(%v, %d) = %v, %t", g, key, out, hit)
		}
	}
	for _, g := range badGates() {
		for _, key := range append([]int{0, 1, 20, 31, 32, -1}, gateKeys(g)...) {
			check(g, key)
		}
	}
	for _, g := range gates() {
		for _, key := range badKeys() {
			check(g, key)
		}
	}
}

func TestRunGateOtherArguments(t *testing.T) {
	check := func(trace []int, window int, room int) {
		t.Helper()
		if out, hits := impl.RunGate(trace, window, room); hits != -1 || !sameGate(out, impl.Gate{}) {
			t.Errorf("RunGate(%v, %d, %d) = %v, %d", trace, window, room, out, hits)
		}
	}
	forBadRuns(func(trace []int, room int) {
		check(trace, room, 1)
		check(trace, 8, room)
		check(trace, room, room)
	})
}

func TestPrefersOtherArguments(t *testing.T) {
	d := &dice{90}
	for _, s := range [][]int{impl.EmptySketch(), times(24, 15), d.sketch(), lowSketch(d)} {
		for _, bad := range badKeys() {
			for _, key := range []int{0, 1, 31, 32, -1} {
				if impl.Prefers(s, key, bad) || impl.Prefers(s, bad, key) || impl.Prefers(s, bad, bad) {
					t.Errorf("Prefers(%v) holds for %d and %d", s, key, bad)
				}
			}
		}
	}
	for _, s := range badSketches() {
		for a := range 32 {
			for b := range 32 {
				if impl.Prefers(s, a, b) {
					t.Errorf("Prefers(%v, %d, %d) holds", s, a, b)
				}
			}
		}
	}
}

// checkGateApart fails if a call modifies its argument, if its result shares memory with it or in itself, or if it keeps memory for the next call.
func checkGateApart(t *testing.T, name string, g impl.Gate, call func(g impl.Gate) impl.Gate) {
	t.Helper()
	checkPartsApart(t, name, gateParts(g), func(parts [][]int) [][]int {
		return gateParts(call(impl.Gate{Window: g.Window, Room: g.Room, New: parts[0], Main: parts[1], Sketch: parts[2], Added: g.Added}))
	})
}

func TestGatesAreApart(t *testing.T) {
	use := func(key int) func(g impl.Gate) impl.Gate {
		return func(g impl.Gate) impl.Gate { out, _ := impl.UseGate(g, key); return out }
	}
	forGates(func(g impl.Gate, key int) {
		checkGateApart(t, "UseGate", g, use(key))
	})
	for _, g := range append(gates(), badGates()...) {
		checkGateApart(t, "UseGate of no key", g, use(32))
		checkGateApart(t, "ValidGate", g, func(g impl.Gate) impl.Gate { impl.ValidGate(g); return impl.Gate{} })
		checkGateApart(t, "Prefers", g, func(g impl.Gate) impl.Gate { impl.Prefers(g.Sketch, 0, 31); return impl.Gate{} })
	}
	for _, g := range badGates() {
		checkGateApart(t, "UseGate", g, use(1))
	}
	for _, trace := range append(traces(), badTraces()...) {
		for _, room := range []int{1, 3, 8, 9} {
			checkGateApart(t, "RunGate", impl.Gate{New: trace}, func(g impl.Gate) impl.Gate { out, _ := impl.RunGate(g.New, room, 2); return out })
		}
	}
}
