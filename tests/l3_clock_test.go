package tests

import (
	"math"
	"slices"
	"testing"

	"loop.example/cacheengine/impl"
)

// clocks are valid clocks of all rooms, from empty to full, with each place of the hand and many sets of marks.
func clocks() []impl.Clock {
	d := &dice{3}
	out := []impl.Clock{}
	for room := 1; room <= 8; room++ {
		for n := 0; n <= room; n++ {
			for _, used := range markSets(d, n) {
				for hand := range handPlaces(n, room) {
					out = append(out, impl.Clock{Room: room, Keys: d.keys(n, 31), Used: used, Hand: hand})
				}
			}
		}
	}
	return out
}

// handPlaces returns how many places the hand can have.
func handPlaces(n int, room int) int {
	if n < room {
		return 1
	}
	return room
}

// markSets returns all sets of marks of n keys if they are few, and otherwise none, all, all but one, one and some others.
func markSets(d *dice, n int) [][]bool {
	sets := []int{}
	if n <= 4 {
		for set := range 1 << n {
			sets = append(sets, set)
		}
	} else {
		sets = append(sets, 0, 1<<n-1)
		for place := range n {
			sets = append(sets, 1<<place, (1<<n-1)-1<<place, d.upTo(1<<n-1))
		}
	}
	out := [][]bool{}
	for _, set := range sets {
		used := make([]bool, n)
		for place := range used {
			used[place] = set>>place&1 == 1
		}
		out = append(out, used)
	}
	return out
}

// keysToUse returns keys that are in a cache, and some that are not.
func keysToUse(list []int) []int {
	out := slices.Clone(list)
	for _, key := range []int{0, 1, 15, 30, 31} {
		if !slices.Contains(out, key) {
			out = append(out, key)
		}
	}
	return out
}

// forClocks calls a test with all clocks, and with keys that are there and keys that are not.
func forClocks(test func(c impl.Clock, key int)) {
	for _, c := range clocks() {
		for _, key := range keysToUse(c.Keys) {
			test(c, key)
		}
	}
}

// badClocks are clocks that are not valid.
func badClocks() []impl.Clock {
	out := []impl.Clock{{}}
	for _, c := range badCaches() {
		out = append(out, impl.Clock{Room: c.room, Keys: c.list, Used: make([]bool, len(c.list))})
	}
	for room := 1; room <= 8; room++ {
		for n := 0; n <= room; n++ {
			c := impl.Clock{Room: room, Keys: loop(n+1, n)}
			for marks := 0; marks <= 10; marks++ {
				if marks != n {
					c.Used = make([]bool, marks)
					out = append(out, c)
				}
			}
			c.Used = make([]bool, n)
			for _, hand := range badHands(n, room) {
				c.Hand = hand
				out = append(out, c)
			}
		}
	}
	return out
}

// badHands are hands out of place.
func badHands(n int, room int) []int {
	out := []int{-1, -2, -room, room, room + 1, math.MaxInt, math.MinInt}
	if n < room {
		for hand := 1; hand < room; hand++ {
			out = append(out, hand)
		}
	}
	return out
}

// copyClock returns a clock with memory of its own.
func copyClock(c impl.Clock) impl.Clock {
	c.Keys = slices.Clone(c.Keys)
	c.Used = slices.Clone(c.Used)
	return c
}

// sameClock reports whether two clocks are the same.
func sameClock(a impl.Clock, b impl.Clock) bool {
	return a.Room == b.Room && a.Hand == b.Hand && slices.Equal(a.Keys, b.Keys) && slices.Equal(a.Used, b.Used)
}

// isMarked reports whether a key of a clock is marked as used.
func isMarked(c impl.Clock, key int) bool {
	place := slices.Index(c.Keys, key)
	return place >= 0 && c.Used[place]
}

// firstUnmarked returns how many places the hand of a full clock passes until it rests at the key that is replaced.
func firstUnmarked(c impl.Clock) int {
	ring := append(slices.Clone(c.Used[c.Hand:]), c.Used[:c.Hand]...)
	if passed := slices.Index(ring, false); passed >= 0 {
		return passed
	}
	return len(ring)
}

// clockAfter returns what UseClock should return: it counts the places that the hand passes before it changes any.
func clockAfter(c impl.Clock, key int) (impl.Clock, bool) {
	out := copyClock(c)
	if place := slices.Index(c.Keys, key); place >= 0 {
		out.Used[place] = true
		return out, true
	}
	if len(c.Keys) < c.Room {
		out.Keys = append(out.Keys, key)
		out.Used = append(out.Used, false)
		return out, false
	}
	passed := firstUnmarked(c)
	for i := range passed {
		out.Used[(c.Hand+i)%c.Room] = false
	}
	out.Keys[(c.Hand+passed)%c.Room] = key
	out.Hand = (c.Hand + passed + 1) % c.Room
	return out, false
}

func TestP021ClocksWithoutKeysAreValid(t *testing.T) {
	for room := 1; room <= 8; room++ {
		if !impl.ValidClock(impl.Clock{Room: room}) || !impl.ValidClock(impl.Clock{Room: room, Keys: []int{}, Used: []bool{}}) {
			t.Errorf("a clock without keys is not valid for %d", room)
		}
		for _, hand := range []int{-1, 1, room, room - 1, room + 1} {
			if hand != 0 && impl.ValidClock(impl.Clock{Room: room, Hand: hand}) {
				t.Errorf("a clock without keys is valid for %d with the hand at %d", room, hand)
			}
		}
	}
	for _, room := range badRooms() {
		if impl.ValidClock(impl.Clock{Room: room}) {
			t.Errorf("a clock without keys is valid for %d", room)
		}
	}
}

func TestValidClockLimits(t *testing.T) {
	for _, c := range clocks() {
		if !impl.ValidClock(c) {
			t.Errorf("%v is not valid", c)
		}
	}
	for _, c := range badClocks() {
		if impl.ValidClock(c) {
			t.Errorf("%v is valid", c)
		}
	}
	for room := 1; room <= 8; room++ {
		c := impl.Clock{Room: room, Keys: loop(room, room), Used: make([]bool, room)}
		for hand := -3; hand <= 12; hand++ {
			c.Hand = hand
			if impl.ValidClock(c) != (hand >= 0 && hand < room) {
				t.Errorf("ValidClock of a full clock for %d with the hand at %d = %t", room, hand, impl.ValidClock(c))
			}
		}
	}
}

func TestUseClock(t *testing.T) {
	forClocks(func(c impl.Clock, key int) {
		out, hit := impl.UseClock(c, key)
		want, there := clockAfter(c, key)
		if !sameClock(out, want) || hit != there {
			t.Errorf("UseClock(%v, %d) = %v, %t, want %v, %t", c, key, out, hit, want, there)
		}
	})
}

func TestP022UsedKeysAreThere(t *testing.T) {
	forClocks(func(c impl.Clock, key int) {
		out, hit := impl.UseClock(c, key)
		if !impl.ValidClock(out) || out.Room != c.Room || !slices.Contains(out.Keys, key) {
			t.Fatalf("UseClock(%v, %d) = %v", c, key, out)
		}
		there := slices.Contains(c.Keys, key)
		if hit != there || isMarked(out, key) != there {
			t.Errorf("UseClock(%v, %d) = %v, %t", c, key, out, hit)
		}
	})
}

func TestP023KeysStayInTheirPlaces(t *testing.T) {
	forClocks(func(c impl.Clock, key int) {
		out, hit := impl.UseClock(c, key)
		if len(out.Keys) < len(c.Keys) {
			t.Fatalf("UseClock(%v, %d) = %v has fewer keys", c, key, out)
		}
		replaced := 0
		for place, other := range c.Keys {
			if out.Keys[place] != other {
				replaced++
				if out.Keys[place] != key {
					t.Errorf("UseClock(%v, %d) = %v moves a key", c, key, out)
				}
			}
		}
		full := len(c.Keys) == c.Room
		if replaced > 1 || (replaced == 1) != (full && !hit) || len(out.Keys) > len(c.Keys) == (full || hit) {
			t.Errorf("UseClock(%v, %d) = %v replaces %d keys", c, key, out, replaced)
		}
	})
}

func TestP024VictimsAreReplaced(t *testing.T) {
	forClocks(func(c impl.Clock, key int) {
		if slices.Contains(c.Keys, key) {
			return
		}
		victim := impl.NextVictim(c)
		if slices.Contains(c.Keys, victim) != (len(c.Keys) == c.Room) {
			t.Fatalf("NextVictim(%v) = %d", c, victim)
		}
		out, _ := impl.UseClock(c, key)
		for _, other := range c.Keys {
			if slices.Contains(out.Keys, other) == (other == victim) {
				t.Errorf("UseClock(%v, %d) = %v, with the victim %d", c, key, out, victim)
			}
		}
	})
}

func TestNextVictim(t *testing.T) {
	for _, c := range clocks() {
		want := -1
		if len(c.Keys) == c.Room {
			want = c.Keys[(c.Hand+firstUnmarked(c))%c.Room]
		}
		if victim := impl.NextVictim(c); victim != want {
			t.Errorf("NextVictim(%v) = %d, want %d", c, victim, want)
		}
	}
}

func TestP025UsedKeysGetASecondChance(t *testing.T) {
	for _, c := range clocks() {
		if len(c.Keys) < c.Room {
			continue
		}
		victim, used := impl.NextVictim(c), impl.UsedKeys(c)
		if !slices.Contains(c.Keys, victim) {
			t.Fatalf("NextVictim(%v) = %d", c, victim)
		}
		if slices.Contains(used, victim) != (len(used) == len(c.Keys)) {
			t.Errorf("NextVictim(%v) = %d, with the used keys %v", c, victim, used)
		}
		out, _ := impl.UseClock(c, keyOutside(c.Keys))
		for _, key := range used {
			if len(used) < len(c.Keys) && !slices.Contains(out.Keys, key) {
				t.Errorf("UseClock of another key for %v = %v leaves out %d", c, out, key)
			}
		}
	}
}

// keyOutside returns a key that is not in a list.
func keyOutside(list []int) int {
	key := 0
	for slices.Contains(list, key) {
		key++
	}
	return key
}

func TestP026UsedKeysHaveMarks(t *testing.T) {
	for _, c := range clocks() {
		want := []int{}
		for place, key := range c.Keys {
			if c.Used[place] {
				want = append(want, key)
			}
		}
		if got := impl.UsedKeys(c); !slices.Equal(got, want) {
			t.Errorf("UsedKeys(%v) = %v", c, got)
		}
		for _, key := range c.Keys {
			out, _ := impl.UseClock(c, key)
			if !slices.Contains(impl.UsedKeys(out), key) {
				t.Errorf("UsedKeys(%v) = %v, behind the use of %d", out, impl.UsedKeys(out), key)
			}
		}
	}
}

func TestP138MarksAreTakenAwayOnlyWhenRoomIsNeeded(t *testing.T) {
	forClocks(func(c impl.Clock, key int) {
		out, _ := impl.UseClock(c, key)
		want := copyClock(c)
		if place := slices.Index(c.Keys, key); place >= 0 {
			want.Used[place] = true
			if !sameClock(out, want) {
				t.Errorf("UseClock(%v, %d) = %v", c, key, out)
			}
		} else if len(c.Keys) < c.Room && (out.Hand != 0 || !slices.Equal(out.Used, append(want.Used, false))) {
			t.Errorf("UseClock(%v, %d) = %v", c, key, out)
		}
	})
}

func TestP139UsedKeysAreHits(t *testing.T) {
	forClocks(func(c impl.Clock, key int) {
		once, _ := impl.UseClock(c, key)
		twice, hit := impl.UseClock(once, key)
		if !hit || !isMarked(twice, key) || !slices.Equal(twice.Keys, once.Keys) || twice.Hand != once.Hand {
			t.Errorf("UseClock(%v, %d) = %v, and then %v, %t", c, key, once, twice, hit)
		}
	})
}

func TestP027TracesRunKeyByKeyAlsoForClocks(t *testing.T) {
	for _, trace := range traces() {
		for room := 1; room <= 8; room++ {
			out, hits := impl.RunClock(trace, room)
			want, before, hit := impl.Clock{Room: room}, 0, false
			if last := len(trace) - 1; last >= 0 {
				want, before = impl.RunClock(trace[:last], room)
				want, hit = impl.UseClock(want, trace[last])
			}
			if hit {
				before++
			}
			if !impl.ValidClock(out) || out.Room != room || !sameClock(out, want) || hits != before {
				t.Errorf("RunClock(%v, %d) = %v, %d, want %v, %d", trace, room, out, hits, want, before)
			}
		}
	}
}

func TestP028ClocksWithoutMarksAreQueues(t *testing.T) {
	d := &dice{28}
	for n := 0; n <= 24; n++ {
		for _, trace := range [][]int{d.keys(n, 31), loopTrace(t, 24, n), loopTrace(t, 32, n), reversed(loopTrace(t, 32, n))} {
			for room := 1; room <= 8; room++ {
				c, hits := impl.RunClock(trace, room)
				queue, _ := impl.RunFirst(trace, room)
				if hits != 0 || len(queue) != min(n, room) || !slices.Equal(append(slices.Clone(c.Keys[c.Hand:]), c.Keys[:c.Hand]...), queue) {
					t.Errorf("RunClock(%v, %d) = %v, %d, want the keys %v", trace, room, c, hits, queue)
				}
			}
		}
	}
}

func TestP140ClocksHitWhatComesAgain(t *testing.T) {
	for _, trace := range traces() {
		keys := newKeys(t, trace)
		for room := 1; room <= 8; room++ {
			_, hits := impl.RunClock(trace, room)
			if hits < 0 || hits > len(trace)-keys || keys <= room && hits != len(trace)-keys {
				t.Errorf("RunClock(%v, %d) has %d hits", trace, room, hits)
			}
		}
	}
}

func TestHandsTurnAround(t *testing.T) {
	const no, yes = false, true
	for _, x := range []struct{ before, after impl.Clock }{
		{impl.Clock{Room: 3, Keys: []int{1, 2, 3}, Used: []bool{no, no, no}, Hand: 0}, impl.Clock{Room: 3, Keys: []int{9, 2, 3}, Used: []bool{no, no, no}, Hand: 1}},
		{impl.Clock{Room: 3, Keys: []int{1, 2, 3}, Used: []bool{no, no, no}, Hand: 2}, impl.Clock{Room: 3, Keys: []int{1, 2, 9}, Used: []bool{no, no, no}, Hand: 0}},
		{impl.Clock{Room: 3, Keys: []int{1, 2, 3}, Used: []bool{yes, no, yes}, Hand: 2}, impl.Clock{Room: 3, Keys: []int{1, 9, 3}, Used: []bool{no, no, no}, Hand: 2}},
		{impl.Clock{Room: 3, Keys: []int{1, 2, 3}, Used: []bool{no, yes, yes}, Hand: 1}, impl.Clock{Room: 3, Keys: []int{9, 2, 3}, Used: []bool{no, no, no}, Hand: 1}},
		{impl.Clock{Room: 3, Keys: []int{1, 2, 3}, Used: []bool{yes, yes, no}, Hand: 1}, impl.Clock{Room: 3, Keys: []int{1, 2, 9}, Used: []bool{yes, no, no}, Hand: 0}},
		{impl.Clock{Room: 3, Keys: []int{1, 2, 3}, Used: []bool{yes, yes, yes}, Hand: 0}, impl.Clock{Room: 3, Keys: []int{9, 2, 3}, Used: []bool{no, no, no}, Hand: 1}},
		{impl.Clock{Room: 3, Keys: []int{1, 2, 3}, Used: []bool{yes, yes, yes}, Hand: 1}, impl.Clock{Room: 3, Keys: []int{1, 9, 3}, Used: []bool{no, no, no}, Hand: 2}},
		{impl.Clock{Room: 3, Keys: []int{1, 2, 3}, Used: []bool{yes, yes, yes}, Hand: 2}, impl.Clock{Room: 3, Keys: []int{1, 2, 9}, Used: []bool{no, no, no}, Hand: 0}},
		{impl.Clock{Room: 1, Keys: []int{31}, Used: []bool{yes}}, impl.Clock{Room: 1, Keys: []int{9}, Used: []bool{no}}},
		{impl.Clock{Room: 3, Keys: []int{1, 2}, Used: []bool{yes, yes}}, impl.Clock{Room: 3, Keys: []int{1, 2, 9}, Used: []bool{yes, yes, no}}},
	} {
		if out, hit := impl.UseClock(x.before, 9); hit || !sameClock(out, x.after) {
			t.Errorf("UseClock(%v, 9) = %v, %t, want %v", x.before, out, hit, x.after)
		}
	}
	if c, hits := impl.RunClock([]int{1, 2, 3, 1, 2, 3, 4, 2, 5, 6, 5, 1, 7}, 3); hits != 5 || !sameClock(c, impl.Clock{Room: 3, Keys: []int{7, 1, 5}, Used: []bool{no, no, no}, Hand: 1}) {
		t.Errorf("RunClock = %v, %d", c, hits)
	}
}

func TestClockOtherArguments(t *testing.T) {
	for _, c := range badClocks() {
		for _, key := range []int{0, 1, 31, 32, -1} {
			if out, hit := impl.UseClock(c, key); hit || !sameClock(out, impl.Clock{}) {
				t.Errorf("UseClock(%v, %d) = %v, %t", c, key, out, hit)
			}
		}
		if victim := impl.NextVictim(c); victim != -1 {
			t.Errorf("NextVictim(%v) = %d", c, victim)
		}
		for _, marked := range []bool{false, true} {
			c = copyClock(c)
			mark(c.Used, marked)
			if impl.ValidClock(c) || len(impl.UsedKeys(c)) != 0 {
				t.Errorf("UsedKeys(%v) = %v", c, impl.UsedKeys(c))
			}
		}
	}
	for _, c := range clocks() {
		for _, key := range badKeys() {
			if out, hit := impl.UseClock(c, key); hit || !sameClock(out, impl.Clock{}) {
				t.Errorf("UseClock(%v, %d) = %v, %t", c, key, out, hit)
			}
		}
	}
}

func TestRunClockOtherArguments(t *testing.T) {
	for _, trace := range badTraces() {
		for _, room := range []int{1, 8, 0, 9, -1} {
			if out, hits := impl.RunClock(trace, room); hits != -1 || !sameClock(out, impl.Clock{}) {
				t.Errorf("RunClock(%v, %d) = %v, %d", trace, room, out, hits)
			}
		}
	}
	for _, room := range badRooms() {
		for _, trace := range [][]int{nil, {}, {1}, {1, 2, 1}} {
			if out, hits := impl.RunClock(trace, room); hits != -1 || !sameClock(out, impl.Clock{}) {
				t.Errorf("RunClock(%v, %d) = %v, %d", trace, room, out, hits)
			}
		}
	}
	for room := 1; room <= 8; room++ {
		if out, hits := impl.RunClock(nil, room); hits != 0 || !sameClock(out, impl.Clock{Room: room}) {
			t.Errorf("RunClock(nil, %d) = %v, %d", room, out, hits)
		}
		longest := make([]int, 24)
		fill(longest, 31)
		if out, hits := impl.RunClock(longest, room); hits != 23 || !sameClock(out, impl.Clock{Room: room, Keys: []int{31}, Used: []bool{true}}) {
			t.Errorf("RunClock of one key 24 times with room %d = %v, %d", room, out, hits)
		}
	}
}

// mark sets all marks of a list.
func mark(list []bool, used bool) {
	for i := range list {
		list[i] = used
	}
}

// spareClock returns a clock in new memory with marked places behind its keys and marks.
func spareClock(c impl.Clock, spare bool) impl.Clock {
	c.Keys = withSpare(c.Keys)
	used := append(make([]bool, 0, len(c.Used)+8), c.Used...)
	mark(used[len(used):cap(used)], spare)
	c.Used = used
	return c
}

// wholeClock returns a clock with the places behind its keys and marks.
func wholeClock(c impl.Clock) impl.Clock {
	c.Keys = c.Keys[:cap(c.Keys)]
	c.Used = c.Used[:cap(c.Used)]
	return c
}

// checkClockApart fails if a call modifies its argument, if its result shares memory with it, or if it keeps memory for the next call.
func checkClockApart(t *testing.T, name string, c impl.Clock, call func(c impl.Clock) impl.Clock) {
	t.Helper()
	for _, spare := range []bool{false, true} {
		given := spareClock(c, spare)
		out := call(given)
		if !sameClock(wholeClock(given), wholeClock(spareClock(c, spare))) {
			t.Errorf("%s of %v modifies its argument: %v", name, c, wholeClock(given))
		}
		result, whole := copyClock(out), wholeClock(given)
		fill(whole.Keys, -9)
		mark(whole.Used, spare)
		if !sameClock(out, result) {
			t.Errorf("%s of %v: the result %v follows its argument", name, c, result)
		}
		fill(out.Keys[:cap(out.Keys)], -8)
		mark(out.Used[:cap(out.Used)], !spare)
		if slices.Contains(whole.Keys, -8) || slices.Contains(whole.Used, !spare) {
			t.Errorf("%s of %v: the argument follows its result", name, c)
		}
		if again := call(spareClock(c, spare)); !sameClock(again, result) {
			t.Errorf("%s of %v = %v, and then %v", name, c, result, again)
		}
	}
}

func TestClocksAreApart(t *testing.T) {
	forClocks(func(c impl.Clock, key int) {
		checkClockApart(t, "UseClock", c, func(c impl.Clock) impl.Clock { out, _ := impl.UseClock(c, key); return out })
	})
	for _, c := range append(clocks(), badClocks()...) {
		checkClockApart(t, "UseClock of no key", c, func(c impl.Clock) impl.Clock { out, _ := impl.UseClock(c, 32); return out })
		checkClockApart(t, "UsedKeys", c, func(c impl.Clock) impl.Clock { return impl.Clock{Keys: impl.UsedKeys(c)} })
		checkClockApart(t, "NextVictim", c, func(c impl.Clock) impl.Clock { return impl.Clock{Hand: impl.NextVictim(c)} })
		checkClockApart(t, "ValidClock", c, func(c impl.Clock) impl.Clock { impl.ValidClock(c); return impl.Clock{} })
	}
	for _, c := range badClocks() {
		checkClockApart(t, "UseClock", c, func(c impl.Clock) impl.Clock { out, _ := impl.UseClock(c, 1); return out })
	}
	for _, trace := range append(traces(), badTraces()...) {
		for _, room := range []int{1, 3, 8, 9} {
			checkClockApart(t, "RunClock", impl.Clock{Keys: trace}, func(c impl.Clock) impl.Clock {
				out, _ := impl.RunClock(c.Keys, room)
				return out
			})
		}
	}
}
