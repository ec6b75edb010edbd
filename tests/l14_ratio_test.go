package tests

import (
	"math"
	"slices"
	"testing"

	"loop.example/cacheengine/impl"
)

// forHitsOf calls a test with numbers of uses, the smallest and the largest ones among them, and all numbers of hits.
func forHitsOf(test func(hits int, uses int)) {
	some := []int{333, 499, 500, 501, 997, 999, 1000, 1001, 1999, 2000, 2001, 3000, 5000, 7001, 9998, 9999, 10000}
	for uses := 1; uses <= 150; uses++ {
		some = append(some, uses)
	}
	for _, uses := range some {
		for hits := 0; hits <= uses; hits++ {
			test(hits, uses)
		}
	}
}

// forRatios calls a test with all pairs of ratios.
func forRatios(test func(old int, now int)) {
	for old := 0; old <= 1000; old++ {
		for now := 0; now <= 1000; now++ {
			test(old, now)
		}
	}
}

// allSteps are all steps of a climb.
func allSteps() []int {
	out := []int{}
	for step := 1; step <= 16; step++ {
		out = append(out, step, -step)
	}
	return out
}

// forStates calls a test with valid states of a climb: all shares, all steps and some ratios.
func forStates(test func(c impl.Climb)) {
	for at := 0; at <= 100; at++ {
		for _, step := range allSteps() {
			for _, ratio := range []int{0, 1, 2, 499, 500, 999, 1000} {
				test(impl.Climb{At: at, Step: step, Ratio: ratio})
			}
		}
	}
}

// forClimbs calls a test with states of a climb and ratios that are better, worse and the same.
func forClimbs(test func(c impl.Climb, ratio int)) {
	forStates(func(c impl.Climb) {
		for _, ratio := range distinct([]int{0, 1, max(c.Ratio-1, 0), c.Ratio, min(c.Ratio+1, 1000), 501, 999, 1000}) {
			test(c, ratio)
		}
	})
}

// halfBack returns the step in the other direction that is half as large as another one, at least 1.
func halfBack(step int) int {
	if step > 0 {
		return -max(step>>1, 1)
	}
	return max(-step>>1, 1)
}

// climbAfter returns what NextClimb should return.
func climbAfter(c impl.Climb, ratio int) impl.Climb {
	if ratio < c.Ratio {
		c.Step = halfBack(c.Step)
	}
	at := c.At + c.Step
	if at < 0 {
		at = 0
	}
	if at > 100 {
		at = 100
	}
	return impl.Climb{At: at, Step: c.Step, Ratio: ratio}
}

// badRatios are numbers that are no ratios.
func badRatios() []int {
	return []int{-1, -2, -1000, 1001, 1002, 5000, math.MaxInt, math.MinInt}
}

// badClimbs are states of a climb with a part out of its limits.
func badClimbs() []impl.Climb {
	out := []impl.Climb{{}, {At: 5}, {At: 5, Ratio: 500}}
	for _, at := range []int{-1, -2, -100, 101, 102, math.MaxInt, math.MinInt} {
		for _, step := range []int{1, -1, 16, -16} {
			out = append(out, impl.Climb{At: at, Step: step, Ratio: 500})
		}
	}
	for _, step := range []int{0, -17, -18, 17, 18, 100, math.MaxInt, math.MinInt} {
		for _, at := range []int{0, 50, 100} {
			out = append(out, impl.Climb{At: at, Step: step, Ratio: 500})
		}
	}
	for _, ratio := range badRatios() {
		for _, at := range []int{0, 50, 100} {
			out = append(out, impl.Climb{At: at, Step: 4, Ratio: ratio}, impl.Climb{At: at, Step: -4, Ratio: ratio})
		}
	}
	return out
}

// forSplits calls a test with each known trace and each room that can be split.
func forSplits(test func(trace []int, room int)) {
	forRuns(func(trace []int, room int) {
		if room >= 2 {
			test(trace, room)
		}
	})
}

// splitHits returns the hits of segments with a room for keys on trial, and the rest for safe ones.
func splitHits(trace []int, room int, trial int) int {
	s, hits := impl.Segments{Trial: trial, Safe: room - trial}, 0
	for _, key := range trace {
		next, hit := segmentsAfter(s, key)
		if hit {
			hits++
		}
		s = next
	}
	return hits
}

func TestRatioConstants(t *testing.T) {
	if impl.MaxUses != 10000 || impl.SmoothStep != 4 || impl.MaxShare != 100 || impl.MaxStep != 16 {
		t.Errorf("MaxUses = %d, SmoothStep = %d, MaxShare = %d, MaxStep = %d", impl.MaxUses, impl.SmoothStep, impl.MaxShare, impl.MaxStep)
	}
}

func TestRatioOf(t *testing.T) {
	forHitsOf(func(hits int, uses int) {
		ratio := impl.RatioOf(hits, uses)
		if ratio*uses > 1000*hits || 1000*hits >= (ratio+1)*uses {
			t.Errorf("RatioOf(%d, %d) = %d", hits, uses, ratio)
		}
	})
	for _, x := range [][3]int{{0, 1, 0}, {1, 1, 1000}, {1, 2, 500}, {1, 3, 333}, {2, 3, 666}, {3, 3, 1000}, {1, 999, 1}, {1, 1000, 1}, {1, 1001, 0}, {2, 7, 285}, {6, 7, 857}, {0, 10000, 0}, {9, 10000, 0}, {10, 10000, 1}, {19, 10000, 1}, {20, 10000, 2}, {9999, 10000, 999}, {10000, 10000, 1000}, {9998, 9999, 999}} {
		if ratio := impl.RatioOf(x[0], x[1]); ratio != x[2] {
			t.Errorf("RatioOf(%d, %d) = %d, want %d", x[0], x[1], ratio, x[2])
		}
	}
}

func TestP111RatiosArePartsOf1000(t *testing.T) {
	before := -1
	forHitsOf(func(hits int, uses int) {
		if hits == 0 {
			before = 0
		}
		ratio := impl.RatioOf(hits, uses)
		if ratio < before || ratio > 1000 || hits == uses && ratio != 1000 {
			t.Errorf("RatioOf(%d, %d) = %d, and with one less it is %d", hits, uses, ratio, before)
		}
		before = ratio
	})
}

func TestP112HitsAndMissesAreAll(t *testing.T) {
	forHitsOf(func(hits int, uses int) {
		a, b := impl.RatioOf(hits, uses), impl.RatioOf(uses-hits, uses)
		if a < 0 || b < 0 || a+b != 1000 && a+b != 999 || 1000*hits%uses == 0 && a+b != 1000 {
			t.Errorf("RatioOf(%d, %d) = %d, and of the misses %d", hits, uses, a, b)
		}
	})
}

func TestRatioOfOtherArguments(t *testing.T) {
	check := func(hits int, uses int) {
		t.Helper()
		if ratio := impl.RatioOf(hits, uses); ratio != -1 {
			t.Errorf("RatioOf(%d, %d) = %d", hits, uses, ratio)
		}
	}
	for uses := 1; uses <= 10000; uses++ {
		check(uses+1, uses)
		check(-1, uses)
	}
	for _, uses := range []int{1, 2, 999, 1000, 9999, 10000} {
		for _, hits := range []int{-2, -uses, uses + 1, uses + 2, 2 * uses, 20001, math.MaxInt, math.MinInt} {
			check(hits, uses)
		}
	}
	for _, uses := range []int{0, -1, -2, -10000, 10001, 10002, 20000, math.MaxInt, math.MinInt} {
		for _, hits := range []int{-2, -1, 0, 1, 2, 1000, 10000, 10001, uses, uses - 1, -uses} {
			check(hits, uses)
		}
	}
}

func TestSmoothRatio(t *testing.T) {
	forRatios(func(old int, now int) {
		want := old
		for left := now - old; left >= 4; left -= 4 {
			want++
		}
		for left := old - now; left >= 4; left -= 4 {
			want--
		}
		if ratio := impl.SmoothRatio(old, now); ratio != want {
			t.Errorf("SmoothRatio(%d, %d) = %d, want %d", old, now, ratio, want)
		}
	})
	for _, x := range [][3]int{{0, 0, 0}, {1000, 1000, 1000}, {0, 1000, 250}, {1000, 0, 750}, {500, 503, 500}, {500, 504, 501}, {500, 497, 500}, {500, 496, 499}, {500, 507, 501}, {500, 508, 502}, {500, 493, 499}, {500, 492, 498}, {0, 3, 0}, {0, 4, 1}, {3, 0, 3}, {4, 0, 3}, {1000, 997, 1000}, {1000, 996, 999}, {997, 1000, 997}, {996, 1000, 997}, {500, 403, 476}, {999, 0, 750}} {
		if ratio := impl.SmoothRatio(x[0], x[1]); ratio != x[2] {
			t.Errorf("SmoothRatio(%d, %d) = %d, want %d", x[0], x[1], ratio, x[2])
		}
	}
}

func TestP113SmoothRatiosComeNearer(t *testing.T) {
	forRatios(func(old int, now int) {
		ratio := impl.SmoothRatio(old, now)
		if ratio < min(old, now) || ratio > max(old, now) || max(now-old, old-now) >= 4 && ratio == old {
			t.Errorf("SmoothRatio(%d, %d) = %d", old, now, ratio)
		}
	})
}

func TestP114RisingIsLikeFalling(t *testing.T) {
	forRatios(func(old int, now int) {
		ratio, other := impl.SmoothRatio(old, now), impl.SmoothRatio(1000-old, 1000-now)
		if ratio < 0 || ratio > 1000 || other != 1000-ratio {
			t.Errorf("SmoothRatio(%d, %d) = %d, and %d of 1000 minus both", old, now, ratio, other)
		}
	})
}

func TestSmoothRatioOtherArguments(t *testing.T) {
	for _, bad := range badRatios() {
		for _, other := range append(badRatios(), 0, 1, 500, 999, 1000) {
			if a, b := impl.SmoothRatio(bad, other), impl.SmoothRatio(other, bad); a != -1 || b != -1 {
				t.Errorf("SmoothRatio of %d and %d = %d, and in the other order %d", bad, other, a, b)
			}
		}
	}
}

func TestValidClimbLimits(t *testing.T) {
	forStates(func(c impl.Climb) {
		if !impl.ValidClimb(c) {
			t.Errorf("%v is not valid", c)
		}
	})
	for _, c := range badClimbs() {
		if impl.ValidClimb(c) {
			t.Errorf("%v is valid", c)
		}
	}
	for n := -1005; n <= 1005; n++ {
		if impl.ValidClimb(impl.Climb{At: n, Step: 1, Ratio: 1}) != (n >= 0 && n <= 100) {
			t.Errorf("ValidClimb with the share %d", n)
		}
		if impl.ValidClimb(impl.Climb{At: 1, Step: n, Ratio: 1}) != (n >= -16 && n <= 16 && n != 0) {
			t.Errorf("ValidClimb with the step %d", n)
		}
		if impl.ValidClimb(impl.Climb{At: 1, Step: 1, Ratio: n}) != (n >= 0 && n <= 1000) {
			t.Errorf("ValidClimb with the ratio %d", n)
		}
	}
}

func TestP115ClimbsCanTurnAround(t *testing.T) {
	check := func(c impl.Climb) {
		t.Helper()
		back := impl.Climb{At: c.At, Step: -c.Step, Ratio: c.Ratio}
		if !impl.ValidClimb(c) || !impl.ValidClimb(back) {
			t.Errorf("%v or %v is not valid", c, back)
		}
	}
	forStates(check)
	forClimbs(func(c impl.Climb, ratio int) {
		next, _ := impl.NextClimb(c, ratio)
		check(next)
	})
}

func TestNextClimb(t *testing.T) {
	forClimbs(func(c impl.Climb, ratio int) {
		if next, ok := impl.NextClimb(c, ratio); !ok || next != climbAfter(c, ratio) || !impl.ValidClimb(next) {
			t.Errorf("NextClimb(%v, %d) = %v, %t, want %v", c, ratio, next, ok, climbAfter(c, ratio))
		}
	})
	for old := 0; old <= 1000; old++ {
		for _, ratio := range []int{0, old - 1, old, old + 1, 1000} {
			c := impl.Climb{At: 50, Step: 6, Ratio: old}
			if next, ok := impl.NextClimb(c, ratio); ratio >= 0 && ratio <= 1000 && (!ok || next != climbAfter(c, ratio)) {
				t.Errorf("NextClimb(%v, %d) = %v, %t, want %v", c, ratio, next, ok, climbAfter(c, ratio))
			}
		}
	}
}

func TestP116ClimbsGoOnWhileItGetsBetter(t *testing.T) {
	size := func(step int) int { return max(step, -step) }
	forClimbs(func(c impl.Climb, ratio int) {
		next, ok := impl.NextClimb(c, ratio)
		kept := next.Step == c.Step
		turned := next.Step*c.Step < 0 && (2*size(next.Step) <= size(c.Step) || size(next.Step) == 1)
		if !ok || next.Ratio != ratio || ratio >= c.Ratio && !kept || ratio < c.Ratio && !turned {
			t.Errorf("NextClimb(%v, %d) = %v, %t", c, ratio, next, ok)
		}
	})
}

func TestP117ClimbsMoveByTheirSteps(t *testing.T) {
	forClimbs(func(c impl.Climb, ratio int) {
		next, ok := impl.NextClimb(c, ratio)
		moved := next.At-c.At == next.Step
		atEnd := next.At == 0 && c.At+next.Step < 0 || next.At == 100 && c.At+next.Step > 100
		if !ok || next.At < 0 || next.At > 100 || next.Step == 0 || moved == atEnd {
			t.Errorf("NextClimb(%v, %d) = %v, %t", c, ratio, next, ok)
		}
	})
}

func TestP172ClimbsSettle(t *testing.T) {
	forStates(func(c impl.Climb) {
		// The first of the five ratios may be better than the one that the state has.
		for _, first := range []int{4, 5, c.Ratio - 1, c.Ratio, 1000} {
			if first < 4 || first > 1000 {
				continue
			}
			end, ok := c, true
			for ratio := first; ratio > first-5 && ok; ratio-- {
				end, ok = impl.NextClimb(end, ratio)
			}
			if !ok || end.Step != 1 && end.Step != -1 {
				t.Errorf("behind %v and five ratios from %d on: %v, %t", c, first, end, ok)
			}
		}
	})
}

func TestNextClimbCases(t *testing.T) {
	for _, x := range []struct {
		name   string
		before impl.Climb
		ratio  int
		at     int
		step   int
	}{
		{"it gets better", impl.Climb{At: 50, Step: 4, Ratio: 500}, 501, 54, 4},
		{"it gets better, downwards", impl.Climb{At: 50, Step: -4, Ratio: 500}, 1000, 46, -4},
		{"it stays equal", impl.Climb{At: 50, Step: 4, Ratio: 500}, 500, 54, 4},
		{"it stays equal, downwards", impl.Climb{At: 50, Step: -5, Ratio: 500}, 500, 45, -5},
		{"it stays 0", impl.Climb{At: 50, Step: 3, Ratio: 0}, 0, 53, 3},
		{"it stays 1000", impl.Climb{At: 50, Step: 3, Ratio: 1000}, 1000, 53, 3},
		{"it gets worse, an even step", impl.Climb{At: 50, Step: 4, Ratio: 500}, 499, 48, -2},
		{"it gets worse, an even step downwards", impl.Climb{At: 50, Step: -4, Ratio: 500}, 499, 52, 2},
		{"it gets worse, an odd step", impl.Climb{At: 50, Step: 5, Ratio: 500}, 0, 48, -2},
		{"it gets worse, an odd step downwards", impl.Climb{At: 50, Step: -5, Ratio: 500}, 0, 52, 2},
		{"the step 3", impl.Climb{At: 50, Step: 3, Ratio: 500}, 400, 49, -1},
		{"the step -3", impl.Climb{At: 50, Step: -3, Ratio: 500}, 400, 51, 1},
		{"the step 2", impl.Climb{At: 50, Step: 2, Ratio: 500}, 400, 49, -1},
		{"the step -2", impl.Climb{At: 50, Step: -2, Ratio: 500}, 400, 51, 1},
		{"the step 1 turns around", impl.Climb{At: 50, Step: 1, Ratio: 500}, 400, 49, -1},
		{"the step -1 turns around", impl.Climb{At: 50, Step: -1, Ratio: 500}, 400, 51, 1},
		{"the largest step", impl.Climb{At: 50, Step: 16, Ratio: 500}, 500, 66, 16},
		{"the largest step downwards", impl.Climb{At: 50, Step: -16, Ratio: 500}, 600, 34, -16},
		{"the largest step turns around", impl.Climb{At: 50, Step: 16, Ratio: 1000}, 0, 42, -8},
		{"the largest step downwards turns around", impl.Climb{At: 50, Step: -16, Ratio: 1}, 0, 58, 8},
		{"the step 15 turns around", impl.Climb{At: 50, Step: 15, Ratio: 1}, 0, 43, -7},
		{"just to the largest share", impl.Climb{At: 84, Step: 16, Ratio: 1}, 1, 100, 16},
		{"beyond the largest share", impl.Climb{At: 85, Step: 16, Ratio: 1}, 1, 100, 16},
		{"beyond the largest share, which it has", impl.Climb{At: 100, Step: 1, Ratio: 1}, 2, 100, 1},
		{"beyond the largest share, turned around", impl.Climb{At: 98, Step: -6, Ratio: 2}, 1, 100, 3},
		{"just to 0", impl.Climb{At: 16, Step: -16, Ratio: 1}, 1, 0, -16},
		{"beyond 0", impl.Climb{At: 15, Step: -16, Ratio: 1}, 1, 0, -16},
		{"beyond 0, where it is", impl.Climb{At: 0, Step: -1, Ratio: 1}, 2, 0, -1},
		{"beyond 0, turned around", impl.Climb{At: 2, Step: 7, Ratio: 2}, 1, 0, -3},
		{"away from 0", impl.Climb{At: 0, Step: -1, Ratio: 2}, 1, 1, 1},
		{"away from the largest share", impl.Climb{At: 100, Step: 1, Ratio: 2}, 1, 99, -1},
	} {
		if next, ok := impl.NextClimb(x.before, x.ratio); !ok || next != (impl.Climb{At: x.at, Step: x.step, Ratio: x.ratio}) {
			t.Errorf("%s: NextClimb(%v, %d) = %v, %t, want %d, %d", x.name, x.before, x.ratio, next, ok, x.at, x.step)
		}
	}
}

func TestNextClimbOtherArguments(t *testing.T) {
	check := func(c impl.Climb, ratio int) {
		t.Helper()
		if next, ok := impl.NextClimb(c, ratio); ok || next != (impl.Climb{}) {
			t.Errorf("NextClimb(%v, %d) = %v, %t", c, ratio, next, ok)
		}
	}
	for _, c := range badClimbs() {
		for _, ratio := range append(badRatios(), 0, 1, 499, 500, 501, 999, 1000) {
			check(c, ratio)
		}
	}
	forStates(func(c impl.Climb) {
		for _, ratio := range badRatios() {
			check(c, ratio)
		}
	})
}

func TestP118NoSplitIsBetter(t *testing.T) {
	forSplits(func(trace []int, room int) {
		split := impl.BestSplit(trace, room)
		if split < 1 || split >= room {
			t.Fatalf("BestSplit(%v, %d) = %d", trace, room, split)
		}
		_, most := impl.RunSegments(trace, split, room-split)
		for trial := 1; trial < room; trial++ {
			if _, hits := impl.RunSegments(trace, trial, room-trial); hits > most || trial < split && hits == most {
				t.Errorf("BestSplit(%v, %d) = %d with %d hits, and %d has %d", trace, room, split, most, trial, hits)
			}
		}
	})
}

func TestBestSplit(t *testing.T) {
	forSplits(func(trace []int, room int) {
		hits := []int{}
		for trial := 1; trial < room; trial++ {
			hits = append(hits, splitHits(trace, room, trial))
		}
		if split := impl.BestSplit(trace, room); split != 1+slices.Index(hits, slices.Max(hits)) {
			t.Errorf("BestSplit(%v, %d) = %d, and the hits are %v", trace, room, split, hits)
		}
	})
}

func TestP173SplitsAreNoBetterThanTheBest(t *testing.T) {
	forSplits(func(trace []int, room int) {
		split := impl.BestSplit(trace, room)
		_, hits := impl.RunSegments(trace, split, room-split)
		if best := impl.BestHits(trace, room); hits < 0 || hits > best {
			t.Errorf("RunSegments(%v, %d, %d) has %d hits, and BestHits is %d", trace, split, room-split, hits, best)
		}
	})
}

func TestBestSplitCases(t *testing.T) {
	for _, x := range []struct {
		name  string
		trace []int
		room  int
		split int
	}{
		{"a nil trace, the smallest room", nil, 2, 1},
		{"an empty trace, the largest room", row(), 8, 1},
		{"one key", row(31), 8, 1},
		{"the smallest room has one split", row(1, 2, 1, 2, 1), 2, 1},
		{"two keys in turns", row(1, 2, 1, 2, 1), 3, 2},
		{"two keys in turns, a larger room", row(1, 2, 1, 2, 1), 8, 2},
		{"three keys in turns", loop(3, 9), 8, 3},
		{"three keys in turns, the greatest trial", loop(3, 9), 4, 3},
		{"seven keys in turns, the greatest trial of all", loop(7, 24), 8, 7},
		{"no split has hits", loop(8, 24), 8, 1},
		{"each key twice at once", row(1, 1, 2, 2, 3, 3), 8, 1},
		{"safe keys come again behind others", row(1, 1, 2, 2, 3, 4, 5, 1, 2), 3, 1},
		{"one key 24 times", times(24, 31), 8, 1},
		{"24 different keys", longest(), 8, 1},
	} {
		if split := impl.BestSplit(x.trace, x.room); split != x.split {
			t.Errorf("%s: BestSplit(%v, %d) = %d, want %d", x.name, x.trace, x.room, split, x.split)
		}
	}
}

func TestBestSplitOtherArguments(t *testing.T) {
	check := func(trace []int, room int) {
		t.Helper()
		if split := impl.BestSplit(trace, room); split != -1 {
			t.Errorf("BestSplit(%v, %d) = %d", trace, room, split)
		}
	}
	forBadRuns(check)
	for _, trace := range badTraces() {
		for room := -1; room <= 10; room++ {
			check(trace, room)
		}
	}
	for _, trace := range traces() {
		check(trace, 1)
		for _, room := range badRooms() {
			check(trace, room)
		}
	}
}

func TestRatiosAreApart(t *testing.T) {
	for _, trace := range append(knownTraces(), badTraces()...) {
		for _, room := range []int{1, 2, 3, 8, 9} {
			checkApart(t, "BestSplit", trace, func(list []int) []int { return []int{impl.BestSplit(list, room)} })
		}
	}
}
