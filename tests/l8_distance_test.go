package tests

import (
	"math"
	"slices"
	"testing"

	"loop.example/cacheengine/impl"
)

// distancesOf returns what ReuseDistances should return.
func distancesOf(trace []int) []int {
	out := make([]int, len(trace))
	for place, key := range trace {
		if before := placeBefore(trace, place, key); before >= 0 {
			out[place] = len(distinct(trace[before:place]))
		}
	}
	return out
}

// curveOf returns what HitCurve should return.
func curveOf(trace []int) []int {
	out := make([]int, 8)
	for _, distance := range distancesOf(trace) {
		for room := 1; room <= 8; room++ {
			if 1 <= distance && distance <= room {
				out[room-1]++
			}
		}
	}
	return out
}

// curve returns HitCurve of a trace, and fails if it has not one number for each room.
func curve(t *testing.T, trace []int) []int {
	t.Helper()
	out := impl.HitCurve(trace)
	if len(out) != 8 {
		t.Fatalf("HitCurve(%v) = %v", trace, out)
	}
	return out
}

// distances returns ReuseDistances of a trace, and fails if they are not as many as its keys.
func distances(t *testing.T, trace []int) []int {
	t.Helper()
	out := impl.ReuseDistances(trace)
	if len(out) != len(trace) {
		t.Fatalf("ReuseDistances(%v) = %v", trace, out)
	}
	return out
}

func TestDistancesAndCurves(t *testing.T) {
	for _, trace := range knownTraces() {
		if out := distances(t, trace); !slices.Equal(out, distancesOf(trace)) {
			t.Errorf("ReuseDistances(%v) = %v, want %v", trace, out, distancesOf(trace))
		}
		if out := curve(t, trace); !slices.Equal(out, curveOf(trace)) {
			t.Errorf("HitCurve(%v) = %v, want %v", trace, out, curveOf(trace))
		}
	}
}

func TestP059NewKeysHaveNoDistance(t *testing.T) {
	for _, trace := range knownTraces() {
		for place, distance := range distances(t, trace) {
			isNew := !slices.Contains(trace[:place], trace[place])
			if distance < 0 || (distance == 0) != isNew || distance > newKeys(t, trace[:place]) {
				t.Errorf("ReuseDistances(%v) has %d at %d", trace, distance, place)
			}
		}
	}
}

func TestP060KeysThatComeAgainAtOnceAreNear(t *testing.T) {
	for _, trace := range knownTraces() {
		for place, distance := range distances(t, trace) {
			if (distance == 1) != (place > 0 && trace[place-1] == trace[place]) {
				t.Errorf("ReuseDistances(%v) has %d at %d", trace, distance, place)
			}
		}
	}
}

func TestP154LaterKeysDoNotChangeDistances(t *testing.T) {
	for _, trace := range knownTraces() {
		if len(trace) == 0 {
			continue
		}
		last := len(trace) - 1
		if all, before := distances(t, trace), distances(t, trace[:last]); !slices.Equal(before, all[:last]) {
			t.Errorf("ReuseDistances(%v) = %v, and %v without the last key", trace, all, before)
		}
	}
}

func TestP061DistancesTellTheHitsForEachRoom(t *testing.T) {
	for _, trace := range knownTraces() {
		for i, most := range curve(t, trace) {
			if _, hits := impl.RunRecent(trace, i+1); most != hits {
				t.Errorf("HitCurve(%v) has %d for %d, and RunRecent %d", trace, most, i+1, hits)
			}
		}
	}
}

func TestP062CurvesDoNotFall(t *testing.T) {
	for _, trace := range knownTraces() {
		if out := curve(t, trace); out[0] < 0 || !slices.IsSorted(out) {
			t.Errorf("HitCurve(%v) = %v", trace, out)
		}
	}
}

func TestP155CurvesEndAtWhatCanBeHit(t *testing.T) {
	for _, trace := range knownTraces() {
		keys := newKeys(t, trace)
		if last := curve(t, trace)[7]; last > len(trace)-keys || keys <= 8 && last != len(trace)-keys {
			t.Errorf("HitCurve(%v) ends at %d, NewKeys = %d", trace, last, keys)
		}
	}
}

// forHits calls a test with each known trace and each number of hits to more than there can be.
func forHits(test func(trace []int, hits int)) {
	for _, trace := range knownTraces() {
		for hits := 0; hits <= len(trace)+1; hits++ {
			test(trace, hits)
		}
	}
}

func TestP063AsMuchRoomIsEnoughAndLessIsNot(t *testing.T) {
	forHits(func(trace []int, hits int) {
		room := impl.RoomFor(trace, hits)
		if room == -1 {
			if _, most := impl.RunRecent(trace, 8); most >= hits {
				t.Errorf("RoomFor(%v, %d) = -1, and RunRecent has %d", trace, hits, most)
			}
			return
		}
		if _, most := impl.RunRecent(trace, room); room < 1 || room > 8 || most < hits {
			t.Errorf("RoomFor(%v, %d) = %d, and RunRecent has %d", trace, hits, room, most)
		}
		if _, less := impl.RunRecent(trace, room-1); room > 1 && less >= hits {
			t.Errorf("RoomFor(%v, %d) = %d, and RunRecent with 1 less has %d", trace, hits, room, less)
		}
	})
}

func TestP064SomeHitsAreNotPossible(t *testing.T) {
	forHits(func(trace []int, hits int) {
		room := impl.RoomFor(trace, hits)
		if (room == -1) != (curve(t, trace)[7] < hits) || room != -1 && (room < 1 || room > 8) {
			t.Errorf("RoomFor(%v, %d) = %d, HitCurve = %v", trace, hits, room, curve(t, trace))
		}
	})
}

func TestP156MoreHitsNeedMoreRoom(t *testing.T) {
	forHits(func(trace []int, hits int) {
		room, larger := impl.RoomFor(trace, hits), impl.RoomFor(trace, hits+1)
		if room == -1 && larger != -1 || larger != -1 && larger < room || hits == 0 && room != 1 {
			t.Errorf("RoomFor(%v, %d) = %d, and %d for 1 more", trace, hits, room, larger)
		}
	})
}

// forSpans calls a test with each known trace, each place of it and the one behind, and each span.
func forSpans(test func(trace []int, at int, span int)) {
	for _, trace := range knownTraces() {
		for at := 0; at <= len(trace); at++ {
			for span := 1; span <= 24; span++ {
				test(trace, at, span)
			}
		}
	}
}

func TestWorkingSet(t *testing.T) {
	forSpans(func(trace []int, at int, span int) {
		before := reversed(trace[:at])
		want := len(distinct(before[:min(span, at)]))
		if n := impl.WorkingSet(trace, at, span); n != want {
			t.Errorf("WorkingSet(%v, %d, %d) = %d, want %d", trace, at, span, n, want)
		}
	})
}

func TestP065WorkingSetsAreSmall(t *testing.T) {
	forSpans(func(trace []int, at int, span int) {
		n := impl.WorkingSet(trace, at, span)
		if n < 0 || n > span || span == 24 && n != newKeys(t, trace[:at]) {
			t.Errorf("WorkingSet(%v, %d, %d) = %d", trace, at, span, n)
		}
	})
}

func TestP066LongerSpansHaveMoreKeys(t *testing.T) {
	forSpans(func(trace []int, at int, span int) {
		if span == 24 {
			return
		}
		n, longer := impl.WorkingSet(trace, at, span), impl.WorkingSet(trace, at, span+1)
		want := n
		if span < at && !slices.Contains(trace[at-span:at], trace[at-span-1]) {
			want++
		}
		if n < 0 || longer != want {
			t.Errorf("WorkingSet(%v, %d, %d) = %d, and %d with a span 1 longer", trace, at, span, n, longer)
		}
	})
}

func TestP157OneKeyIsOneKey(t *testing.T) {
	for _, trace := range knownTraces() {
		for at := 0; at <= len(trace); at++ {
			if n := impl.WorkingSet(trace, at, 1); n != min(at, 1) {
				t.Errorf("WorkingSet(%v, %d, 1) = %d", trace, at, n)
			}
		}
	}
}

// row returns a list of numbers.
func row(n ...int) []int { return n }

// times returns a list of one number several times.
func times(n int, x int) []int {
	out := make([]int, n)
	fill(out, x)
	return out
}

func TestDistanceCases(t *testing.T) {
	for _, x := range []struct {
		name             string
		trace            []int
		distances, curve []int
	}{
		{"a nil trace", nil, nil, times(8, 0)},
		{"an empty trace", row(), row(), times(8, 0)},
		{"one key", row(31), row(0), times(8, 0)},
		{"one key twice", row(0, 0), row(0, 1), times(8, 1)},
		{"two keys", row(31, 0), row(0, 0), times(8, 0)},
		{"a key between", row(31, 0, 31), row(0, 0, 2), row(0, 1, 1, 1, 1, 1, 1, 1)},
		{"a key twice between", row(1, 2, 2, 1), row(0, 0, 1, 2), row(1, 2, 2, 2, 2, 2, 2, 2)},
		{"keys that come again between", row(1, 2, 3, 2, 3, 1), row(0, 0, 0, 2, 2, 3), row(0, 2, 3, 3, 3, 3, 3, 3)},
		{"keys from before the last use do not count", row(1, 2, 3, 1, 2, 1), row(0, 0, 0, 3, 3, 2), row(0, 1, 3, 3, 3, 3, 3, 3)},
		{"a key from before and between", row(2, 1, 2, 1), row(0, 0, 2, 2), row(0, 2, 2, 2, 2, 2, 2, 2)},
		{"the largest room", append(loop(8, 8), 0), append(times(8, 0), 8), row(0, 0, 0, 0, 0, 0, 0, 1)},
		{"one less than the largest room", append(loop(7, 7), 0), append(times(7, 0), 7), row(0, 0, 0, 0, 0, 0, 1, 1)},
		{"a distance greater than the largest room", append(loop(9, 9), 0, 0), append(times(9, 0), 9, 1), times(8, 1)},
		{"the greatest distance", append(loop(23, 23), 0), append(times(23, 0), 23), times(8, 0)},
		{"24 different keys", longest(), times(24, 0), times(8, 0)},
		{"one key 24 times", times(24, 31), append(row(0), times(23, 1)...), times(8, 23)},
		{"the longest loop", loop(8, 24), append(times(8, 0), times(16, 8)...), row(0, 0, 0, 0, 0, 0, 0, 16)},
	} {
		if out := distances(t, x.trace); !slices.Equal(out, x.distances) {
			t.Errorf("%s: ReuseDistances(%v) = %v, want %v", x.name, x.trace, out, x.distances)
		}
		if out := curve(t, x.trace); !slices.Equal(out, x.curve) {
			t.Errorf("%s: HitCurve(%v) = %v, want %v", x.name, x.trace, out, x.curve)
		}
	}
}

func TestRoomForCases(t *testing.T) {
	trace := row(1, 2, 1, 1, 3, 2) // The curve 1, 2, 3.
	for _, x := range []struct {
		name  string
		trace []int
		hits  int
		want  int
	}{
		{"0 hits", trace, 0, 1},
		{"the first hit", trace, 1, 1},
		{"the second hit", trace, 2, 2},
		{"all hits", trace, 3, 3},
		{"one hit more", trace, 4, -1},
		{"as many hits as keys", trace, 6, -1},
		{"far too many hits", trace, math.MaxInt, -1},
		{"0 hits, an empty trace", row(), 0, 1},
		{"1 hit, a nil trace", nil, 1, -1},
		{"0 hits, one key", row(0), 0, 1},
		{"1 hit, one key", row(0), 1, -1},
		{"all hits of one key 24 times", times(24, 31), 23, 1},
		{"one hit more than these", times(24, 31), 24, -1},
		{"several rooms have the hits", append(loop(4, 4), 0), 1, 4},
		{"the largest room", loop(8, 24), 16, 8},
		{"the largest room, one hit", loop(8, 24), 1, 8},
		{"the largest room has one hit less", loop(8, 24), 17, -1},
		{"all distances are greater than the largest room", loop(9, 24), 1, -1},
		{"0 hits, all distances are greater", loop(9, 24), 0, 1},
	} {
		if room := impl.RoomFor(x.trace, x.hits); room != x.want {
			t.Errorf("%s: RoomFor(%v, %d) = %d, want %d", x.name, x.trace, x.hits, room, x.want)
		}
	}
}

func TestWorkingSetCases(t *testing.T) {
	trace := row(1, 2, 1, 1, 3, 2)
	for _, x := range []struct {
		name     string
		trace    []int
		at, span int
		want     int
	}{
		{"the place 0", trace, 0, 1, 0},
		{"the place 0, the largest span", trace, 0, 24, 0},
		{"the place 1", trace, 1, 1, 1},
		{"a span longer than what is before the place", trace, 1, 2, 1},
		{"two equal keys", trace, 4, 2, 1},
		{"the span reaches to the key before", trace, 4, 3, 2},
		{"all before the place", trace, 4, 4, 2},
		{"the last place", trace, 5, 2, 2},
		{"the last place, the largest span", trace, 5, 24, 3},
		{"the length of the trace, the span 1", trace, 6, 1, 1},
		{"the length of the trace, the span 2", trace, 6, 2, 2},
		{"the length of the trace, the span 3", trace, 6, 3, 3},
		{"the length of the trace, the largest span", trace, 6, 24, 3},
		{"an empty trace", row(), 0, 1, 0},
		{"a nil trace", nil, 0, 24, 0},
		{"one key", row(0), 1, 24, 1},
		{"all of the longest trace", longest(), 24, 24, 24},
		{"all but the first key of the longest trace", longest(), 24, 23, 23},
		{"before the last key of the longest trace", longest(), 23, 24, 23},
		{"one key 24 times", times(24, 31), 24, 24, 1},
	} {
		if n := impl.WorkingSet(x.trace, x.at, x.span); n != x.want {
			t.Errorf("%s: WorkingSet(%v, %d, %d) = %d, want %d", x.name, x.trace, x.at, x.span, n, x.want)
		}
	}
}

func TestDistancesOtherArguments(t *testing.T) {
	for _, trace := range badTraces() {
		if out := impl.ReuseDistances(trace); len(out) != 0 {
			t.Errorf("ReuseDistances(%v) = %v", trace, out)
		}
		if out := impl.HitCurve(trace); len(out) != 0 {
			t.Errorf("HitCurve(%v) = %v", trace, out)
		}
		for _, hits := range []int{0, 1, 2, 24, -1} {
			if room := impl.RoomFor(trace, hits); room != -1 {
				t.Errorf("RoomFor(%v, %d) = %d", trace, hits, room)
			}
		}
	}
	for _, trace := range traces() {
		for _, hits := range []int{-1, -2, -24, math.MinInt} {
			if room := impl.RoomFor(trace, hits); room != -1 {
				t.Errorf("RoomFor(%v, %d) = %d", trace, hits, room)
			}
		}
	}
}

func TestWorkingSetOtherArguments(t *testing.T) {
	check := func(trace []int, at int, span int) {
		t.Helper()
		if n := impl.WorkingSet(trace, at, span); n != -1 {
			t.Errorf("WorkingSet(%v, %d, %d) = %d", trace, at, span, n)
		}
	}
	for _, trace := range badTraces() {
		for _, at := range []int{0, 1, len(trace), len(trace) + 1, -1} {
			for _, span := range []int{1, 2, 24, 25, 0} {
				check(trace, at, span)
			}
		}
	}
	for _, trace := range traces() {
		for _, at := range badPlaces(len(trace)) {
			for _, span := range []int{1, 2, 24, 25, 0} {
				check(trace, at, span)
			}
		}
		for _, span := range []int{0, -1, -24, 25, 26, 100, math.MaxInt, math.MinInt} {
			for at := -1; at <= len(trace)+1; at++ {
				check(trace, at, span)
			}
		}
	}
}

func TestDistancesAreApart(t *testing.T) {
	for _, trace := range append(knownTraces(), badTraces()...) {
		checkApart(t, "ReuseDistances", trace, impl.ReuseDistances)
		checkApart(t, "HitCurve", trace, impl.HitCurve)
		for _, n := range []int{-1, 0, 1, 2, 24, 25} {
			checkApart(t, "RoomFor", trace, func(list []int) []int { return []int{impl.RoomFor(list, n)} })
			checkApart(t, "WorkingSet", trace, func(list []int) []int { return []int{impl.WorkingSet(list, n, 3)} })
			checkApart(t, "WorkingSet", trace, func(list []int) []int { return []int{impl.WorkingSet(list, len(list), n)} })
		}
	}
}
