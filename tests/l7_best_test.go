package tests

import (
	"maps"
	"math"
	"math/bits"
	"slices"
	"testing"

	"loop.example/cacheengine/impl"
)

// shortTraces are all traces of at most 7 keys, but for the names of the keys: each new key is the least one that was not there.
func shortTraces() [][]int {
	out := [][]int{{}}
	for i := 0; i < len(out); i++ {
		keys := len(distinct(out[i]))
		for key := 0; key <= keys && len(out[i]) < 7; key++ {
			out = append(out, append(slices.Clone(out[i]), key))
		}
	}
	return out
}

// knownTraces are traces of all lengths and all short ones.
func knownTraces() [][]int {
	return append(traces(), shortTraces()...)
}

// forRuns calls a test with each known trace and each room.
func forRuns(test func(trace []int, room int)) {
	for _, trace := range knownTraces() {
		for room := 1; room <= 8; room++ {
			test(trace, room)
		}
	}
}

// longest returns a trace of 24 different keys.
func longest() []int {
	return loop(24, 24)
}

// newKeys returns NewKeys of a trace, and fails if it is not the number of its different keys.
func newKeys(t *testing.T, trace []int) int {
	t.Helper()
	n := impl.NewKeys(trace)
	if n != len(distinct(trace)) {
		t.Fatalf("NewKeys(%v) = %d", trace, n)
	}
	return n
}

// mostHits returns the hits of the best one of all ways to leave keys out; caches are sets of bits.
func mostHits(trace []int, room int) int {
	best := map[uint32]int{0: 0}
	for _, key := range trace {
		next, bit := map[uint32]int{}, uint32(1)<<key
		for cache, hits := range best {
			switch {
			case cache&bit != 0:
				next[cache] = max(next[cache], hits+1)
			case bits.OnesCount32(cache) < room:
				next[cache|bit] = max(next[cache|bit], hits)
			default:
				for rest := cache; rest != 0; rest &= rest - 1 {
					other := cache&^(rest&-rest) | bit
					next[other] = max(next[other], hits)
				}
			}
		}
		best = next
	}
	return slices.Max(slices.Collect(maps.Values(best)))
}

// keptUses returns how many keys can be kept until they come again, if beside the key that is used there is room for all but one: those that come again first are kept first.
func keptUses(trace []int, room int) int {
	kept := make([]int, len(trace))
	uses := 0
	for place, key := range trace {
		before := placeBefore(trace, place, key)
		if before < 0 {
			continue
		}
		between := kept[before+1 : place]
		if len(between) > 0 && slices.Max(between) >= room-1 {
			continue
		}
		for i := range between {
			between[i]++
		}
		uses++
	}
	return uses
}

// placeBefore returns the last place before another one at which a trace has a key; -1 if there is none.
func placeBefore(trace []int, place int, key int) int {
	for place--; place >= 0 && trace[place] != key; place-- {
	}
	return place
}

// forUsesFrom calls a test with each known trace, each place of it and the one behind, and each key of it and some others.
func forUsesFrom(test func(trace []int, from int, key int)) {
	for _, trace := range knownTraces() {
		for _, key := range keysToUse(distinct(trace)) {
			for from := 0; from <= len(trace); from++ {
				test(trace, from, key)
			}
		}
	}
}

func TestP051TheNextUseIsNext(t *testing.T) {
	forUsesFrom(func(trace []int, from int, key int) {
		next := impl.NextUse(trace, from, key)
		if next < from || next > len(trace) || next < len(trace) && trace[next] != key || slices.Contains(trace[from:next], key) {
			t.Errorf("NextUse(%v, %d, %d) = %d", trace, from, key, next)
		}
	})
}

func TestP052UsesFollowEachOther(t *testing.T) {
	forUsesFrom(func(trace []int, from int, key int) {
		if from == len(trace) {
			return
		}
		here, behind := impl.NextUse(trace, from, key), impl.NextUse(trace, from+1, key)
		if trace[from] == key && (here != from || behind <= here) || trace[from] != key && (here != behind || here <= from) {
			t.Errorf("NextUse(%v, %d, %d) = %d, and %d behind", trace, from, key, here, behind)
		}
	})
}

func TestP150KeysThatAreNotThereAreNeverUsed(t *testing.T) {
	for _, trace := range knownTraces() {
		for key := 0; key <= 31; key++ {
			for from := 0; from <= len(trace) && !slices.Contains(trace, key); from++ {
				if next := impl.NextUse(trace, from, key); next != len(trace) {
					t.Errorf("NextUse(%v, %d, %d) = %d", trace, from, key, next)
				}
			}
		}
	}
}

func TestNextUseCases(t *testing.T) {
	trace := []int{7, 31, 0, 7, 7, 31}
	last := longest()
	for _, x := range []struct {
		name      string
		trace     []int
		from, key int
		want      int
	}{
		{"the place 0 has the key", trace, 0, 7, 0},
		{"the place 0 has another key", trace, 0, 31, 1},
		{"the place behind a use", trace, 1, 7, 3},
		{"the place of a use", trace, 3, 7, 3},
		{"two uses, one behind the other", trace, 4, 7, 4},
		{"no use any more", trace, 5, 7, 6},
		{"the least key is behind", trace, 3, 0, 6},
		{"the last place has the key", trace, 5, 31, 5},
		{"the last place from before", trace, 2, 31, 5},
		{"the length of the trace", trace, 6, 31, 6},
		{"a key that is not there", trace, 0, 8, 6},
		{"a key that is as great as the length of the trace", trace, 0, 6, 6},
		{"an empty trace", []int{}, 0, 0, 0},
		{"a nil trace", nil, 0, 31, 0},
		{"one key", []int{4}, 0, 4, 0},
		{"behind one key", []int{4}, 1, 4, 1},
		{"another key than the one", []int{4}, 0, 5, 1},
		{"the last key of the longest trace", last, 0, 23, 23},
		{"the last place of the longest trace", last, 23, 23, 23},
		{"a key before that place", last, 23, 22, 24},
		{"the length of the longest trace", last, 24, 23, 24},
	} {
		if next := impl.NextUse(x.trace, x.from, x.key); next != x.want {
			t.Errorf("%s: NextUse(%v, %d, %d) = %d, want %d", x.name, x.trace, x.from, x.key, next, x.want)
		}
	}
}

func TestBestHitsOfAllWaysToLeaveKeysOut(t *testing.T) {
	forRuns(func(trace []int, room int) {
		if len(distinct(trace)) > 9 {
			return
		}
		if hits := impl.BestHits(trace, room); hits != mostHits(trace, room) {
			t.Errorf("BestHits(%v, %d) = %d, want %d", trace, room, hits, mostHits(trace, room))
		}
	})
}

func TestBestHitsAreUsesThatAreKept(t *testing.T) {
	forRuns(func(trace []int, room int) {
		if hits := impl.BestHits(trace, room); hits != keptUses(trace, room) {
			t.Errorf("BestHits(%v, %d) = %d, want %d", trace, room, hits, keptUses(trace, room))
		}
	})
}

// hitsOf returns the hits of a policy, without its cache.
func hitsOf[Cache any](run func(t []int, room int) (Cache, int)) func(t []int, room int) int {
	return func(t []int, room int) int {
		_, hits := run(t, room)
		return hits
	}
}

func TestP053NobodyIsBetterThanTheBest(t *testing.T) {
	for name, hits := range map[string]func(t []int, room int) int{
		"RunRecent": hitsOf(impl.RunRecent),
		"RunFirst":  hitsOf(impl.RunFirst),
		"RunClock":  hitsOf(impl.RunClock),
		"RunOften":  hitsOf(impl.RunOften),
		"RunLists":  hitsOf(impl.RunLists),
	} {
		forRuns(func(trace []int, room int) {
			if best := impl.BestHits(trace, room); hits(trace, room) < 0 || best < hits(trace, room) {
				t.Errorf("BestHits(%v, %d) = %d, and %s has %d", trace, room, best, name, hits(trace, room))
			}
		})
	}
}

func TestP143SegmentsAreNoBetterThanTheBest(t *testing.T) {
	forRuns(func(trace []int, room int) {
		best := impl.BestHits(trace, room)
		for trial := 1; trial < room; trial++ {
			if _, hits := impl.RunSegments(trace, trial, room-trial); hits < 0 || hits > best {
				t.Errorf("BestHits(%v, %d) = %d, and RunSegments with %d and %d has %d", trace, room, best, trial, room-trial, hits)
			}
		}
	})
}

func TestP054NewKeysAreNeverThere(t *testing.T) {
	forRuns(func(trace []int, room int) {
		hits, keys := impl.BestHits(trace, room), impl.NewKeys(trace)
		if hits < 0 || keys < 0 || hits > len(trace)-keys || keys <= room && hits != len(trace)-keys {
			t.Errorf("BestHits(%v, %d) = %d, NewKeys = %d", trace, room, hits, keys)
		}
	})
}

func TestP055MoreRoomIsBetter(t *testing.T) {
	forRuns(func(trace []int, room int) {
		hits := impl.BestHits(trace, room)
		for larger := room + 1; larger <= 8; larger++ {
			if more := impl.BestHits(trace, larger); hits < 0 || more < hits {
				t.Errorf("BestHits of %v: %d for %d, %d for %d", trace, hits, room, more, larger)
			}
		}
		if len(trace) == 0 {
			return
		}
		if before := impl.BestHits(trace[:len(trace)-1], room); before < 0 || before > hits || before < hits-1 {
			t.Errorf("BestHits(%v, %d) = %d, and %d without the last key", trace, room, hits, before)
		}
	})
}

func TestP056TheBestPolicyDoesNotKnowTheDirection(t *testing.T) {
	forRuns(func(trace []int, room int) {
		forth, back := impl.BestHits(trace, room), impl.BestHits(reversed(trace), room)
		if forth < 0 || forth != back {
			t.Errorf("BestHits(%v, %d) = %d, and %d in reverse order", trace, room, forth, back)
		}
	})
}

func TestP057NewKeysAreCountedOnce(t *testing.T) {
	for _, trace := range knownTraces() {
		keys := newKeys(t, trace)
		if len(trace) == 24 {
			continue
		}
		for key := 0; key <= 31; key++ {
			want := keys
			if !slices.Contains(trace, key) {
				want++
			}
			for place := 0; place <= len(trace); place++ {
				longer := slices.Insert(slices.Clone(trace), place, key)
				if n := impl.NewKeys(longer); n != want {
					t.Errorf("NewKeys(%v) = %d, and NewKeys(%v) = %d", trace, keys, longer, n)
				}
			}
		}
	}
}

func TestNewKeysCases(t *testing.T) {
	for _, x := range []struct {
		trace []int
		want  int
	}{
		{nil, 0}, {[]int{}, 0}, {[]int{0}, 1}, {[]int{31}, 1}, {[]int{3, 3}, 1}, {[]int{3, 0}, 2}, {[]int{0, 31, 0}, 2}, {[]int{1, 2, 3, 1, 2}, 3},
		{make([]int, 24), 1}, {longest(), 24}, {loop(23, 24), 23},
	} {
		if n := impl.NewKeys(x.trace); n != x.want {
			t.Errorf("NewKeys(%v) = %d, want %d", x.trace, n, x.want)
		}
	}
}

func TestP152PartsHaveFewerKeys(t *testing.T) {
	for _, trace := range knownTraces() {
		all := impl.NewKeys(trace)
		for place := 0; place <= len(trace); place++ {
			a, b := impl.NewKeys(trace[:place]), impl.NewKeys(trace[place:])
			if a < 0 || b < 0 || all > a+b || all < max(a, b) {
				t.Errorf("NewKeys(%v) = %d, and %d and %d of its parts at %d", trace, all, a, b, place)
			}
		}
	}
}

func TestP058NobodyMissesLessThanTheBest(t *testing.T) {
	forRuns(func(trace []int, room int) {
		over := impl.MissesOver(trace, room)
		if over < 0 || newKeys(t, trace) <= room && over != 0 {
			t.Errorf("MissesOver(%v, %d) = %d", trace, room, over)
		}
		if _, hits := impl.RunRecent(trace, room); over != keptUses(trace, room)-hits {
			t.Errorf("MissesOver(%v, %d) = %d, want %d less %d", trace, room, over, keptUses(trace, room), hits)
		}
	})
}

func TestP153LoopsAreBadForRecentKeys(t *testing.T) {
	for room := 1; room <= 8; room++ {
		for length := 0; length <= 24; length++ {
			trace := loopTrace(t, room+1, length)
			over, best := impl.MissesOver(trace, room), impl.BestHits(trace, room)
			if over < 0 || over != best || over == 0 && room > 1 && length > room+1 {
				t.Errorf("MissesOver(%v, %d) = %d, BestHits = %d", trace, room, over, best)
			}
		}
	}
}

func TestBestHitsCases(t *testing.T) {
	for _, x := range []struct {
		name  string
		trace []int
		room  int
		hits  int
		over  int
	}{
		{"an empty trace", []int{}, 1, 0, 0},
		{"a nil trace, the largest room", nil, 8, 0, 0},
		{"one key", []int{31}, 1, 0, 0},
		{"one key twice", []int{31, 31}, 1, 1, 0},
		{"two keys, room for one", []int{0, 31}, 1, 0, 0},
		{"a key that comes back cannot stay where another one must be put", []int{1, 2, 1}, 1, 0, 0},
		{"one place is left", []int{1, 2, 1}, 2, 1, 0},
		{"the cache is just full", []int{1, 2, 1, 2}, 2, 2, 0},
		{"the first key comes again, the second one does not", []int{1, 2, 3, 1}, 2, 1, 1},
		{"the second key comes again, the first one does not", []int{1, 2, 3, 2}, 2, 1, 0},
		{"both keys come again, the first one first", []int{1, 2, 3, 1, 2}, 2, 1, 1},
		{"both keys come again, the second one first", []int{1, 2, 3, 2, 1}, 2, 1, 0},
		{"no key comes again", []int{1, 2, 3, 4, 5}, 2, 0, 0},
		{"two keys never come again, the third one does", []int{1, 2, 3, 4, 3}, 3, 1, 0},
		{"two keys never come again, both leave", []int{1, 2, 3, 4, 5, 3, 4, 5}, 3, 3, 0},
		{"two keys never come again, the first one of the cache comes", []int{5, 1, 2, 3, 4, 5, 3, 4}, 3, 3, 1},
		{"all keys of the cache never come again", []int{1, 2, 3, 3, 4, 4}, 2, 2, 0},
		{"a hit changes what is used last", []int{1, 2, 1, 3, 2, 1, 3}, 2, 3, 2},
		{"room for all but one", []int{1, 2, 3, 4, 1, 2, 3, 4}, 3, 3, 3},
		{"room for all", []int{1, 2, 3, 4, 1, 2, 3, 4}, 4, 4, 0},
		{"one key 24 times", make([]int, 24), 1, 23, 0},
		{"24 different keys", longest(), 8, 0, 0},
		{"the longest loop of one key more than the largest room", loop(9, 24), 8, 14, 14},
		{"the longest loop of as many keys as the largest room", loop(8, 24), 8, 16, 0},
		{"the longest loop of two keys, room for one", loop(2, 24), 1, 0, 0},
		{"a long loop, a small room", loop(12, 24), 2, 2, 2},
	} {
		if hits, over := impl.BestHits(x.trace, x.room), impl.MissesOver(x.trace, x.room); hits != x.hits || over != x.over {
			t.Errorf("%s: BestHits(%v, %d) = %d, MissesOver = %d, want %d, %d", x.name, x.trace, x.room, hits, over, x.hits, x.over)
		}
	}
}

// badPlaces are numbers that are no places of a trace of a length, nor the one behind.
func badPlaces(length int) []int {
	return []int{-1, -2, -length - 1, length + 1, length + 2, length + 100, math.MaxInt, math.MinInt}
}

func TestNextUseOtherArguments(t *testing.T) {
	check := func(trace []int, from int, key int) {
		t.Helper()
		if next := impl.NextUse(trace, from, key); next != -1 {
			t.Errorf("NextUse(%v, %d, %d) = %d", trace, from, key, next)
		}
	}
	for _, trace := range badTraces() {
		for _, from := range []int{0, 1, len(trace), len(trace) + 1, -1} {
			for _, key := range []int{0, 1, 31, 32, -1} {
				check(trace, from, key)
			}
		}
	}
	for _, trace := range traces() {
		for _, from := range badPlaces(len(trace)) {
			for _, key := range []int{0, 1, 31, 32, -1} {
				check(trace, from, key)
			}
		}
		for _, key := range badKeys() {
			for from := -1; from <= len(trace)+1; from++ {
				check(trace, from, key)
			}
		}
	}
}

func TestBestOtherArguments(t *testing.T) {
	forBadRuns(func(trace []int, room int) {
		if hits, over := impl.BestHits(trace, room), impl.MissesOver(trace, room); hits != -1 || over != -1 {
			t.Errorf("BestHits(%v, %d) = %d, MissesOver = %d", trace, room, hits, over)
		}
	})
	for _, trace := range traces() {
		for _, room := range badRooms() {
			if hits, over := impl.BestHits(trace, room), impl.MissesOver(trace, room); hits != -1 || over != -1 {
				t.Errorf("BestHits(%v, %d) = %d, MissesOver = %d", trace, room, hits, over)
			}
		}
	}
	for _, trace := range badTraces() {
		if n := impl.NewKeys(trace); n != -1 {
			t.Errorf("NewKeys(%v) = %d", trace, n)
		}
	}
}

func TestTheBestIsApart(t *testing.T) {
	for _, trace := range append(knownTraces(), badTraces()...) {
		for _, n := range []int{0, 1, 2, 3, 8, 9} {
			checkApart(t, "NextUse", trace, func(list []int) []int { return []int{impl.NextUse(list, n, 1)} })
			checkApart(t, "BestHits", trace, func(list []int) []int { return []int{impl.BestHits(list, n)} })
			checkApart(t, "MissesOver", trace, func(list []int) []int { return []int{impl.MissesOver(list, n)} })
		}
		checkApart(t, "NewKeys", trace, func(list []int) []int { return []int{impl.NewKeys(list)} })
	}
}
