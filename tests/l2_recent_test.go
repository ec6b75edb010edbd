package tests

import (
	"slices"
	"testing"

	"loop.example/cacheengine/impl"
)

// useFunc is UseRecent or UseFirst.
type useFunc func(list []int, room int, key int) ([]int, bool)

// runFunc is RunRecent or RunFirst.
type runFunc func(t []int, room int) ([]int, int)

// cache is a valid cache and a key that is used.
type cache struct {
	list []int
	room int
	key  int
}

// caches are valid caches of all rooms, from empty to full, each with keys that are there and keys that are not.
func caches() []cache {
	d := &dice{2}
	out := []cache{}
	for room := 1; room <= 8; room++ {
		for n := 0; n <= room; n++ {
			for _, most := range []int{8, 31} {
				list := d.keys(n, most)
				for key := range 32 {
					out = append(out, cache{list, room, key})
				}
			}
		}
	}
	return out
}

// traces are valid traces of all lengths, with few and with many keys, and loops.
func traces() [][]int {
	d := &dice{22}
	out := [][]int{nil, {}}
	for length := 0; length <= 24; length++ {
		for most := 0; most <= 31; most += 1 + most/3 {
			out = append(out, d.trace(length, most))
		}
	}
	for n := 1; n <= 10; n++ {
		out = append(out, loop(n, 24))
	}
	return out
}

// badTraces are traces that are not valid.
func badTraces() [][]int {
	out := [][]int{make([]int, 25), loop(9, 25), loop(3, 100)}
	for _, key := range badKeys() {
		out = append(out, []int{key}, []int{key, 1}, []int{1, key}, []int{1, key, 1})
	}
	return out
}

// badCache is a cache that is not valid.
type badCache struct {
	list []int
	room int
}

// badCaches are caches with a key that is no key, a key twice, too many keys, or no room.
func badCaches() []badCache {
	out := []badCache{
		{[]int{1, 1}, 2}, {[]int{1, 2, 1}, 3}, {[]int{1, 2, 2}, 8}, {[]int{0, 3, 31, 0}, 8}, {[]int{31, 31}, 8},
		{[]int{1, 2}, 1}, {[]int{1, 2, 3}, 2}, {loop(8, 8), 7}, {loop(9, 9), 8}, {loop(9, 9), 9}, {loop(24, 24), 8},
	}
	for _, key := range badKeys() {
		out = append(out, badCache{[]int{key}, 1}, badCache{[]int{key, 2}, 8}, badCache{[]int{2, key}, 8}, badCache{[]int{1, key, 2}, 3})
	}
	for _, room := range badRooms() {
		out = append(out, badCache{nil, room}, badCache{[]int{}, room}, badCache{[]int{1}, room}, badCache{[]int{1, 2, 3}, room})
	}
	return out
}

// lastDistinct returns the last different keys of a trace, the last one first, at most as many as the room tells.
func lastDistinct(trace []int, room int) []int {
	keys := distinct(reversed(trace))
	return keys[:min(len(keys), room)]
}

func TestRecentConstants(t *testing.T) {
	if impl.MaxTrace != 24 || impl.MaxRoom != 8 {
		t.Errorf("MaxTrace = %d, MaxRoom = %d", impl.MaxTrace, impl.MaxRoom)
	}
}

func TestP010TracesCanBeShorter(t *testing.T) {
	for _, trace := range traces() {
		if !impl.ValidTrace(trace) {
			t.Errorf("%v is not a valid trace", trace)
		}
		if len(trace) > 0 && (!impl.ValidTrace(trace[1:]) || !impl.ValidTrace(trace[:len(trace)-1])) {
			t.Errorf("%v cannot be shorter", trace)
		}
	}
}

func TestValidTraceLimits(t *testing.T) {
	longest := make([]int, 24)
	fill(longest, 31)
	if !impl.ValidTrace(nil) || !impl.ValidTrace([]int{}) || !impl.ValidTrace(longest) || !impl.ValidTrace([]int{0, 31, 0}) {
		t.Error("a valid trace is not valid")
	}
	if impl.ValidTrace(append(longest, 31)) {
		t.Error("a trace of 25 keys is valid")
	}
	for _, trace := range badTraces() {
		if impl.ValidTrace(trace) {
			t.Errorf("%v is a valid trace", trace)
		}
	}
	for place := range 24 {
		for _, key := range badKeys() {
			trace := make([]int, 24)
			trace[place] = key
			if impl.ValidTrace(trace) {
				t.Errorf("a trace with %d at %d is valid", key, place)
			}
		}
	}
}

func TestP011KeysAreDifferent(t *testing.T) {
	for _, c := range caches() {
		if !impl.ValidKeys(c.list, c.room) || !impl.ValidKeys(reversed(c.list), c.room) {
			t.Fatalf("%v is not valid for %d in both orders", c.list, c.room)
		}
		if len(c.list) == 0 {
			continue
		}
		twice := append(slices.Clone(c.list), c.list[0])
		if impl.ValidKeys(twice, c.room) || impl.ValidKeys(twice, 8) || impl.ValidKeys(reversed(twice), 8) {
			t.Errorf("%v is valid", twice)
		}
	}
}

func TestValidKeysLimits(t *testing.T) {
	for room := 1; room <= 8; room++ {
		for n := 0; n <= 10; n++ {
			if impl.ValidKeys(loop(n+1, n), room) != (n <= room) {
				t.Errorf("ValidKeys of %d keys, with room for %d", n, room)
			}
		}
	}
	for _, list := range [][]int{nil, {}, {0}, {31}, {31, 0}, {24, 25, 26, 27, 28, 29, 30, 31}} {
		if !impl.ValidKeys(list, 8) {
			t.Errorf("%v is not valid", list)
		}
	}
	for _, c := range badCaches() {
		if impl.ValidKeys(c.list, c.room) {
			t.Errorf("%v is valid for %d", c.list, c.room)
		}
	}
}

func TestP012UsedKeysAreFirst(t *testing.T) {
	for _, c := range caches() {
		out, hit := impl.UseRecent(c.list, c.room, c.key)
		if !impl.ValidKeys(out, c.room) || len(out) == 0 || out[0] != c.key {
			t.Fatalf("UseRecent(%v, %d, %d) = %v", c.list, c.room, c.key, out)
		}
		others := without(c.list, c.key)
		if !slices.Equal(out[1:], others[:min(len(others), c.room-1)]) {
			t.Errorf("UseRecent(%v, %d, %d) = %v", c.list, c.room, c.key, out)
		}
		if hit != slices.Contains(c.list, c.key) {
			t.Errorf("UseRecent(%v, %d, %d) = %t", c.list, c.room, c.key, hit)
		}
	}
}

func TestP013UsingTwiceIsUsingOnce(t *testing.T) {
	for _, c := range caches() {
		once, _ := impl.UseRecent(c.list, c.room, c.key)
		twice, hit := impl.UseRecent(once, c.room, c.key)
		if !hit || len(once) == 0 || !slices.Equal(twice, once) {
			t.Errorf("UseRecent(%v, %d, %d) = %v, and then %v, %t", c.list, c.room, c.key, once, twice, hit)
		}
	}
}

func TestP133KeysThatAreTherePushNobodyOut(t *testing.T) {
	for _, c := range caches() {
		for _, key := range c.list {
			out, hit := impl.UseRecent(c.list, c.room, key)
			if !hit || !slices.Equal(slices.Sorted(slices.Values(out)), slices.Sorted(slices.Values(c.list))) {
				t.Errorf("UseRecent(%v, %d, %d) = %v, %t", c.list, c.room, key, out, hit)
			}
		}
	}
}

func TestP134TheLastKeyIsPushedOut(t *testing.T) {
	for _, c := range caches() {
		if len(c.list) == 0 || slices.Contains(c.list, c.key) {
			continue
		}
		out, hit := impl.UseRecent(c.list, c.room, c.key)
		last := c.list[len(c.list)-1]
		if hit || slices.Contains(out, last) == (len(c.list) == c.room) {
			t.Errorf("UseRecent(%v, %d, %d) = %v, %t", c.list, c.room, c.key, out, hit)
		}
		for _, other := range without(c.list, last) {
			if !slices.Contains(out, other) {
				t.Errorf("UseRecent(%v, %d, %d) leaves out %d", c.list, c.room, c.key, other)
			}
		}
	}
}

func TestP014RecentKeysAreTheLastOnes(t *testing.T) {
	for _, trace := range traces() {
		for room := 1; room <= 8; room++ {
			if out, _ := impl.RunRecent(trace, room); !slices.Equal(out, lastDistinct(trace, room)) {
				t.Errorf("RunRecent(%v, %d) = %v, want %v", trace, room, out, lastDistinct(trace, room))
			}
		}
	}
}

func TestRunRecentHitsKeysThatAreThere(t *testing.T) {
	for _, trace := range traces() {
		for room := 1; room <= 8; room++ {
			want := 0
			for i, key := range trace {
				if slices.Contains(lastDistinct(trace[:i], room), key) {
					want++
				}
			}
			if _, hits := impl.RunRecent(trace, room); hits != want {
				t.Errorf("RunRecent(%v, %d) has %d hits, want %d", trace, room, hits, want)
			}
		}
	}
}

// checkKeyByKey fails if running a trace is not running it without its last key and then using that.
func checkKeyByKey(t *testing.T, name string, run runFunc, use useFunc) {
	t.Helper()
	for _, trace := range traces() {
		for room := 1; room <= 8; room++ {
			out, hits := run(trace, room)
			if len(trace) == 0 {
				if len(out) != 0 || hits != 0 {
					t.Fatalf("%s(%v, %d) = %v, %d", name, trace, room, out, hits)
				}
				continue
			}
			last := len(trace) - 1
			list, before := run(trace[:last], room)
			want, hit := use(list, room, trace[last])
			if hit {
				before++
			}
			if len(want) == 0 || !slices.Equal(out, want) || hits != before {
				t.Errorf("%s(%v, %d) = %v, %d, want %v, %d", name, trace, room, out, hits, want, before)
			}
		}
	}
}

func TestP015TracesRunKeyByKey(t *testing.T) {
	checkKeyByKey(t, "RunRecent", impl.RunRecent, impl.UseRecent)
}

func TestP019TracesRunKeyByKeyAlsoHere(t *testing.T) {
	checkKeyByKey(t, "RunFirst", impl.RunFirst, impl.UseFirst)
}

func TestP016MoreRoomKeepsMore(t *testing.T) {
	for _, trace := range traces() {
		for room := 1; room <= 8; room++ {
			small, few := impl.RunRecent(trace, room)
			for larger := room + 1; larger <= 8; larger++ {
				large, many := impl.RunRecent(trace, larger)
				if few < 0 || !begins(large, small) || many < few {
					t.Errorf("RunRecent of %v: %v, %d for %d, and %v, %d for %d", trace, small, few, room, large, many, larger)
				}
			}
		}
	}
}

func TestP135TracesThatFitAreThereTheSecondTime(t *testing.T) {
	for _, trace := range traces() {
		keys := newKeys(t, trace)
		twice := append(slices.Clone(trace), trace...)
		if len(twice) > 24 {
			continue
		}
		for room := max(keys, 1); room <= 8; room++ {
			_, once := impl.RunRecent(trace, room)
			_, both := impl.RunRecent(twice, room)
			if once != len(trace)-keys || both-once != len(trace) {
				t.Errorf("RunRecent of %v with %d: %d hits, and %d for twice", trace, room, once, both)
			}
		}
	}
}

func TestP017KeysThatAreThereStayInTheirPlaces(t *testing.T) {
	for _, c := range caches() {
		out, hit := impl.UseFirst(c.list, c.room, c.key)
		want := slices.Clone(c.list)
		if !slices.Contains(c.list, c.key) {
			want = append(want, c.key)
			want = want[max(0, len(want)-c.room):]
		}
		if !impl.ValidKeys(out, c.room) || !slices.Equal(out, want) || hit != slices.Contains(c.list, c.key) {
			t.Errorf("UseFirst(%v, %d, %d) = %v, %t", c.list, c.room, c.key, out, hit)
		}
	}
}

func TestP018KeysThatWerePutAreThere(t *testing.T) {
	for _, c := range caches() {
		once, _ := impl.UseFirst(c.list, c.room, c.key)
		twice, hit := impl.UseFirst(once, c.room, c.key)
		if !hit || len(once) == 0 || !slices.Equal(twice, once) {
			t.Errorf("UseFirst(%v, %d, %d) = %v, and then %v, %t", c.list, c.room, c.key, once, twice, hit)
		}
	}
}

func TestP136HitsDoNotRenewKeys(t *testing.T) {
	for _, c := range caches() {
		list := slices.Clone(c.list)
		for _, key := range append(slices.Clone(c.list), reversed(c.list)...) {
			out, hit := impl.UseFirst(list, c.room, key)
			if !hit || !slices.Equal(out, c.list) {
				t.Fatalf("UseFirst(%v, %d, %d) = %v, %t", list, c.room, key, out, hit)
			}
			list = out
		}
		if len(c.list) == c.room && !slices.Contains(c.list, c.key) {
			if out, _ := impl.UseFirst(list, c.room, c.key); slices.Contains(out, c.list[0]) {
				t.Errorf("UseFirst(%v, %d, %d) = %v keeps the first key", list, c.room, c.key, out)
			}
		}
	}
}

func TestRunFirstHitsKeysThatAreThere(t *testing.T) {
	for _, trace := range traces() {
		for room := 1; room <= 8; room++ {
			put, want := []int{}, 0
			for _, key := range trace {
				if slices.Contains(put[max(0, len(put)-room):], key) {
					want++
				} else {
					put = append(put, key)
				}
			}
			out, hits := impl.RunFirst(trace, room)
			if !slices.Equal(out, put[max(0, len(put)-room):]) || hits != want {
				t.Errorf("RunFirst(%v, %d) = %v, %d, want %d hits of %v", trace, room, out, hits, want, put)
			}
		}
	}
}

func TestP137FirstKeysAreKeysOfTheTrace(t *testing.T) {
	forRuns(func(trace []int, room int) {
		out, _ := impl.RunFirst(trace, room)
		if !impl.ValidKeys(out, room) || len(out) != min(newKeys(t, trace), room) || len(distinct(out)) != len(out) {
			t.Errorf("RunFirst(%v, %d) = %v", trace, room, out)
		}
		for _, key := range out {
			if !slices.Contains(trace, key) {
				t.Errorf("RunFirst(%v, %d) = %v: %d is no key of the trace", trace, room, out, key)
			}
		}
	})
}

func TestLoopsAroundTheRoom(t *testing.T) {
	for room := 1; room <= 8; room++ {
		for name, run := range map[string]runFunc{"RunRecent": impl.RunRecent, "RunFirst": impl.RunFirst} {
			if out, hits := run(loop(room+1, 24), room); hits != 0 || len(out) != room {
				t.Errorf("%s of a loop of %d keys with room %d = %v, %d", name, room+1, room, out, hits)
			}
			if out, hits := run(loop(room, 24), room); hits != 24-room || len(out) != room {
				t.Errorf("%s of a loop of %d keys with room %d = %v, %d", name, room, room, out, hits)
			}
		}
	}
	if out, _ := impl.RunRecent(loop(4, 24), 3); !slices.Equal(out, []int{3, 2, 1}) {
		t.Errorf("RunRecent of a loop = %v", out)
	}
	if out, _ := impl.RunFirst(loop(4, 24), 3); !slices.Equal(out, []int{1, 2, 3}) {
		t.Errorf("RunFirst of a loop = %v", out)
	}
}

func TestUseOfTheLargestKeyAndRoom(t *testing.T) {
	full := []int{31, 30, 29, 28, 27, 26, 25, 24}
	if out, hit := impl.UseRecent(full, 8, 0); hit || !slices.Equal(out, []int{0, 31, 30, 29, 28, 27, 26, 25}) {
		t.Errorf("UseRecent = %v, %t", out, hit)
	}
	if out, hit := impl.UseRecent(full, 8, 24); !hit || !slices.Equal(out, []int{24, 31, 30, 29, 28, 27, 26, 25}) {
		t.Errorf("UseRecent = %v, %t", out, hit)
	}
	if out, hit := impl.UseFirst(full, 8, 0); hit || !slices.Equal(out, []int{30, 29, 28, 27, 26, 25, 24, 0}) {
		t.Errorf("UseFirst = %v, %t", out, hit)
	}
	if out, hit := impl.UseFirst(full, 8, 31); !hit || !slices.Equal(out, full) {
		t.Errorf("UseFirst = %v, %t", out, hit)
	}
	for name, use := range map[string]useFunc{"UseRecent": impl.UseRecent, "UseFirst": impl.UseFirst} {
		if out, hit := use(nil, 1, 31); hit || !slices.Equal(out, []int{31}) {
			t.Errorf("%s of no keys = %v, %t", name, out, hit)
		}
		if out, hit := use([]int{31}, 1, 0); hit || !slices.Equal(out, []int{0}) {
			t.Errorf("%s with room 1 = %v, %t", name, out, hit)
		}
	}
}

func TestUseOtherArguments(t *testing.T) {
	for name, use := range map[string]useFunc{"UseRecent": impl.UseRecent, "UseFirst": impl.UseFirst} {
		for _, c := range badCaches() {
			for _, key := range []int{0, 1, 31, 32, -1} {
				if out, hit := use(c.list, c.room, key); len(out) != 0 || hit {
					t.Errorf("%s(%v, %d, %d) = %v, %t", name, c.list, c.room, key, out, hit)
				}
			}
		}
		for _, key := range badKeys() {
			for _, list := range [][]int{nil, {}, {1}, {1, 2}, {0, 31}} {
				if out, hit := use(list, 2, key); len(out) != 0 || hit {
					t.Errorf("%s(%v, 2, %d) = %v, %t", name, list, key, out, hit)
				}
			}
		}
	}
}

func TestRunOtherArguments(t *testing.T) {
	for name, run := range map[string]runFunc{"RunRecent": impl.RunRecent, "RunFirst": impl.RunFirst} {
		for _, trace := range badTraces() {
			for _, room := range []int{1, 8, 0, 9, -1} {
				if out, hits := run(trace, room); len(out) != 0 || hits != -1 {
					t.Errorf("%s(%v, %d) = %v, %d", name, trace, room, out, hits)
				}
			}
		}
		for _, room := range badRooms() {
			for _, trace := range [][]int{nil, {}, {1}, {1, 2, 1}} {
				if out, hits := run(trace, room); len(out) != 0 || hits != -1 {
					t.Errorf("%s(%v, %d) = %v, %d", name, trace, room, out, hits)
				}
			}
		}
		for _, room := range []int{1, 8} {
			if out, hits := run(nil, room); len(out) != 0 || hits != 0 {
				t.Errorf("%s(nil, %d) = %v, %d", name, room, out, hits)
			}
			if out, hits := run(make([]int, 24), room); !slices.Equal(out, []int{0}) || hits != 23 {
				t.Errorf("%s of one key 24 times with room %d = %v, %d", name, room, out, hits)
			}
		}
	}
}

func TestRecentKeysAreApart(t *testing.T) {
	for name, use := range map[string]useFunc{"UseRecent": impl.UseRecent, "UseFirst": impl.UseFirst} {
		for _, c := range caches() {
			checkApart(t, name, c.list, func(list []int) []int { out, _ := use(list, c.room, c.key); return out })
		}
		for _, c := range badCaches() {
			checkApart(t, name, c.list, func(list []int) []int { out, _ := use(list, c.room, 1); return out })
		}
		for _, key := range badKeys() {
			checkApart(t, name, []int{1, 2}, func(list []int) []int { out, _ := use(list, 3, key); return out })
		}
	}
	for name, run := range map[string]runFunc{"RunRecent": impl.RunRecent, "RunFirst": impl.RunFirst} {
		for _, trace := range append(traces(), badTraces()...) {
			for _, room := range []int{1, 3, 8, 9} {
				checkApart(t, name, trace, func(list []int) []int { out, _ := run(list, room); return out })
			}
		}
	}
	for _, list := range append(badTraces(), loop(24, 24), loop(8, 8), []int{2, 1, 1}) {
		checkApart(t, "ValidTrace", list, func(list []int) []int { impl.ValidTrace(list); return nil })
		checkApart(t, "ValidKeys", list, func(list []int) []int { impl.ValidKeys(list, 8); return nil })
	}
}
