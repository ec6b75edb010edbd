package tests

import (
	"math"
	"slices"
	"testing"

	"loop.example/cacheengine/impl"
)

// entryCache is a valid list of entries and its room.
type entryCache struct {
	list []impl.Entry
	room int
}

// entryCaches are valid entries of all rooms, from none to as many as the room tells, with equal, small, great and mixed counts.
func entryCaches() []entryCache {
	d := &dice{5}
	counts := []func() int{
		func() int { return 1 },
		func() int { return impl.MaxCount },
		func() int { return 7 },
		func() int { return 1 + d.upTo(1) },
		func() int { return impl.MaxCount - d.upTo(1) },
		func() int { return 1 + d.upTo(2) },
		func() int { return 1 + d.upTo(99) },
	}
	out := []entryCache{}
	for room := 1; room <= 8; room++ {
		for n := 0; n <= room; n++ {
			for _, count := range counts {
				for _, latest := range []int{9, 999, 1000} {
					out = append(out, entryCache{entriesOf(d, n, latest, count), room})
				}
			}
		}
	}
	return out
}

// entriesOf returns entries with different keys, and times in any order up to the latest one, which is there in half of the lists.
func entriesOf(d *dice, n int, latest int, count func() int) []impl.Entry {
	times := d.keys(n, latest)
	if n > 0 && d.upTo(1) == 0 && !slices.Contains(times, latest) {
		times[d.upTo(n-1)] = latest
	}
	list := []impl.Entry{}
	for i, key := range d.keys(n, 31) {
		list = append(list, impl.Entry{Key: key, Count: count(), Last: times[i]})
	}
	return list
}

// forUses calls a test with all entries for which there is a later time, with keys that are there and keys that are not, and with the first and the last time.
func forUses(test func(c entryCache, key int, now int)) {
	for _, c := range entryCaches() {
		first := lastUse(c.list) + 1
		for _, now := range slices.Compact([]int{first, 1000}) {
			for _, key := range keysToUse(entryKeys(c.list)) {
				if first <= 1000 {
					test(c, key, now)
				}
			}
		}
	}
}

// entries returns entries of a key, a count and a time each.
func entries(rows ...[3]int) []impl.Entry {
	list := []impl.Entry{}
	for _, row := range rows {
		list = append(list, impl.Entry{Key: row[0], Count: row[1], Last: row[2]})
	}
	return list
}

// lastUse returns the greatest time of a list, or -1 if there is none.
func lastUse(list []impl.Entry) int {
	last := -1
	for _, e := range list {
		last = max(last, e.Last)
	}
	return last
}

// entryKeys returns the keys of entries, in order.
func entryKeys(list []impl.Entry) []int {
	out := []int{}
	for _, e := range list {
		out = append(out, e.Key)
	}
	return out
}

// entryOf returns the entry of a list with a key, or the zero value.
func entryOf(list []impl.Entry, key int) impl.Entry {
	for _, e := range list {
		if e.Key == key {
			return e
		}
	}
	return impl.Entry{}
}

// rarestOf returns the key of the entry to which no other one is preferred: it compares each with all others. The list is not empty.
func rarestOf(list []impl.Entry) int {
	for _, e := range list {
		if !slices.ContainsFunc(list, func(other impl.Entry) bool {
			return other.Count < e.Count || other.Count == e.Count && other.Last < e.Last
		}) {
			return e.Key
		}
	}
	panic("no entry is the rarest one")
}

// dropEntry returns entries without that of a key.
func dropEntry(list []impl.Entry, key int) []impl.Entry {
	return slices.DeleteFunc(slices.Clone(list), func(e impl.Entry) bool { return e.Key == key })
}

// entriesAfter returns what UseOften should return.
func entriesAfter(c entryCache, key int, now int) ([]impl.Entry, bool) {
	out := slices.Clone(c.list)
	if place := slices.Index(entryKeys(out), key); place >= 0 {
		if out[place].Count != 100 {
			out[place].Count++
		}
		out[place].Last = now
		return out, true
	}
	if len(out) == c.room {
		out = dropEntry(out, rarestOf(out))
	}
	return append(out, impl.Entry{Key: key, Count: 1, Last: now}), false
}

// badEntries are entries with a field out of its limits, with a key or a time twice, too many of them, or no room.
func badEntries() []entryCache {
	good := impl.Entry{Key: 5, Count: 1, Last: 50}
	out := []entryCache{}
	add := func(e impl.Entry) {
		out = append(out, entryCache{[]impl.Entry{e}, 1}, entryCache{[]impl.Entry{e, good}, 2}, entryCache{[]impl.Entry{good, e}, 8})
	}
	for _, key := range badKeys() {
		add(impl.Entry{Key: key, Count: 1, Last: 1})
	}
	for _, count := range []int{0, -1, -100, 101, 102, 1000, math.MaxInt, math.MinInt} {
		add(impl.Entry{Key: 1, Count: count, Last: 1})
	}
	for _, last := range badTimes() {
		add(impl.Entry{Key: 1, Count: 1, Last: last})
	}
	for _, c := range entryCaches() {
		later := lastUse(c.list) + 1
		if len(c.list) == 0 || len(c.list) == c.room || later > 1000 {
			continue
		}
		first, last := c.list[0], c.list[len(c.list)-1]
		sameKey := impl.Entry{Key: first.Key, Count: 1, Last: later}
		sameTime := impl.Entry{Key: keyOutside(entryKeys(c.list)), Count: 1, Last: last.Last}
		out = append(out, entryCache{append(slices.Clone(c.list), sameKey), c.room}, entryCache{append([]impl.Entry{sameTime}, c.list...), c.room})
	}
	for n := 0; n <= 10; n++ {
		list := manyEntries(n)
		for room := 1; room <= min(8, n-1); room++ {
			out = append(out, entryCache{list, room})
		}
		for _, room := range badRooms() {
			out = append(out, entryCache{list, room})
		}
	}
	return append(out, entryCache{nil, 0}, entryCache{manyEntries(32), 8}, entryCache{manyEntries(32), 32})
}

// manyEntries returns n entries with different keys and times.
func manyEntries(n int) []impl.Entry {
	list := []impl.Entry{}
	for i := range n {
		list = append(list, impl.Entry{Key: i, Count: 1 + i, Last: 40 - i})
	}
	return list
}

// badTimes are numbers that are no times.
func badTimes() []int {
	return []int{-1, -2, -1000, 1001, 1002, math.MaxInt, math.MinInt}
}

// forBadRuns calls a test with a trace and a room of which at least one is not valid.
func forBadRuns(test func(trace []int, room int)) {
	for _, trace := range badTraces() {
		for _, room := range []int{0, 1, 2, 8, 9} {
			test(trace, room)
		}
	}
	for _, room := range badRooms() {
		for _, trace := range [][]int{nil, {}, {1}, {1, 2, 1}} {
			test(trace, room)
		}
	}
}

func TestFrequencyConstants(t *testing.T) {
	if impl.MaxCount != 100 || impl.MaxTime != 1000 {
		t.Errorf("MaxCount = %d, MaxTime = %d", impl.MaxCount, impl.MaxTime)
	}
}

func TestP035EntriesCanBeLeftOut(t *testing.T) {
	for _, c := range entryCaches() {
		if !impl.ValidEntries(c.list, c.room) {
			t.Errorf("%v is not valid for %d", c.list, c.room)
		}
		for _, e := range c.list {
			if list := dropEntry(c.list, e.Key); !impl.ValidEntries(list, c.room) || !impl.ValidEntries(list, max(len(list), 1)) {
				t.Errorf("%v is not valid for %d", list, c.room)
			}
		}
	}
}

func TestValidEntriesLimits(t *testing.T) {
	for _, list := range [][]impl.Entry{nil, {}, {{Key: 0, Count: 1, Last: 0}}, {{Key: 31, Count: 100, Last: 1000}}, {{Key: 0, Count: 100, Last: 1000}, {Key: 31, Count: 100, Last: 0}}} {
		for room := max(len(list), 1); room <= 8; room++ {
			if !impl.ValidEntries(list, room) {
				t.Errorf("%v is not valid for %d", list, room)
			}
		}
	}
	for n := 0; n <= 10; n++ {
		for room := -1; room <= 10; room++ {
			if impl.ValidEntries(manyEntries(n), room) != (1 <= room && room <= 8 && n <= room) {
				t.Errorf("ValidEntries of %d entries, with room for %d", n, room)
			}
		}
	}
	for _, c := range badEntries() {
		if impl.ValidEntries(c.list, c.room) {
			t.Errorf("%v is valid for %d", c.list, c.room)
		}
	}
}

func TestEntriesDiffer(t *testing.T) {
	for first := range 8 {
		for second := range 8 {
			keys, times := manyEntries(8), manyEntries(8)
			keys[first].Key = keys[second].Key
			times[first].Last = times[second].Last
			if impl.ValidEntries(keys, 8) != (first == second) || impl.ValidEntries(times, 8) != (first == second) {
				t.Errorf("ValidEntries of the same key or time at %d and %d", first, second)
			}
		}
	}
}

func TestUseOften(t *testing.T) {
	forUses(func(c entryCache, key int, now int) {
		out, hit := impl.UseOften(c.list, c.room, key, now)
		want, there := entriesAfter(c, key, now)
		if !impl.ValidEntries(out, c.room) || !slices.Equal(out, want) || hit != there {
			t.Errorf("UseOften(%v, %d, %d, %d) = %v, %t, want %v, %t", c.list, c.room, key, now, out, hit, want, there)
		}
	})
}

func TestP036UsedKeysCountMore(t *testing.T) {
	forUses(func(c entryCache, key int, now int) {
		out, hit := impl.UseOften(c.list, c.room, key, now)
		before := entryOf(c.list, key)
		if after := entryOf(out, key); after != (impl.Entry{Key: key, Count: min(before.Count+1, 100), Last: now}) || hit != (before.Count > 0) {
			t.Errorf("UseOften(%v, %d, %d, %d) = %v, %t", c.list, c.room, key, now, out, hit)
		}
	})
}

func TestP037OnlyTheRarestKeyIsPushedOut(t *testing.T) {
	forUses(func(c entryCache, key int, now int) {
		out, hit := impl.UseOften(c.list, c.room, key, now)
		want := dropEntry(c.list, key)
		if len(c.list) == c.room && len(want) == len(c.list) {
			want = dropEntry(want, impl.RarestKey(c.list, c.room))
		}
		if others := dropEntry(out, key); !slices.Equal(others, want) || len(out) != len(want)+1 || hit && len(out) != len(c.list) {
			t.Errorf("UseOften(%v, %d, %d, %d) = %v, want %v and the key", c.list, c.room, key, now, out, want)
		}
	})
}

func TestP038TracesRunKeyByKeyAlsoByFrequency(t *testing.T) {
	for _, trace := range traces() {
		for room := 1; room <= 8; room++ {
			out, hits := impl.RunOften(trace, room)
			want, before, hit := []impl.Entry{}, 0, false
			if last := len(trace) - 1; last >= 0 {
				want, before = impl.RunOften(trace[:last], room)
				want, hit = impl.UseOften(want, room, trace[last], last)
			}
			if hit {
				before++
			}
			if !impl.ValidEntries(out, room) || !slices.Equal(out, want) || hits != before || lastUse(out) != len(trace)-1 {
				t.Errorf("RunOften(%v, %d) = %v, %d, want %v, %d", trace, room, out, hits, want, before)
			}
		}
	}
}

func TestP039KeysThatNeverLeftAreCountedRightly(t *testing.T) {
	for _, trace := range traces() {
		keys := distinct(trace)
		for room := max(newKeys(t, trace), 1); room <= 8; room++ {
			out, hits := impl.RunOften(trace, room)
			if !slices.Equal(entryKeys(out), keys) || hits != len(trace)-len(keys) {
				t.Errorf("RunOften(%v, %d) = %v, %d", trace, room, out, hits)
			}
			for _, e := range out {
				if e.Count != len(trace)-len(without(trace, e.Key)) {
					t.Errorf("RunOften(%v, %d) = %v", trace, room, out)
				}
			}
		}
	}
}

func TestP040AgedEntriesKeepTheirKeys(t *testing.T) {
	for _, c := range entryCaches() {
		out := impl.AgeEntries(c.list, c.room)
		if !impl.ValidEntries(out, c.room) || len(out) != len(c.list) {
			t.Fatalf("AgeEntries(%v, %d) = %v", c.list, c.room, out)
		}
		for i, e := range c.list {
			half := 0
			for half+half < e.Count {
				half++
			}
			if out[i] != (impl.Entry{Key: e.Key, Count: half, Last: e.Last}) {
				t.Errorf("AgeEntries(%v, %d) = %v", c.list, c.room, out)
			}
		}
	}
	for count, half := range map[int]int{1: 1, 2: 1, 3: 2, 4: 2, 5: 3, 99: 50, 100: 50} {
		if out := impl.AgeEntries([]impl.Entry{{Key: 31, Count: count, Last: 1000}}, 1); len(out) != 1 || out[0] != (impl.Entry{Key: 31, Count: half, Last: 1000}) {
			t.Errorf("AgeEntries of the count %d = %v", count, out)
		}
	}
}

func TestP041EverythingAgesTo1(t *testing.T) {
	for _, c := range entryCaches() {
		aged := c.list
		for range 7 {
			aged = impl.AgeEntries(aged, c.room)
		}
		for _, e := range aged {
			if e.Count != 1 {
				t.Errorf("AgeEntries(%v, %d), seven times = %v", c.list, c.room, aged)
			}
		}
		if len(aged) != len(c.list) || !slices.Equal(impl.AgeEntries(aged, c.room), aged) {
			t.Errorf("AgeEntries(%v, %d), seven times = %v", c.list, c.room, aged)
		}
	}
	full := []impl.Entry{{Key: 0, Count: 100, Last: 0}}
	for _, want := range []int{50, 25, 13, 7, 4, 2, 1, 1} {
		if full = impl.AgeEntries(full, 1); len(full) != 1 || full[0].Count != want {
			t.Fatalf("AgeEntries = %v, want the count %d", full, want)
		}
	}
}

func TestP042TheRarestKeyIsRarest(t *testing.T) {
	for _, c := range entryCaches() {
		if len(c.list) == 0 {
			continue
		}
		rarest := entryOf(c.list, impl.RarestKey(c.list, c.room))
		for _, e := range c.list {
			if rarest.Count == 0 || e.Count < rarest.Count || e.Count == rarest.Count && e.Last < rarest.Last {
				t.Errorf("RarestKey(%v, %d) = %d", c.list, c.room, impl.RarestKey(c.list, c.room))
			}
		}
	}
}

func TestRarestKeyIsLeftOutNext(t *testing.T) {
	for _, c := range entryCaches() {
		key, now := keyOutside(entryKeys(c.list)), lastUse(c.list)+1
		if len(c.list) < c.room || now > 1000 {
			continue
		}
		out, _ := impl.UseOften(c.list, c.room, key, now)
		if rarest := impl.RarestKey(c.list, c.room); slices.Contains(entryKeys(out), rarest) || !slices.Contains(entryKeys(c.list), rarest) {
			t.Errorf("RarestKey(%v, %d) = %d, but UseOften leaves %v", c.list, c.room, rarest, out)
		}
	}
	for _, room := range []int{2, 3, 8} {
		if rarest := impl.RarestKey([]impl.Entry{{Key: 4, Count: 9, Last: 1}, {Key: 7, Count: 2, Last: 8}}, room); rarest != 7 {
			t.Errorf("RarestKey with the room %d = %d", room, rarest)
		}
	}
}

func TestP043AgeLeavesTheOrderOfWhatIsRare(t *testing.T) {
	for _, c := range entryCaches() {
		aged := impl.AgeEntries(c.list, c.room)
		if len(c.list) == 0 {
			continue
		}
		before := entryOf(aged, impl.RarestKey(c.list, c.room))
		behind := entryOf(aged, impl.RarestKey(aged, c.room))
		for _, e := range aged {
			if before.Count == 0 || behind.Count == 0 || e.Count < before.Count || e.Count < behind.Count {
				t.Errorf("RarestKey of %v = %v, and %v behind AgeEntries = %v", c.list, before, behind, aged)
			}
		}
	}
	// Counts that were different can be equal behind AgeEntries, so that the earlier key is the rarest one there.
	list := []impl.Entry{{Key: 1, Count: 3, Last: 9}, {Key: 2, Count: 4, Last: 5}}
	if impl.RarestKey(list, 2) != 1 || impl.RarestKey(impl.AgeEntries(list, 2), 2) != 2 {
		t.Errorf("RarestKey = %d, and %d behind AgeEntries", impl.RarestKey(list, 2), impl.RarestKey(impl.AgeEntries(list, 2), 2))
	}
}

func TestP145UsedKeysAreHitsByFrequencyToo(t *testing.T) {
	forUses(func(c entryCache, key int, now int) {
		once, _ := impl.UseOften(c.list, c.room, key, now)
		for _, later := range []int{now + 1, 1000, 1001} {
			twice, hit := impl.UseOften(once, c.room, key, later)
			want := impl.Entry{Key: key, Count: min(entryOf(once, key).Count+1, 100), Last: later}
			if later <= now || later > 1000 {
				want = impl.Entry{}
			}
			if hit != (want.Count > 0) || entryOf(twice, key) != want || hit && len(twice) != len(once) {
				t.Errorf("UseOften(%v, %d, %d, %d) = %v, and at %d %v, %t", c.list, c.room, key, now, once, later, twice, hit)
			}
		}
	})
}

func TestP146FrequenciesHitWhatComesAgain(t *testing.T) {
	for _, trace := range traces() {
		for room := 1; room <= 8; room++ {
			if _, hits := impl.RunOften(trace, room); hits < 0 || hits > len(trace)-newKeys(t, trace) {
				t.Errorf("RunOften(%v, %d) has %d hits", trace, room, hits)
			}
		}
	}
}

func TestUseOftenCases(t *testing.T) {
	for _, x := range []struct {
		name          string
		before, after []impl.Entry
		room          int
		key, now      int
		hit           bool
	}{
		{"equal counts: the least time, which is not the first entry", entries([3]int{1, 2, 9}, [3]int{2, 2, 4}, [3]int{3, 2, 6}), entries([3]int{1, 2, 9}, [3]int{3, 2, 6}, [3]int{7, 1, 10}), 3, 7, 10, false},
		{"equal counts and a greater one that is older", entries([3]int{1, 3, 0}, [3]int{2, 2, 8}, [3]int{3, 2, 5}), entries([3]int{1, 3, 0}, [3]int{2, 2, 8}, [3]int{7, 1, 9}), 3, 7, 9, false},
		{"the least count is the latest", entries([3]int{1, 3, 1}, [3]int{2, 2, 2}, [3]int{3, 1, 3}), entries([3]int{1, 3, 1}, [3]int{2, 2, 2}, [3]int{0, 1, 4}), 3, 0, 4, false},
		{"the rarest is the first", entries([3]int{31, 1, 0}, [3]int{2, 2, 2}), entries([3]int{2, 2, 2}, [3]int{30, 1, 3}), 2, 30, 3, false},
		{"one less than the room", entries([3]int{1, 1, 1}, [3]int{2, 1, 2}), entries([3]int{1, 1, 1}, [3]int{2, 1, 2}, [3]int{3, 1, 3}), 3, 3, 3, false},
		{"no entries at the time 0", nil, entries([3]int{31, 1, 0}), 1, 31, 0, false},
		{"the room 1", entries([3]int{5, 100, 999}), entries([3]int{6, 1, 1000}), 1, 6, 1000, false},
		{"the count becomes full", entries([3]int{1, 99, 4}, [3]int{2, 100, 5}), entries([3]int{1, 100, 6}, [3]int{2, 100, 5}), 2, 1, 6, true},
		{"the count is full", entries([3]int{1, 99, 4}, [3]int{2, 100, 5}), entries([3]int{1, 99, 4}, [3]int{2, 100, 1000}), 2, 2, 1000, true},
		{"the rarest key itself", entries([3]int{1, 1, 0}, [3]int{2, 5, 1}), entries([3]int{1, 2, 2}, [3]int{2, 5, 1}), 2, 1, 2, true},
	} {
		if out, hit := impl.UseOften(x.before, x.room, x.key, x.now); hit != x.hit || !slices.Equal(out, x.after) {
			t.Errorf("%s: UseOften(%v, %d, %d, %d) = %v, %t, want %v", x.name, x.before, x.room, x.key, x.now, out, hit, x.after)
		}
	}
	if out, hits := impl.RunOften([]int{1, 1, 2, 2, 3, 4, 3, 1}, 3); hits != 3 || !slices.Equal(out, entries([3]int{1, 3, 7}, [3]int{2, 2, 3}, [3]int{3, 1, 6})) {
		t.Errorf("RunOften = %v, %d", out, hits)
	}
}

func TestUseOftenOtherArguments(t *testing.T) {
	check := func(list []impl.Entry, room int, key int, now int) {
		t.Helper()
		if out, hit := impl.UseOften(list, room, key, now); hit || len(out) != 0 {
			t.Errorf("UseOften(%v, %d, %d, %d) = %v, %t", list, room, key, now, out, hit)
		}
	}
	for _, c := range badEntries() {
		for _, key := range []int{0, 1, 5, 31, 32} {
			check(c.list, c.room, key, 1000)
			check(c.list, c.room, key, 60)
		}
	}
	for _, c := range entryCaches() {
		last := lastUse(c.list)
		for _, key := range badKeys() {
			check(c.list, c.room, key, last+1)
			check(c.list, c.room, key, 1000)
		}
		for _, key := range keysToUse(entryKeys(c.list)) {
			for _, now := range badTimes() {
				check(c.list, c.room, key, now)
			}
			for _, e := range c.list {
				check(c.list, c.room, key, e.Last)
			}
			check(c.list, c.room, key, last)
			check(c.list, c.room, key, last-1)
		}
	}
}

func TestFrequenciesOtherArguments(t *testing.T) {
	for _, c := range badEntries() {
		if out := impl.AgeEntries(c.list, c.room); len(out) != 0 {
			t.Errorf("AgeEntries(%v, %d) = %v", c.list, c.room, out)
		}
		if key := impl.RarestKey(c.list, c.room); key != -1 {
			t.Errorf("RarestKey(%v, %d) = %d", c.list, c.room, key)
		}
	}
	for room := -1; room <= 10; room++ {
		for _, list := range [][]impl.Entry{nil, {}} {
			if impl.RarestKey(list, room) != -1 || len(impl.AgeEntries(list, room)) != 0 {
				t.Errorf("RarestKey(%v, %d) = %d", list, room, impl.RarestKey(list, room))
			}
		}
	}
	forBadRuns(func(trace []int, room int) {
		if out, hits := impl.RunOften(trace, room); hits != -1 || len(out) != 0 {
			t.Errorf("RunOften(%v, %d) = %v, %d", trace, room, out, hits)
		}
	})
	if out, hits := impl.RunOften(make([]int, 24), 1); hits != 23 || !slices.Equal(out, []impl.Entry{{Key: 0, Count: 24, Last: 23}}) {
		t.Errorf("RunOften of one key 24 times = %v, %d", out, hits)
	}
}

// markEntry returns an entry that is not valid.
func markEntry(n int) impl.Entry {
	return impl.Entry{Key: n, Count: n, Last: n}
}

func TestFrequenciesAreApart(t *testing.T) {
	use := func(room int, key int, now int) func(list []impl.Entry) []impl.Entry {
		return func(list []impl.Entry) []impl.Entry { out, _ := impl.UseOften(list, room, key, now); return out }
	}
	forUses(func(c entryCache, key int, now int) {
		checkApartOf(t, "UseOften", c.list, markEntry, markEntry, use(c.room, key, now))
	})
	for _, c := range append(entryCaches(), badEntries()...) {
		checkApartOf(t, "UseOften of no key", c.list, markEntry, markEntry, use(c.room, 32, 1000))
		checkApartOf(t, "UseOften of an old time", c.list, markEntry, markEntry, use(c.room, 1, lastUse(c.list)))
		checkApartOf(t, "AgeEntries", c.list, markEntry, markEntry, func(list []impl.Entry) []impl.Entry { return impl.AgeEntries(list, c.room) })
		checkApartOf(t, "RarestKey", c.list, markEntry, number, func(list []impl.Entry) []int { return []int{impl.RarestKey(list, c.room)} })
		checkApartOf(t, "ValidEntries", c.list, markEntry, number, func(list []impl.Entry) []int { impl.ValidEntries(list, c.room); return nil })
	}
	for _, trace := range append(traces(), badTraces()...) {
		for _, room := range []int{1, 3, 8, 9} {
			checkApartOf(t, "RunOften", trace, number, markEntry, func(list []int) []impl.Entry { out, _ := impl.RunOften(list, room); return out })
		}
	}
}
