package tests

import (
	"math"
	"slices"
	"testing"

	"loop.example/cacheengine/impl"
)

// memory returns a memory with a store, a room and lines.
func memory(store []int, room int, lines ...impl.Line) impl.Memory {
	return impl.Memory{Store: store, Lines: lines, Room: room}
}

// clean returns a line that is not dirty.
func clean(key int, value int) impl.Line { return impl.Line{Key: key, Value: value} }

// dirty returns a line that is dirty.
func dirty(key int, value int) impl.Line { return impl.Line{Key: key, Value: value, Dirty: true} }

// storeWith returns a store with values that tell their keys, but for some that are given as a key and a value each.
func storeWith(rows ...[2]int) []int {
	store := make([]int, 32)
	for key := range store {
		store[key] = 100 + key
	}
	for _, row := range rows {
		store[row[0]] = row[1]
	}
	return store
}

// value returns a value; the smallest one, the largest one and 0 are as frequent as all others together.
func (d *dice) value() int {
	return []int{-1000, 1000, 0, d.upTo(2000) - 1000, d.upTo(2000) - 1000, d.upTo(2000) - 1000}[d.upTo(5)]
}

// store returns a store with a value for each key.
func (d *dice) store() []int {
	store := make([]int, 32)
	for key := range store {
		store[key] = d.value()
	}
	return store
}

// memories are valid memories of all rooms, each of them without lines, with one, nearly full and full; of the lines none, all or some are dirty, some of these with the value of the store.
func memories() []impl.Memory {
	d := &dice{13}
	out := []impl.Memory{memory(make([]int, 32), 1), memory(make([]int, 32), 8, []impl.Line{}...), memory(times(32, -1000), 2), memory(times(32, 1000), 3, dirty(31, -1000))}
	for room := 1; room <= 8; room++ {
		for _, n := range fillings(room) {
			for _, isDirty := range []func() bool{
				func() bool { return false },
				func() bool { return true },
				func() bool { return d.upTo(1) == 0 },
				func() bool { return d.upTo(2) == 0 },
			} {
				for range 3 {
					m := memory(d.store(), room)
					for _, key := range d.keys(n, []int{15, 31}[d.upTo(1)]) {
						line := clean(key, m.Store[key])
						if isDirty() {
							line = dirty(key, []int{m.Store[key], d.value(), d.value()}[d.upTo(2)])
						}
						m.Lines = append(m.Lines, line)
					}
					out = append(out, m)
				}
			}
		}
	}
	return out
}

// keysOfLines returns the keys of all lines, in order.
func keysOfLines(lines []impl.Line) []int {
	out := []int{}
	for _, line := range lines {
		out = append(out, line.Key)
	}
	return out
}

// forMemories calls a test with all memories, and with keys that have lines and keys that have none.
func forMemories(test func(m impl.Memory, key int)) {
	for _, m := range memories() {
		for _, key := range keysToUse(keysOfLines(m.Lines)) {
			test(m, key)
		}
	}
}

// forWrites calls a test with all memories and keys, and with the smallest value, the largest one, that of the key, that of the store, and values beside them.
func forWrites(test func(m impl.Memory, key int, value int)) {
	forMemories(func(m impl.Memory, key int) {
		for _, value := range distinct([]int{-1000, -999, -1, 0, 1, 999, 1000, m.Store[key], valueIn(m, key), max(valueIn(m, key)-1, -1000), min(valueIn(m, key)+1, 1000)}) {
			test(m, key, value)
		}
	})
}

// placeOf returns the place of the line of a key, or -1.
func placeOf(m impl.Memory, key int) int {
	return slices.Index(keysOfLines(m.Lines), key)
}

// valueIn returns the value of a key.
func valueIn(m impl.Memory, key int) int {
	if place := placeOf(m, key); place >= 0 {
		return m.Lines[place].Value
	}
	return m.Store[key]
}

// valuesIn returns the values of all keys.
func valuesIn(m impl.Memory) []int {
	out := []int{}
	for key := range 32 {
		out = append(out, valueIn(m, key))
	}
	return out
}

// askedValues returns ValueOf all keys, and fails if there is none.
func askedValues(t *testing.T, m impl.Memory) []int {
	t.Helper()
	out := []int{}
	for key := range 32 {
		value, ok := impl.ValueOf(m, key)
		if !ok {
			t.Fatalf("ValueOf(%v, %d) is not there", m, key)
		}
		out = append(out, value)
	}
	return out
}

// dirtyIn returns the keys of all lines that are dirty, in order.
func dirtyIn(m impl.Memory) []int {
	return keysOfLines(slices.DeleteFunc(slices.Clone(m.Lines), func(line impl.Line) bool { return !line.Dirty }))
}

// sameMemory reports whether two memories are the same.
func sameMemory(a impl.Memory, b impl.Memory) bool {
	return a.Room == b.Room && slices.Equal(a.Store, b.Store) && slices.Equal(a.Lines, b.Lines)
}

// copyMemory returns a memory with lists of its own.
func copyMemory(m impl.Memory) impl.Memory {
	return memory(slices.Clone(m.Store), m.Room, slices.Clone(m.Lines)...)
}

// readAfter returns what ReadKey should return: it moves the line, or makes room first and then fetches the value.
func readAfter(m impl.Memory, key int) (impl.Memory, int) {
	m = copyMemory(m)
	if place := placeOf(m, key); place >= 0 {
		line := m.Lines[place]
		m.Lines = slices.Insert(slices.Delete(m.Lines, place, place+1), 0, line)
		return m, line.Value
	}
	if last := len(m.Lines) - 1; last+1 == m.Room {
		m.Store[m.Lines[last].Key] = m.Lines[last].Value
		m.Lines = m.Lines[:last]
	}
	m.Lines = slices.Insert(m.Lines, 0, clean(key, m.Store[key]))
	return m, m.Store[key]
}

// writeAfter returns what WriteKey should return: it reads the key, and then changes its line.
func writeAfter(m impl.Memory, key int, value int) impl.Memory {
	out, _ := readAfter(m, key)
	out.Lines[0].Value = value
	out.Lines[0].Dirty = true
	return out
}

// leftOutBy returns the key whose line is left out if a key is used, or -1.
func leftOutBy(m impl.Memory, key int) int {
	if placeOf(m, key) >= 0 || len(m.Lines) < m.Room {
		return -1
	}
	return m.Lines[m.Room-1].Key
}

// badValues are numbers that are no values.
func badValues() []int {
	return []int{-1001, -1002, 1001, 1002, 5000, -5000, math.MaxInt, math.MinInt, math.MinInt + 1}
}

// badStores are stores with a value too few, one too many, none, or a value that is none.
func badStores() [][]int {
	out := [][]int{nil, {}, {0}, make([]int, 31), make([]int, 33), make([]int, 64), storeWith()[1:], append(storeWith(), 0)}
	for _, value := range badValues() {
		for _, key := range []int{0, 1, 15, 30, 31} {
			out = append(out, storeWith([2]int{key, value}))
		}
	}
	return out
}

// badLines are lines that are not valid for storeWith() and a room.
func badLines() []impl.Memory {
	out := []impl.Memory{
		memory(storeWith(), 1, clean(0, 100), clean(1, 101)), memory(storeWith(), 2, dirty(0, 0), dirty(1, 1), dirty(2, 2)),
		memory(storeWith(), 8, clean(2, 102), clean(2, 102)), memory(storeWith(), 8, clean(2, 102), dirty(2, 7)), memory(storeWith(), 8, dirty(2, 7), dirty(2, 8)),
		memory(storeWith(), 8, dirty(2, 7), clean(3, 103), dirty(2, 7)),
	}
	for n := 1; n <= 8; n++ {
		for place := range n {
			change := func(line impl.Line) {
				m := memory(storeWith(), 8)
				for i := range n {
					m.Lines = append(m.Lines, []impl.Line{clean(9+i, 109+i), dirty(9+i, -i)}[i%2])
				}
				m.Lines[place] = line
				out = append(out, m)
			}
			for _, key := range badKeys() {
				change(clean(key, 0))
				change(dirty(key, 0))
			}
			for _, value := range badValues() {
				change(dirty(9+place, value))
				change(clean(9+place, value))
			}
			for _, value := range []int{-1000, 0, 108 + place, 110 + place, 1000, -109 - place} {
				change(clean(9+place, value))
			}
			for other := range n {
				if other != place {
					change(clean(9+other, 109+other))
					change(dirty(9+other, 5))
				}
			}
		}
	}
	return out
}

// badMemories are memories with a store, lines or a room that are not valid.
func badMemories() []impl.Memory {
	out := append(badLines(), impl.Memory{}, memory(storeWith(), 0), memory(nil, 3), memory(nil, 3, clean(0, 0)), memory(row(), 3, dirty(31, 0)))
	for _, store := range badStores() {
		for _, room := range []int{0, 1, 3, 8} {
			out = append(out, memory(store, room), memory(store, room, dirty(2, 2)), memory(store, room, dirty(31, 2)), memory(store, room, clean(1, 101)), memory(store, room, clean(31, 131)))
		}
	}
	for _, room := range badRooms() {
		out = append(out, memory(storeWith(), room), memory(storeWith(), room, clean(4, 104)), memory(storeWith(), room, dirty(4, 4), dirty(5, 5)))
	}
	for _, m := range memories() {
		for room := range len(m.Lines) {
			out = append(out, memory(m.Store, room, m.Lines...))
		}
		out = append(out, memory(m.Store[:31], m.Room, m.Lines...), memory(append(slices.Clone(m.Store), 0), m.Room, m.Lines...), memory(m.Store, 9, m.Lines...))
	}
	return out
}

func TestWriteConstants(t *testing.T) {
	if impl.MaxValue != 1000 {
		t.Errorf("MaxValue = %d", impl.MaxValue)
	}
}

func TestValidMemoryLimits(t *testing.T) {
	for _, m := range memories() {
		if !impl.ValidMemory(m) {
			t.Errorf("%v is not valid", m)
		}
	}
	for _, m := range badMemories() {
		if impl.ValidMemory(m) {
			t.Errorf("%v is valid", m)
		}
	}
	for length := range 40 {
		for room := -1; room <= 10; room++ {
			if impl.ValidMemory(memory(make([]int, length), room)) != (length == 32 && 1 <= room && room <= 8) {
				t.Errorf("ValidMemory of a store with %d values and the room %d", length, room)
			}
		}
	}
	for n := range 12 {
		for room := 1; room <= 8; room++ {
			m := memory(times(32, 5), room)
			for key := range n {
				m.Lines = append(m.Lines, clean(31-key, 5))
			}
			if impl.ValidMemory(m) != (n <= room) {
				t.Errorf("ValidMemory of %d lines and the room %d", n, room)
			}
		}
	}
}

func TestValidMemoryValues(t *testing.T) {
	for stored := -1002; stored <= 1002; stored++ {
		inLimits := -1000 <= stored && stored <= 1000
		for _, key := range []int{0, 7, 31} {
			store := storeWith([2]int{key, stored})
			for _, value := range []int{stored - 1, stored, stored + 1, -stored, 0} {
				valid := inLimits && -1000 <= value && value <= 1000
				if impl.ValidMemory(memory(store, 1, dirty(key, value))) != valid {
					t.Errorf("ValidMemory of the dirty value %d and %d in the store, is %t", value, stored, !valid)
				}
				if impl.ValidMemory(memory(store, 1, clean(key, value))) != (valid && value == stored) {
					t.Errorf("ValidMemory of the clean value %d and %d in the store", value, stored)
				}
			}
		}
	}
}

func TestReadKey(t *testing.T) {
	forMemories(func(m impl.Memory, key int) {
		want, wantValue := readAfter(m, key)
		if out, value, ok := impl.ReadKey(m, key); !ok || value != wantValue || !sameMemory(out, want) {
			t.Errorf("ReadKey(%v, %d) = %v, %d, %t, want %v, %d", m, key, out, value, ok, want, wantValue)
		}
	})
}

func TestWriteKey(t *testing.T) {
	forWrites(func(m impl.Memory, key int, value int) {
		want := writeAfter(m, key, value)
		if out, ok := impl.WriteKey(m, key, value); !ok || !sameMemory(out, want) {
			t.Errorf("WriteKey(%v, %d, %d) = %v, %t, want %v", m, key, value, out, ok, want)
		}
	})
}

func TestUsedMemoriesAreValid(t *testing.T) {
	forWrites(func(m impl.Memory, key int, value int) {
		read, _, ok := impl.ReadKey(m, key)
		if !ok || !impl.ValidMemory(read) || read.Room != m.Room {
			t.Errorf("ReadKey(%v, %d) = %v, %t", m, key, read, ok)
		}
		written, ok := impl.WriteKey(m, key, value)
		if !ok || !impl.ValidMemory(written) || written.Room != m.Room {
			t.Errorf("WriteKey(%v, %d, %d) = %v, %t", m, key, value, written, ok)
		}
	})
}

func TestP101FlushedMemoriesAreValid(t *testing.T) {
	for _, m := range memories() {
		out, ok := impl.FlushMemory(m)
		if keys := impl.DirtyKeys(out); !ok || !impl.ValidMemory(out) || len(keys) != 0 || len(dirtyIn(out)) != 0 || out.Room != m.Room {
			t.Errorf("FlushMemory(%v) = %v, %t with the DirtyKeys %v", m, out, ok, keys)
		}
	}
}

func TestP102ReadingChangesNoValue(t *testing.T) {
	forMemories(func(m impl.Memory, key int) {
		before := askedValues(t, m)
		out, value, ok := impl.ReadKey(m, key)
		if !ok || value != before[key] || !slices.Equal(askedValues(t, out), before) {
			t.Errorf("ReadKey(%v, %d) = %v, %d, %t", m, key, out, value, ok)
		}
	})
}

func TestP103ReadKeysAreFirst(t *testing.T) {
	forMemories(func(m impl.Memory, key int) {
		out, _, _ := impl.ReadKey(m, key)
		if len(out.Lines) == 0 || out.Lines[0].Key != key || len(out.Lines) > m.Room {
			t.Errorf("ReadKey(%v, %d) = %v", m, key, out)
		}
	})
}

func TestP104WrittenValuesAreRead(t *testing.T) {
	forWrites(func(m impl.Memory, key int, value int) {
		want := askedValues(t, m)
		want[key] = value
		out, ok := impl.WriteKey(m, key, value)
		if !ok || !slices.Equal(askedValues(t, out), want) {
			t.Errorf("WriteKey(%v, %d, %d) = %v, %t", m, key, value, out, ok)
		}
		if _, read, ok := impl.ReadKey(out, key); !ok || read != value {
			t.Errorf("ReadKey(%v, %d) = %d, %t, and %d was written", out, key, read, ok, value)
		}
	})
}

func TestP105TheLastValueCounts(t *testing.T) {
	forWrites(func(m impl.Memory, key int, value int) {
		for _, first := range []int{-1000, 0, m.Store[key], value, 1000} {
			once, ok := impl.WriteKey(m, key, value)
			before, _ := impl.WriteKey(m, key, first)
			if twice, okTwice := impl.WriteKey(before, key, value); !ok || !okTwice || !sameMemory(twice, once) {
				t.Errorf("WriteKey(%v, %d, %d) = %v, and behind %d %v", m, key, value, once, first, twice)
			}
		}
	})
}

func TestP106StoresAreWrittenLater(t *testing.T) {
	forWrites(func(m impl.Memory, key int, value int) {
		want := slices.Clone(m.Store)
		if gone := leftOutBy(m, key); gone >= 0 {
			want[gone] = valueIn(m, gone)
		}
		if out, ok := impl.WriteKey(m, key, value); !ok || !slices.Equal(out.Store, want) {
			t.Errorf("WriteKey(%v, %d, %d) = %v, %t", m, key, value, out, ok)
		}
	})
}

func TestP107FlushedValuesAreStored(t *testing.T) {
	for _, m := range memories() {
		out, ok := impl.FlushMemory(m)
		if !ok || !slices.Equal(out.Store, askedValues(t, m)) || !slices.Equal(out.Store, valuesIn(m)) {
			t.Errorf("FlushMemory(%v) = %v, %t", m, out, ok)
		}
		lines := []impl.Line{}
		for _, line := range m.Lines {
			lines = append(lines, clean(line.Key, line.Value))
		}
		if !slices.Equal(out.Lines, lines) {
			t.Errorf("FlushMemory(%v) has the lines %v", m, out.Lines)
		}
	}
}

func TestP108FlushingTwiceIsFlushingOnce(t *testing.T) {
	for _, m := range memories() {
		once, ok := impl.FlushMemory(m)
		if twice, okTwice := impl.FlushMemory(once); !ok || !okTwice || !sameMemory(twice, once) {
			t.Errorf("FlushMemory(%v) = %v, and then %v", m, once, twice)
		}
	}
}

func TestP109DirtyKeysMayDiffer(t *testing.T) {
	check := func(m impl.Memory) {
		t.Helper()
		keys := impl.DirtyKeys(m)
		for key, value := range askedValues(t, m) {
			if value != m.Store[key] && !slices.Contains(keys, key) {
				t.Errorf("DirtyKeys(%v) = %v, without %d", m, keys, key)
			}
		}
	}
	for _, m := range memories() {
		check(m)
	}
	forWrites(func(m impl.Memory, key int, value int) {
		out, _ := impl.WriteKey(m, key, value)
		check(out)
	})
}

func TestDirtyKeys(t *testing.T) {
	for _, m := range memories() {
		if keys := impl.DirtyKeys(m); !slices.Equal(keys, dirtyIn(m)) {
			t.Errorf("DirtyKeys(%v) = %v", m, keys)
		}
	}
	m := memory(storeWith(), 5, dirty(31, 0), clean(4, 104), dirty(0, 1000), dirty(7, 107), clean(9, 109))
	if keys := impl.DirtyKeys(m); !slices.Equal(keys, row(31, 0, 7)) {
		t.Errorf("DirtyKeys(%v) = %v", m, keys)
	}
}

func TestP110ValuesAreThoseOfLinesOrOfTheStore(t *testing.T) {
	for _, m := range memories() {
		for key := range 32 {
			if value, ok := impl.ValueOf(m, key); !ok || value != valueIn(m, key) {
				t.Errorf("ValueOf(%v, %d) = %d, %t", m, key, value, ok)
			}
		}
	}
	m := memory(storeWith(), 3, dirty(31, -1000), clean(4, 104), dirty(0, 1000))
	for _, x := range [][2]int{{31, -1000}, {4, 104}, {0, 1000}, {1, 101}, {30, 130}} {
		if value, ok := impl.ValueOf(m, x[0]); !ok || value != x[1] {
			t.Errorf("ValueOf(%v, %d) = %d, %t", m, x[0], value, ok)
		}
	}
}

func TestP169ReadingTwiceIsReadingOnce(t *testing.T) {
	forMemories(func(m impl.Memory, key int) {
		once, first, ok := impl.ReadKey(m, key)
		if twice, second, okTwice := impl.ReadKey(once, key); !ok || !okTwice || first != second || !sameMemory(twice, once) {
			t.Errorf("ReadKey(%v, %d) = %v, %d, and then %v, %d", m, key, once, first, twice, second)
		}
	})
}

func TestP170FlushingDoesNotMatterForValues(t *testing.T) {
	for _, m := range memories() {
		out, ok := impl.FlushMemory(m)
		if !ok || !slices.Equal(askedValues(t, out), askedValues(t, m)) {
			t.Errorf("FlushMemory(%v) = %v, %t", m, out, ok)
		}
	}
}

func TestP171WrittenKeysAreDirtyReadOnesAreNot(t *testing.T) {
	forWrites(func(m impl.Memory, key int, value int) {
		kept := without(impl.DirtyKeys(m), leftOutBy(m, key))
		read, _, _ := impl.ReadKey(m, key)
		if keys := impl.DirtyKeys(read); !slices.Equal(slices.Sorted(slices.Values(keys)), slices.Sorted(slices.Values(kept))) {
			t.Errorf("DirtyKeys(%v) = %v behind ReadKey of %d, and %v before", read, keys, key, dirtyIn(m))
		}
		written, _ := impl.WriteKey(m, key, value)
		if keys := impl.DirtyKeys(written); !slices.Equal(keys, append(row(key), without(kept, key)...)) {
			t.Errorf("DirtyKeys(%v) = %v behind WriteKey of %d, and %v before", written, keys, key, dirtyIn(m))
		}
	})
}

func TestReadKeyCases(t *testing.T) {
	full := memory(storeWith(), 3, dirty(1, -1), clean(2, 102), dirty(3, -3))
	store := storeWith([2]int{3, -3})
	for _, x := range []struct {
		name   string
		before impl.Memory
		key    int
		value  int
		after  impl.Memory
	}{
		{"no lines, the room is 1", memory(storeWith(), 1), 31, 131, memory(storeWith(), 1, clean(31, 131))},
		{"no lines, the largest room", memory(storeWith(), 8), 0, 100, memory(storeWith(), 8, clean(0, 100))},
		{"the first line", full, 1, -1, full},
		{"the line in the middle, not dirty", full, 2, 102, memory(storeWith(), 3, clean(2, 102), dirty(1, -1), dirty(3, -3))},
		{"the last line stays dirty", full, 3, -3, memory(storeWith(), 3, dirty(3, -3), dirty(1, -1), clean(2, 102))},
		{"no line, the last one is dirty and left out", full, 9, 109, memory(store, 3, clean(9, 109), dirty(1, -1), clean(2, 102))},
		{"no line, the last one is not dirty and left out", memory(storeWith(), 2, dirty(1, -1), clean(2, 102)), 9, 109, memory(storeWith(), 2, clean(9, 109), dirty(1, -1))},
		{"no line, the last one is dirty with the same value", memory(storeWith(), 2, dirty(1, -1), dirty(2, 102)), 9, 109, memory(storeWith(), 2, clean(9, 109), dirty(1, -1))},
		{"no line, there is room", memory(storeWith(), 4, full.Lines...), 9, 109, memory(storeWith(), 4, append([]impl.Line{clean(9, 109)}, full.Lines...)...)},
		{"the first line, there is room", memory(storeWith(), 4, full.Lines...), 1, -1, memory(storeWith(), 4, full.Lines...)},
		{"the last line, there is room", memory(storeWith(), 4, full.Lines...), 3, -3, memory(storeWith(), 4, dirty(3, -3), dirty(1, -1), clean(2, 102))},
		{"the room is 1, its line", memory(storeWith(), 1, dirty(0, 1000)), 0, 1000, memory(storeWith(), 1, dirty(0, 1000))},
		{"the room is 1, another line", memory(storeWith(), 1, dirty(0, 1000)), 31, 131, memory(storeWith([2]int{0, 1000}), 1, clean(31, 131))},
		{"a value of the store that is the smallest", memory(storeWith([2]int{5, -1000}), 1, dirty(0, 1000)), 5, -1000, memory(storeWith([2]int{5, -1000}, [2]int{0, 1000}), 1, clean(5, -1000))},
	} {
		if out, value, ok := impl.ReadKey(x.before, x.key); !ok || value != x.value || !sameMemory(out, x.after) {
			t.Errorf("%s: ReadKey(%v, %d) = %v, %d, %t, want %v, %d", x.name, x.before, x.key, out, value, ok, x.after, x.value)
		}
	}
}

func TestWriteKeyCases(t *testing.T) {
	full := memory(storeWith(), 3, dirty(1, -1), clean(2, 102), dirty(3, -3))
	store := storeWith([2]int{3, -3})
	for _, x := range []struct {
		name       string
		before     impl.Memory
		key, value int
		after      impl.Memory
	}{
		{"no lines, the smallest value", memory(storeWith(), 1), 31, -1000, memory(storeWith(), 1, dirty(31, -1000))},
		{"no lines, the largest value, the largest room", memory(storeWith(), 8), 0, 1000, memory(storeWith(), 8, dirty(0, 1000))},
		{"no lines, the value of the store", memory(storeWith(), 2), 5, 105, memory(storeWith(), 2, dirty(5, 105))},
		{"the first line", full, 1, 7, memory(storeWith(), 3, dirty(1, 7), clean(2, 102), dirty(3, -3))},
		{"the first line, the same value", full, 1, -1, full},
		{"the first line, the value of the store", full, 1, 101, memory(storeWith(), 3, dirty(1, 101), clean(2, 102), dirty(3, -3))},
		{"the line in the middle, not dirty", full, 2, 7, memory(storeWith(), 3, dirty(2, 7), dirty(1, -1), dirty(3, -3))},
		{"the line in the middle, the same value", full, 2, 102, memory(storeWith(), 3, dirty(2, 102), dirty(1, -1), dirty(3, -3))},
		{"the last line", full, 3, 0, memory(storeWith(), 3, dirty(3, 0), dirty(1, -1), clean(2, 102))},
		{"no line, the last one is dirty and left out", full, 9, 7, memory(store, 3, dirty(9, 7), dirty(1, -1), clean(2, 102))},
		{"no line, the last one is not dirty and left out", memory(storeWith(), 2, dirty(1, -1), clean(2, 102)), 9, 7, memory(storeWith(), 2, dirty(9, 7), dirty(1, -1))},
		{"no line, there is room", memory(storeWith(), 4, full.Lines...), 9, 109, memory(storeWith(), 4, append([]impl.Line{dirty(9, 109)}, full.Lines...)...)},
		{"the room is 1, its line", memory(storeWith(), 1, clean(0, 100)), 0, 1, memory(storeWith(), 1, dirty(0, 1))},
		{"the room is 1, another line", memory(storeWith(), 1, dirty(0, -1000)), 31, 1, memory(storeWith([2]int{0, -1000}), 1, dirty(31, 1))},
	} {
		if out, ok := impl.WriteKey(x.before, x.key, x.value); !ok || !sameMemory(out, x.after) {
			t.Errorf("%s: WriteKey(%v, %d, %d) = %v, %t, want %v", x.name, x.before, x.key, x.value, out, ok, x.after)
		}
	}
}

func TestKeysThatWereLeftOutAreUsedAgain(t *testing.T) {
	m := memory(storeWith(), 1, dirty(4, 44))
	away, _, _ := impl.ReadKey(m, 5)
	read, value, ok := impl.ReadKey(away, 4)
	if want := memory(storeWith([2]int{4, 44}), 1, clean(4, 44)); !ok || value != 44 || !sameMemory(read, want) {
		t.Errorf("ReadKey(%v, 4) = %v, %d, %t, want %v, 44", away, read, value, ok, want)
	}
	written, ok := impl.WriteKey(away, 4, 45)
	if want := memory(storeWith([2]int{4, 44}), 1, dirty(4, 45)); !ok || !sameMemory(written, want) {
		t.Errorf("WriteKey(%v, 4, 45) = %v, %t, want %v", away, written, ok, want)
	}
	forMemories(func(m impl.Memory, key int) {
		gone := leftOutBy(m, key)
		if gone < 0 {
			return
		}
		away, _, _ := impl.ReadKey(m, key)
		if back, value, ok := impl.ReadKey(away, gone); !ok || value != valueIn(m, gone) || back.Lines[0] != clean(gone, value) {
			t.Errorf("ReadKey(%v, %d) = %v, %d, %t, and it was left out of %v", away, gone, back, value, ok, m)
		}
		if back, ok := impl.WriteKey(away, gone, 77); !ok || back.Lines[0] != dirty(gone, 77) || back.Store[gone] != valueIn(m, gone) {
			t.Errorf("WriteKey(%v, %d, 77) = %v, %t, and it was left out of %v", away, gone, back, ok, m)
		}
	})
}

func TestFlushMemoryCases(t *testing.T) {
	for _, x := range []struct {
		name          string
		before, after impl.Memory
	}{
		{"no lines", memory(storeWith(), 3), memory(storeWith(), 3)},
		{"no dirty lines", memory(storeWith(), 3, clean(2, 102), clean(1, 101)), memory(storeWith(), 3, clean(2, 102), clean(1, 101))},
		{"dirty lines alone", memory(storeWith(), 3, dirty(31, -1000), dirty(0, 1000), dirty(7, 0)), memory(storeWith([2]int{31, -1000}, [2]int{0, 1000}, [2]int{7, 0}), 3, clean(31, -1000), clean(0, 1000), clean(7, 0))},
		{"the first line is dirty", memory(storeWith(), 2, dirty(5, 5), clean(6, 106)), memory(storeWith([2]int{5, 5}), 2, clean(5, 5), clean(6, 106))},
		{"the last line is dirty", memory(storeWith(), 3, clean(6, 106), dirty(5, 5)), memory(storeWith([2]int{5, 5}), 3, clean(6, 106), clean(5, 5))},
		{"a dirty line with the same value", memory(storeWith(), 1, dirty(5, 105)), memory(storeWith(), 1, clean(5, 105))},
	} {
		if out, ok := impl.FlushMemory(x.before); !ok || !sameMemory(out, x.after) {
			t.Errorf("%s: FlushMemory(%v) = %v, %t, want %v", x.name, x.before, out, ok, x.after)
		}
	}
}

func TestWhatWasWrittenIsRead(t *testing.T) {
	d := &dice{130}
	for room := 1; room <= 8; room++ {
		for _, most := range []int{room, 31} {
			m := memory(d.store(), room)
			values := slices.Clone(m.Store)
			for range 400 {
				key, value := d.upTo(most), d.value()
				ok := true
				switch d.upTo(8) {
				case 0:
					m, ok = impl.FlushMemory(m)
				case 1, 2, 3, 4:
					m, ok = impl.WriteKey(m, key, value)
					values[key] = value
				default:
					m, value, ok = impl.ReadKey(m, key)
					if value != values[key] {
						t.Fatalf("ReadKey of %d is %d, want %d", key, value, values[key])
					}
				}
				if !ok || !slices.Equal(askedValues(t, m), values) {
					t.Fatalf("%v, %t, want the values %v", m, ok, values)
				}
			}
		}
	}
}

func TestMemoryOtherArguments(t *testing.T) {
	check := func(m impl.Memory, key int, value int) {
		t.Helper()
		if out, ok := impl.WriteKey(m, key, value); ok || !sameMemory(out, impl.Memory{}) {
			t.Errorf("WriteKey(%v, %d, %d) = %v, %t", m, key, value, out, ok)
		}
	}
	checkKey := func(m impl.Memory, key int) {
		t.Helper()
		if out, value, ok := impl.ReadKey(m, key); ok || value != 0 || !sameMemory(out, impl.Memory{}) {
			t.Errorf("ReadKey(%v, %d) = %v, %d, %t", m, key, out, value, ok)
		}
		if value, ok := impl.ValueOf(m, key); ok || value != 0 {
			t.Errorf("ValueOf(%v, %d) = %d, %t", m, key, value, ok)
		}
	}
	for _, m := range badMemories() {
		for _, key := range append([]int{0, 1, 2, 31, 32, -1}, keysOfLines(m.Lines)...) {
			checkKey(m, key)
			check(m, key, 0)
			check(m, key, 1001)
		}
		if out, ok := impl.FlushMemory(m); ok || !sameMemory(out, impl.Memory{}) {
			t.Errorf("FlushMemory(%v) = %v, %t", m, out, ok)
		}
		if keys := impl.DirtyKeys(m); len(keys) != 0 {
			t.Errorf("DirtyKeys(%v) = %v", m, keys)
		}
	}
	for _, m := range memories() {
		for _, key := range badKeys() {
			checkKey(m, key)
			check(m, key, 0)
			check(m, key, -1000)
		}
		for _, value := range badValues() {
			for _, key := range append(keysOfLines(m.Lines), 0, 31, 32) {
				check(m, key, value)
			}
		}
	}
}

// markValue returns a number that is no value.
func markValue(n int) int {
	return 5000 * n
}

// markLine returns a line that is not valid.
func markLine(n int) impl.Line {
	return dirty(n, 5000*n)
}

// checkMemoryApart fails if a call modifies the store or the lines of its argument, if its result shares memory with one of them, or if it keeps memory for the next call.
func checkMemoryApart(t *testing.T, name string, m impl.Memory, call func(m impl.Memory) impl.Memory) {
	t.Helper()
	checkApartOf(t, name, m.Store, markValue, markValue, func(store []int) []int {
		return call(impl.Memory{Store: store, Lines: m.Lines, Room: m.Room}).Store
	})
	checkApartOf(t, name, m.Lines, markLine, markLine, func(lines []impl.Line) []impl.Line {
		return call(impl.Memory{Store: m.Store, Lines: lines, Room: m.Room}).Lines
	})
}

func TestMemoriesAreApart(t *testing.T) {
	for _, m := range append(memories(), badMemories()...) {
		for _, key := range append(keysOfLines(m.Lines), 0, 15, 31, 32) {
			checkMemoryApart(t, "ReadKey", m, func(m impl.Memory) impl.Memory { out, _, _ := impl.ReadKey(m, key); return out })
			for _, value := range []int{-1000, 5, 1001} {
				checkMemoryApart(t, "WriteKey", m, func(m impl.Memory) impl.Memory { out, _ := impl.WriteKey(m, key, value); return out })
			}
			checkMemoryApart(t, "ValueOf", m, func(m impl.Memory) impl.Memory {
				value, _ := impl.ValueOf(m, key)
				return memory(row(value), 0, clean(key, value))
			})
		}
		checkMemoryApart(t, "FlushMemory", m, func(m impl.Memory) impl.Memory { out, _ := impl.FlushMemory(m); return out })
		checkMemoryApart(t, "DirtyKeys", m, func(m impl.Memory) impl.Memory { return impl.Memory{Store: impl.DirtyKeys(m)} })
		checkMemoryApart(t, "ValidMemory", m, func(m impl.Memory) impl.Memory { impl.ValidMemory(m); return impl.Memory{} })
	}
}
