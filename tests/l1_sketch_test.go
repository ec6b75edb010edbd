package tests

import (
	"math"
	"slices"
	"testing"

	"loop.example/cacheengine/impl"
)

// rounds is how many arguments are drawn for each promise.
const rounds = 400

// cells has the places of all keys as numbers, so that a wrong constant or rule is seen.
func cells() [3][32]int {
	return [3][32]int{
		{0, 5, 2, 2, 7, 4, 4, 1, 6, 6, 3, 3, 0, 5, 5, 2, 7, 7, 4, 1, 1, 6, 6, 3, 0, 0, 5, 2, 2, 7, 4, 4},
		{15, 14, 8, 15, 14, 8, 15, 9, 8, 15, 9, 8, 10, 9, 8, 10, 9, 8, 10, 9, 11, 10, 9, 11, 10, 12, 11, 10, 12, 11, 10, 12},
		{18, 22, 23, 19, 20, 21, 17, 18, 22, 23, 16, 20, 21, 17, 18, 19, 23, 16, 20, 21, 22, 18, 19, 23, 16, 17, 21, 22, 18, 19, 20, 16},
	}
}

// badSketches are sketches that are not valid.
func badSketches() [][]int {
	full := func(n int, counter int) []int {
		s := make([]int, n)
		fill(s, counter)
		return s
	}
	out := [][]int{nil, {}, {0}, full(23, 0), full(25, 0), full(16, 1), full(48, 1), full(24, 16), full(24, -1)}
	for place := range 24 {
		for _, counter := range []int{-1, 16, math.MaxInt, math.MinInt} {
			s := full(24, 1)
			s[place] = counter
			out = append(out, s)
		}
	}
	return out
}

// addAll adds keys to a sketch, one after the other.
func addAll(s []int, keys ...int) []int {
	for _, key := range keys {
		s = impl.AddKey(s, key)
	}
	return s
}

func TestSketchConstants(t *testing.T) {
	got := []int{impl.Rows, impl.Columns, impl.MaxCounter, impl.MaxKey, impl.HashStep, impl.HashCycle}
	if !slices.Equal(got, []int{3, 8, 15, 31, 37, 101}) {
		t.Errorf("the constants are %v", got)
	}
}

func TestP001EmptySketchesAreValid(t *testing.T) {
	s := impl.EmptySketch()
	if len(s) != 24 || slices.Max(s) != 0 || slices.Min(s) != 0 || !impl.ValidSketch(s) {
		t.Fatalf("EmptySketch = %v", s)
	}
	for i := range s {
		if impl.ValidSketch(slices.Delete(slices.Clone(s), i, i+1)) {
			t.Errorf("an empty sketch without counter %d is valid", i)
		}
	}
	fill(s[:cap(s)], 5)
	if slices.Max(impl.EmptySketch()) != 0 {
		t.Error("EmptySketch gives the same memory twice")
	}
}

func TestValidSketch(t *testing.T) {
	for counter := range 16 {
		for place := range 24 {
			s := make([]int, 24)
			s[place] = counter
			if !impl.ValidSketch(s) {
				t.Errorf("a sketch with %d at %d is not valid", counter, place)
			}
		}
	}
	full := make([]int, 24)
	fill(full, 15)
	if !impl.ValidSketch(full) {
		t.Error("a sketch with full counters is not valid")
	}
	for _, s := range badSketches() {
		if impl.ValidSketch(s) {
			t.Errorf("%v is a valid sketch", s)
		}
	}
}

func TestP002EachRowHasItsOwnCounters(t *testing.T) {
	for row := range 3 {
		for key := range 32 {
			cell := impl.CellOf(row, key)
			if cell < row*8 || cell >= row*8+8 {
				t.Errorf("CellOf(%d, %d) = %d is in another row", row, key, cell)
			}
			if cell != cells()[row][key] {
				t.Errorf("CellOf(%d, %d) = %d, want %d", row, key, cell, cells()[row][key])
			}
		}
	}
}

func TestCellOfOtherArguments(t *testing.T) {
	for _, key := range badKeys() {
		for row := range 3 {
			if cell := impl.CellOf(row, key); cell != -1 {
				t.Errorf("CellOf(%d, %d) = %d", row, key, cell)
			}
		}
	}
	for _, row := range []int{-1, -3, 3, 4, math.MaxInt, math.MinInt} {
		for _, key := range []int{0, 1, 31, 32, -1} {
			if cell := impl.CellOf(row, key); cell != -1 {
				t.Errorf("CellOf(%d, %d) = %d", row, key, cell)
			}
		}
	}
}

func TestP129RowsDiffer(t *testing.T) {
	for key := range 32 {
		if impl.CellOf(0, key)%8 != impl.CellOf(1, key)%8 {
			return
		}
	}
	t.Error("the first two rows have the same columns")
}

func TestP003CountsAreCounters(t *testing.T) {
	d := &dice{3}
	for range rounds {
		s := d.sketch()
		for key := range 32 {
			c := cells()
			want := min(s[c[0][key]], s[c[1][key]], s[c[2][key]])
			if n := impl.CountOf(s, key); n != want {
				t.Fatalf("CountOf(%v, %d) = %d, want %d", s, key, n, want)
			}
		}
	}
}

func TestCountOfDecidesInEachRow(t *testing.T) {
	for row := range 3 {
		for key := range 32 {
			s := make([]int, 24)
			fill(s, 15)
			s[cells()[row][key]] = 4
			if n := impl.CountOf(s, key); n != 4 {
				t.Errorf("CountOf %d with 4 in row %d = %d", key, row, n)
			}
		}
	}
}

func TestCountOfOtherArguments(t *testing.T) {
	for _, key := range badKeys() {
		if n := impl.CountOf(impl.EmptySketch(), key); n != -1 {
			t.Errorf("CountOf %d = %d", key, n)
		}
	}
	for _, s := range badSketches() {
		for _, key := range []int{0, 31, 32, -1} {
			if n := impl.CountOf(s, key); n != -1 {
				t.Errorf("CountOf(%v, %d) = %d", s, key, n)
			}
		}
	}
}

func TestP130NothingWasAddedToEmptySketches(t *testing.T) {
	for key := range 32 {
		if n := impl.CountOf(impl.EmptySketch(), key); n != 0 {
			t.Errorf("CountOf %d in EmptySketch = %d", key, n)
		}
		if n := impl.CountOf(impl.AddKey(impl.EmptySketch(), key), key); n != 1 {
			t.Errorf("CountOf %d added once = %d", key, n)
		}
	}
}

func TestP004AddedKeysCount(t *testing.T) {
	d := &dice{4}
	for range rounds {
		s, key := d.sketch(), d.upTo(31)
		out := impl.AddKey(s, key)
		if !impl.ValidSketch(out) {
			t.Fatalf("AddKey(%v, %d) = %v", s, key, out)
		}
		if n := impl.CountOf(out, key); n != min(impl.CountOf(s, key)+1, 15) {
			t.Errorf("CountOf %d is %d in %v, and then %d", key, impl.CountOf(s, key), s, n)
		}
		for other := range 32 {
			if impl.CountOf(out, other) < impl.CountOf(s, other) {
				t.Errorf("AddKey(%v, %d) counts %d less", s, key, other)
			}
		}
	}
}

func TestAddKeyChangesOneCounterInEachRow(t *testing.T) {
	d := &dice{41}
	for range rounds {
		s, key := d.sketch(), d.upTo(31)
		want := slices.Clone(s)
		for row := range 3 {
			cell := cells()[row][key]
			want[cell] = min(want[cell]+1, 15)
		}
		if out := impl.AddKey(s, key); !slices.Equal(out, want) {
			t.Errorf("AddKey(%v, %d) = %v, want %v", s, key, out, want)
		}
	}
}

func TestP131CountersDoNotOverflow(t *testing.T) {
	for key := range 32 {
		s := impl.EmptySketch()
		for i := 1; i <= 20; i++ {
			s = impl.AddKey(s, key)
			if n := impl.CountOf(s, key); n != min(i, 15) {
				t.Fatalf("CountOf %d, added %d times, = %d", key, i, n)
			}
		}
		if !impl.ValidSketch(s) || slices.Max(s) != 15 {
			t.Errorf("a sketch with %d 20 times = %v", key, s)
		}
	}
}

func TestP005TheOrderOfKeysDoesNotMatter(t *testing.T) {
	d := &dice{5}
	for range 20 {
		s := d.sketch()
		for a := range 32 {
			for b := range 32 {
				if x, y := addAll(s, a, b), addAll(s, b, a); !impl.ValidSketch(x) || !slices.Equal(x, y) {
					t.Fatalf("%v with %d and %d = %v, or %v", s, a, b, x, y)
				}
			}
		}
	}
}

func TestP006SketchesNeverCountTooFew(t *testing.T) {
	d := &dice{6}
	for i := range rounds {
		trace := d.trace(d.upTo(24), i%32)
		s := addAll(impl.EmptySketch(), trace...)
		for key := range 32 {
			if n := len(trace) - len(without(trace, key)); impl.CountOf(s, key) < min(n, 15) {
				t.Fatalf("CountOf %d = %d, but it is %d times in %v", key, impl.CountOf(s, key), n, trace)
			}
		}
	}
}

func TestP007HalvedSketchesCountHalf(t *testing.T) {
	d := &dice{7}
	for range rounds {
		s := d.sketch()
		h := impl.HalveSketch(s)
		if !impl.ValidSketch(h) {
			t.Fatalf("HalveSketch(%v) = %v", s, h)
		}
		for i := range s {
			if h[i] != s[i]/2 {
				t.Fatalf("HalveSketch(%v) = %v", s, h)
			}
		}
		for key := range 32 {
			if impl.CountOf(h, key) != impl.CountOf(s, key)/2 {
				t.Errorf("CountOf %d is not half in HalveSketch(%v)", key, s)
			}
		}
	}
}

func TestP132HalvingEnds(t *testing.T) {
	d := &dice{132}
	full := make([]int, 24)
	fill(full, 15)
	for i := range rounds {
		s := full
		if i > 0 {
			s = d.sketch()
		}
		out := s
		for range 4 {
			out = impl.HalveSketch(out)
		}
		if !slices.Equal(out, impl.EmptySketch()) {
			t.Errorf("HalveSketch(%v) four times = %v", s, out)
		}
	}
	three := impl.HalveSketch(impl.HalveSketch(impl.HalveSketch(full)))
	if len(three) != 24 || slices.Min(three) != 1 || slices.Max(three) != 1 {
		t.Errorf("HalveSketch of full counters three times = %v", three)
	}
}

func TestP008JoinedSketchesCountBoth(t *testing.T) {
	d := &dice{8}
	for range rounds {
		a, b := d.sketch(), d.sketch()
		j := impl.JoinSketches(a, b)
		if !impl.ValidSketch(j) || !slices.Equal(j, impl.JoinSketches(b, a)) {
			t.Fatalf("JoinSketches(%v, %v) = %v", a, b, j)
		}
		for i := range j {
			if j[i] != min(a[i]+b[i], 15) {
				t.Fatalf("JoinSketches(%v, %v) = %v", a, b, j)
			}
		}
		for key := range 32 {
			if n := impl.CountOf(j, key); n < min(impl.CountOf(a, key)+impl.CountOf(b, key), 15) {
				t.Errorf("CountOf %d = %d in JoinSketches(%v, %v)", key, n, a, b)
			}
		}
	}
}

func TestP009KeysCanBeAddedBeforeOrBehind(t *testing.T) {
	d := &dice{9}
	for range rounds {
		a, b, key := d.sketch(), d.sketch(), d.upTo(31)
		want := impl.AddKey(impl.JoinSketches(a, b), key)
		first := impl.JoinSketches(impl.AddKey(a, key), b)
		second := impl.JoinSketches(a, impl.AddKey(b, key))
		if len(want) != 24 || !slices.Equal(first, want) || !slices.Equal(second, want) {
			t.Errorf("%v and %v with %d: %v, %v, want %v", a, b, key, first, second, want)
		}
	}
}

func TestSketchesOtherArguments(t *testing.T) {
	for _, key := range badKeys() {
		if out := impl.AddKey(impl.EmptySketch(), key); len(out) != 0 {
			t.Errorf("AddKey %d = %v", key, out)
		}
	}
	for _, s := range badSketches() {
		for _, key := range []int{0, 31, 32, -1} {
			if out := impl.AddKey(s, key); len(out) != 0 {
				t.Errorf("AddKey(%v, %d) = %v", s, key, out)
			}
		}
		if out := impl.HalveSketch(s); len(out) != 0 {
			t.Errorf("HalveSketch(%v) = %v", s, out)
		}
		a, b := impl.JoinSketches(s, impl.EmptySketch()), impl.JoinSketches(impl.EmptySketch(), s)
		if len(a) != 0 || len(b) != 0 || len(impl.JoinSketches(s, s)) != 0 {
			t.Errorf("JoinSketches with %v = %v, or %v", s, a, b)
		}
	}
}

func TestSketchesAreApart(t *testing.T) {
	d := &dice{11}
	full := make([]int, 24)
	fill(full, 15)
	lists := append([][]int{impl.EmptySketch(), full, d.sketch(), d.sketch()}, badSketches()...)
	for _, s := range lists {
		other := d.sketch()
		checkApart(t, "AddKey", s, func(s []int) []int { return impl.AddKey(s, 31) })
		checkApart(t, "AddKey without a key", s, func(s []int) []int { return impl.AddKey(s, 32) })
		checkApart(t, "HalveSketch", s, impl.HalveSketch)
		checkApart(t, "JoinSketches", s, func(s []int) []int { return impl.JoinSketches(s, other) })
		checkApart(t, "JoinSketches", s, func(s []int) []int { return impl.JoinSketches(other, s) })
		checkApart(t, "JoinSketches with nothing", s, func(s []int) []int { return impl.JoinSketches(s, impl.EmptySketch()) })
		checkApart(t, "JoinSketches with nothing", s, func(s []int) []int { return impl.JoinSketches(impl.EmptySketch(), s) })
		checkApart(t, "JoinSketches with itself", s, func(s []int) []int { return impl.JoinSketches(s, s) })
		checkApart(t, "ValidSketch", s, func(s []int) []int { impl.ValidSketch(s); return nil })
		checkApart(t, "CountOf", s, func(s []int) []int { return []int{impl.CountOf(s, 31)} })
	}
}
