package tests

import (
	"math"
	"slices"
	"testing"

	"loop.example/cacheengine/impl"
)

// dice gives the same sequence of numbers at each run, so that a failure can be repeated.
type dice struct{ state uint64 }

// upTo returns a number in 0..n.
func (d *dice) upTo(n int) int {
	d.state = d.state*6364136223846793005 + 1442695040888963407
	return int(d.state>>33) % (n + 1)
}

// trace returns a trace of keys in 0..most.
func (d *dice) trace(length int, most int) []int {
	t := make([]int, length)
	for i := range t {
		t[i] = d.upTo(most)
	}
	return t
}

// keys returns different keys in 0..most; most is at least n-1.
func (d *dice) keys(n int, most int) []int {
	list := []int{}
	for len(list) < n {
		if key := d.upTo(most); !slices.Contains(list, key) {
			list = append(list, key)
		}
	}
	return list
}

// sketch returns a sketch in which empty and full counters are as frequent as all others together.
func (d *dice) sketch() []int {
	s := make([]int, impl.Rows*impl.Columns)
	for i := range s {
		switch d.upTo(3) {
		case 0:
			s[i] = 0
		case 1:
			s[i] = impl.MaxCounter
		default:
			s[i] = d.upTo(impl.MaxCounter)
		}
	}
	return s
}

// badKeys are numbers that are no keys.
func badKeys() []int {
	return []int{-1, -2, impl.MaxKey + 1, impl.MaxKey + 2, 100, -impl.MaxKey, math.MaxInt, math.MinInt}
}

// badRooms are numbers that are no rooms of a cache.
func badRooms() []int {
	return []int{0, -1, -impl.MaxRoom, impl.MaxRoom + 1, impl.MaxRoom + 2, 100, math.MaxInt, math.MinInt}
}

// loop returns the keys 0 to n-1, again and again.
func loop(n int, length int) []int {
	t := make([]int, length)
	for i := range t {
		t[i] = i % n
	}
	return t
}

// without returns a list without a key.
func without(list []int, key int) []int {
	out := []int{}
	for _, other := range list {
		if other != key {
			out = append(out, other)
		}
	}
	return out
}

// reversed returns a list in reverse order.
func reversed(list []int) []int {
	out := slices.Clone(list)
	slices.Reverse(out)
	return out
}

// distinct returns the different keys of a trace, in order of their first places.
func distinct(t []int) []int {
	out := []int{}
	for _, key := range t {
		if !slices.Contains(out, key) {
			out = append(out, key)
		}
	}
	return out
}

// begins reports whether a list begins with the numbers of another one.
func begins(list []int, with []int) bool {
	return len(with) <= len(list) && slices.Equal(list[:len(with)], with)
}

// number returns the number itself: the mark of a place in a list of numbers.
func number(n int) int { return n }

// withSpare returns the numbers of a list in new memory with marked places behind them, so that a write there is seen.
func withSpare(list []int) []int {
	return withSpareOf(list, -7)
}

// withSpareOf is withSpare for lists of any kind.
func withSpareOf[E any](list []E, mark E) []E {
	out := append(make([]E, 0, len(list)+8), list...)
	fill(out[len(out):cap(out)], mark)
	return out
}

// fill sets all elements of a list.
func fill[E any](list []E, x E) {
	for i := range list {
		list[i] = x
	}
}

// checkApart fails if a call modifies its argument, if its result shares memory with it, or if it keeps memory for the next call.
func checkApart(t *testing.T, name string, list []int, call func(list []int) []int) {
	t.Helper()
	checkApartOf(t, name, list, number, number, call)
}

// checkApartOf is checkApart for lists of any kind; the marks are elements that no call returns.
func checkApartOf[A comparable, R comparable](t *testing.T, name string, list []A, mark func(n int) A, resultMark func(n int) R, call func(list []A) []R) {
	t.Helper()
	given := withSpareOf(list, mark(-7))
	out := call(given)
	want := withSpareOf(list, mark(-7))
	if !slices.Equal(given[:cap(given)], want[:cap(want)]) {
		t.Errorf("%s of %v modifies its argument: %v", name, list, given[:cap(given)])
	}
	result := slices.Clone(out)
	fill(given[:cap(given)], mark(-9))
	if !slices.Equal(out, result) {
		t.Errorf("%s of %v: the result %v follows its argument", name, list, result)
	}
	fill(out[:cap(out)], resultMark(-8))
	for _, x := range given[:cap(given)] {
		if x != mark(-9) {
			t.Fatalf("%s of %v: the argument follows its result", name, list)
		}
	}
	if again := call(withSpareOf(list, mark(-7))); !slices.Equal(again, result) {
		t.Errorf("%s of %v = %v, and then %v", name, list, result, again)
	}
	if slices.ContainsFunc(out[:cap(out)], func(x R) bool { return x != resultMark(-8) }) {
		t.Errorf("%s of %v: the next call changes the result", name, list)
	}
}

// whole returns a list with the places behind it.
func whole(list []int) []int {
	return list[:cap(list)]
}

// eachPart returns lists with each of them changed.
func eachPart(parts [][]int, change func(list []int) []int) [][]int {
	out := [][]int{}
	for _, list := range parts {
		out = append(out, change(list))
	}
	return out
}

// sameParts reports whether lists have the same numbers as others, in order.
func sameParts(a [][]int, b [][]int) bool {
	return slices.EqualFunc(a, b, slices.Equal[[]int])
}

// onlyNumber reports whether a list and the places behind it have nothing but a number.
func onlyNumber(list []int, n int) bool {
	return !slices.ContainsFunc(whole(list), func(x int) bool { return x != n })
}

// markParts fills lists of a result and the places behind them with a number each, and reports whether each of them has memory of its own.
func markParts(parts [][]int) bool {
	for place, list := range parts {
		fill(whole(list), place)
	}
	for place, list := range parts {
		if !onlyNumber(list, place) {
			return false
		}
	}
	return true
}

// checkPartsApart is checkApart for calls with several lists, and several lists in one result.
func checkPartsApart(t *testing.T, name string, parts [][]int, call func(parts [][]int) [][]int) {
	t.Helper()
	given := eachPart(parts, withSpare)
	out := call(given)
	if !sameParts(eachPart(given, whole), eachPart(eachPart(parts, withSpare), whole)) {
		t.Errorf("%s of %v modifies its argument: %v", name, parts, eachPart(given, whole))
	}
	result := eachPart(out, slices.Clone[[]int])
	for _, list := range given {
		fill(whole(list), -9)
	}
	if !sameParts(out, result) {
		t.Errorf("%s of %v: the result %v follows its argument", name, parts, result)
	}
	if !markParts(out) {
		t.Errorf("%s of %v: two lists of the result share memory", name, parts)
	}
	for _, list := range given {
		if !onlyNumber(list, -9) {
			t.Fatalf("%s of %v: the argument follows its result", name, parts)
		}
	}
	if again := call(eachPart(parts, withSpare)); !sameParts(again, result) {
		t.Errorf("%s of %v = %v, and then %v", name, parts, result, again)
	}
	for place, list := range out {
		if !onlyNumber(list, place) {
			t.Errorf("%s of %v: the next call changes the result", name, parts)
		}
	}
}
