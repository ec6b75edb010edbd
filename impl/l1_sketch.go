package impl

// Rows is the number of rows of a sketch.
const Rows = 3

// Columns is the number of counters of a row.
const Columns = 8

// MaxCounter is the largest counter.
const MaxCounter = 15

// MaxKey is the largest key.
const MaxKey = 31

// HashStep is by what keys are multiplied.
const HashStep = 37

// HashCycle is the number of places of keys.
const HashCycle = 101

// validKey reports whether a number is a key.
func validKey(key int) bool {
	return 0 <= key && key <= MaxKey
}

// ValidSketch reports whether a sketch is valid.
func ValidSketch(s []int) bool {
	if len(s) != Rows*Columns {
		return false
	}
	for _, counter := range s {
		if counter < 0 || counter > MaxCounter {
			return false
		}
	}
	return true
}

// EmptySketch returns a sketch without keys.
func EmptySketch() []int {
	return make([]int, Rows*Columns)
}

// CellOf returns the place of the counter of a key in a row.
func CellOf(row int, key int) int {
	if row < 0 || row >= Rows || !validKey(key) {
		return -1
	}
	// Each row has a factor and a shift of its own, so that two keys rarely meet in all rows.
	place := (HashStep + 2*row) * (key + row) % HashCycle
	return row*Columns + place%Columns
}

// CountOf returns how often a key was added, at most.
func CountOf(s []int, key int) int {
	if !ValidSketch(s) || !validKey(key) {
		return -1
	}
	// Other keys can only make a counter too great: the least one is nearest to the truth.
	least := MaxCounter
	for row := range Rows {
		least = min(least, s[CellOf(row, key)])
	}
	return least
}

// AddKey returns a sketch with a key more.
func AddKey(s []int, key int) []int {
	if !ValidSketch(s) || !validKey(key) {
		return nil
	}
	out := make([]int, len(s))
	copy(out, s)
	for row := range Rows {
		cell := CellOf(row, key)
		out[cell] = min(out[cell]+1, MaxCounter)
	}
	return out
}

// HalveSketch returns a sketch with halved counters.
func HalveSketch(s []int) []int {
	if !ValidSketch(s) {
		return nil
	}
	out := make([]int, len(s))
	for i, counter := range s {
		out[i] = counter / 2
	}
	return out
}

// JoinSketches returns a sketch with the counters of two.
func JoinSketches(a []int, b []int) []int {
	if !ValidSketch(a) || !ValidSketch(b) {
		return nil
	}
	out := make([]int, len(a))
	for i := range a {
		out[i] = min(a[i]+b[i], MaxCounter)
	}
	return out
}
