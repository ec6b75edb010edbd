package tests

import (
	"math"
	"regexp"
	"slices"
	"strconv"
	"strings"
	"testing"

	"loop.example/cacheengine/impl"
)

// runTraces are traces with runs of one key, first, in the middle and last.
func runTraces() [][]int {
	out := [][]int{}
	for _, key := range []int{0, 1, 9, 10, 30, 31} {
		other := 31 - key
		for count := 1; count <= 24; count++ {
			out = append(out, times(count, key))
			if count <= 22 {
				out = append(out, slices.Concat(times(count, key), row(other, 2)), slices.Concat(row(2, other), times(count, key)), slices.Concat(row(other), times(count, key), row(other)))
			}
			out = append(out, slices.Concat(times(count, key), times(24-count, other)))
			out = append(out, slices.Concat(times(count/2, key), times(24-count, other), times(count-count/2, key)))
		}
	}
	return out
}

// textTraces are all traces that get a text in the tests.
func textTraces() [][]int {
	return append(knownTraces(), runTraces()...)
}

// runsIn returns the runs of equal keys of a trace, in order.
func runsIn(trace []int) [][]int {
	out := [][]int{}
	for place, key := range trace {
		if place == 0 || trace[place-1] != key {
			out = append(out, nil)
		}
		out[len(out)-1] = append(out[len(out)-1], key)
	}
	return out
}

// textOf returns what FormatTrace should return.
func textOf(trace []int) string {
	text := ""
	for _, keys := range runsIn(trace) {
		text += " " + strconv.Itoa(keys[0])
		if len(keys) > 1 {
			text += "*" + strconv.Itoa(len(keys))
		}
	}
	return strings.TrimPrefix(text, " ")
}

// traceOf returns what ParseTrace should return: each word has a key and a number that are written as they must be, and no word has the key of the one before.
func traceOf(text string) ([]int, bool) {
	form := regexp.MustCompile(`\A(0|[1-9]|[12][0-9]|3[01])(\*([2-9]|1[0-9]|2[0-4]))?\z`)
	out := []int{}
	for _, word := range strings.Split(text, " ") {
		parts := form.FindStringSubmatch(word)
		if parts == nil {
			return nil, false
		}
		key, _ := strconv.Atoi(parts[1])
		count := 1
		if parts[3] != "" {
			count, _ = strconv.Atoi(parts[3])
		}
		if len(out) > 0 && out[len(out)-1] == key || len(out)+count > 24 {
			return nil, false
		}
		out = append(out, times(count, key)...)
	}
	return out, true
}

// allTexts calls a test with all texts of some bytes, at most as long as told.
func allTexts(letters string, length int, test func(text string)) {
	var extend func(text string)
	extend = func(text string) {
		test(text)
		if len(text) == length {
			return
		}
		for _, letter := range []byte(letters) {
			extend(text + string(letter))
		}
	}
	extend("")
}

// changedTexts are texts of traces with one byte more, one less or another one, at each place.
func changedTexts() []string {
	out := []string{}
	for _, text := range []string{"0", "31", "5*2", "1*24", "31*10", "1 2 3", "1*2 2 5*3", "0*9 10*10 0*5", "3*12 4*12", "3*12 4*11", "1*2 2*2 3*2 1*2", textOf(longest())} {
		for place := 0; place <= len(text); place++ {
			for _, more := range []string{" ", "*", "0", "1", "2", "9", "-", "+", ".", "x", "\t", "\n", "\r", "\x00", "\xff", "_", ",", "\u00a0", "\u0661", "*1", "*2", " 1", "1 ", "32 ", "  "} {
				out = append(out, text[:place]+more+text[place:])
				if place < len(text) {
					out = append(out, text[:place]+more+text[place+1:])
				}
			}
			if place < len(text) {
				out = append(out, text[:place]+text[place+1:], text[:place])
			}
		}
	}
	return out
}

// forTexts calls a test with texts of traces and with others that are almost so.
func forTexts(test func(text string)) {
	for _, trace := range textTraces() {
		test(textOf(trace))
	}
	for _, text := range changedTexts() {
		test(text)
	}
	allTexts(" *012349-+x", 4, test)
	allTexts(" *123", 6, test)
}

func TestFormatTrace(t *testing.T) {
	for _, trace := range textTraces() {
		if text := impl.FormatTrace(trace); text != textOf(trace) {
			t.Errorf("FormatTrace(%v) = %q, want %q", trace, text, textOf(trace))
		}
	}
}

func TestP121RepeatedKeysAreShort(t *testing.T) {
	for _, trace := range textTraces() {
		text := impl.FormatTrace(trace)
		words := strings.Fields(text)
		if len(words) != len(runsIn(trace)) || strings.Join(words, " ") != text {
			t.Errorf("FormatTrace(%v) = %q, want %d words", trace, text, len(runsIn(trace)))
		}
	}
}

func TestTextCases(t *testing.T) {
	for _, x := range []struct {
		name  string
		trace []int
		text  string
	}{
		{"one key", row(7), "7"},
		{"the smallest key", row(0), "0"},
		{"the largest key", row(31), "31"},
		{"one key twice", row(7, 7), "7*2"},
		{"the smallest key twice", row(0, 0), "0*2"},
		{"a run of 9", times(9, 31), "31*9"},
		{"a run of 10", times(10, 31), "31*10"},
		{"a run of 23", times(23, 1), "1*23"},
		{"a run of MaxTrace", times(24, 1), "1*24"},
		{"two keys", row(2, 1), "2 1"},
		{"keys whose digits are equal", row(1, 11, 1, 1), "1 11 1*2"},
		{"a run of 2, first", row(5, 5, 6), "5*2 6"},
		{"a run of 2, in the middle", row(6, 5, 5, 7), "6 5*2 7"},
		{"a run of 2, last", row(6, 5, 5), "6 5*2"},
		{"a run of 9, first", append(times(9, 5), 6), "5*9 6"},
		{"a run of 9, in the middle", append(append(row(6), times(9, 5)...), 6), "6 5*9 6"},
		{"a run of 9, last", append(row(6), times(9, 5)...), "6 5*9"},
		{"a run of 10, first", append(times(10, 5), 6), "5*10 6"},
		{"a run of 10, in the middle", append(append(row(6), times(10, 5)...), 6), "6 5*10 6"},
		{"a run of 10, last", append(row(6), times(10, 5)...), "6 5*10"},
		{"all keys in two runs", append(times(12, 0), times(12, 31)...), "0*12 31*12"},
		{"a run of 23 and a key", append(times(23, 0), 1), "0*23 1"},
		{"a key and a run of 23", append(row(1), times(23, 0)...), "1 0*23"},
		{"runs one behind the other", row(1, 1, 2, 2, 2, 1, 1), "1*2 2*3 1*2"},
		{"two keys in turns", row(1, 2, 1, 2, 1), "1 2 1 2 1"},
		{"a run of 22 in the middle", append(append(row(2), times(22, 1)...), 2), "2 1*22 2"},
		{"24 different keys", longest(), "0 1 2 3 4 5 6 7 8 9 10 11 12 13 14 15 16 17 18 19 20 21 22 23"},
	} {
		if text := impl.FormatTrace(x.trace); text != x.text {
			t.Errorf("%s: FormatTrace(%v) = %q, want %q", x.name, x.trace, text, x.text)
		}
		if trace, ok := impl.ParseTrace(x.text); !ok || !slices.Equal(trace, x.trace) {
			t.Errorf("%s: ParseTrace(%q) = %v, %t, want %v", x.name, x.text, trace, ok, x.trace)
		}
	}
}

func TestFormatTraceWithoutText(t *testing.T) {
	more := [][]int{
		nil, {}, times(25, 1), append(times(25, 1), 2), append(row(2), times(25, 1)...), append(append(row(2), times(25, 1)...), 2),
		append(times(24, 1), 2), append(row(2), times(24, 1)...), append(append(row(2), times(23, 1)...), 2), loop(25, 25),
		append(times(2, 1), 32), append(row(-1), times(2, 1)...), append(append(row(1), times(3, -1)...), 1),
	}
	for _, trace := range append(badTraces(), more...) {
		if text := impl.FormatTrace(trace); text != "" {
			t.Errorf("FormatTrace(%v) = %q", trace, text)
		}
	}
}

func TestP119TextsOfTracesLoseNothing(t *testing.T) {
	for _, trace := range textTraces() {
		if len(trace) == 0 {
			continue
		}
		if back, ok := impl.ParseTrace(impl.FormatTrace(trace)); !ok || !slices.Equal(back, trace) {
			t.Errorf("ParseTrace(%q) = %v, %t, want %v", impl.FormatTrace(trace), back, ok, trace)
		}
	}
}

func TestP120TracesHaveOneText(t *testing.T) {
	accepted := 0
	forTexts(func(text string) {
		trace, ok := impl.ParseTrace(text)
		if !ok {
			return
		}
		accepted++
		if !impl.ValidTrace(trace) || len(trace) == 0 || impl.FormatTrace(trace) != text {
			t.Errorf("ParseTrace(%q) = %v, and FormatTrace of it is %q", text, trace, impl.FormatTrace(trace))
		}
	})
	if accepted < 1000 {
		t.Errorf("ParseTrace accepts %d texts", accepted)
	}
}

func TestParseTrace(t *testing.T) {
	forTexts(func(text string) {
		want, wantOK := traceOf(text)
		if trace, ok := impl.ParseTrace(text); ok != wantOK || !slices.Equal(trace, want) {
			t.Errorf("ParseTrace(%q) = %v, %t, want %v, %t", text, trace, ok, want, wantOK)
		}
	})
}

func TestParseTraceOtherTexts(t *testing.T) {
	for _, x := range []struct{ name, text string }{
		{"the empty text", ""},
		{"a space", " "},
		{"two spaces", "  "},
		{"a space at the beginning", " 1"},
		{"a space at the end", "1 "},
		{"a space at the end of a run", "1*2 "},
		{"two spaces behind each other", "1  2"},
		{"a space before *", "1 *2"},
		{"a space behind *", "1* 2"},
		{"only *", "*"},
		{"* without a number", "1*"},
		{"* without a number, in the middle", "1* 2"},
		{"* without a key", "*2"},
		{"* without a key, behind a key", "1 *2"},
		{"the number 0 behind *", "1*0"},
		{"the number 0 behind *, and another key", "1*0 2"},
		{"the number 1 behind *", "1*1"},
		{"the number 1 behind *, in the middle", "2 1*1 3"},
		{"two *", "1*2*3"},
		{"two * behind each other", "1**2"},
		{"a * behind a run", "1*2*"},
		{"a leading zero of a key", "01"},
		{"a leading zero of a key of two digits", "031"},
		{"two zeros", "00"},
		{"a leading zero of a number", "1*02"},
		{"a leading zero of the number 1", "1*01"},
		{"leading zeros of a number of two digits", "1*0024"},
		{"a minus sign of a key", "-1"},
		{"a minus sign of the key 0", "-0"},
		{"a minus sign of a number", "1*-2"},
		{"a minus sign of the number 0", "1*-0"},
		{"only a minus sign", "-"},
		{"a plus sign of a key", "+1"},
		{"a plus sign of the key 0", "+0"},
		{"a plus sign of a number", "1*+2"},
		{"a key that is too large", "32"},
		{"a key that is too large, behind others", "30 31 32"},
		{"a key that is too large, several times", "32*2"},
		{"a key of three digits", "100"},
		{"a key that is far too large", "99999999999999999999"},
		{"a key as large as an int", "9223372036854775807"},
		{"a key as small as an int", "-9223372036854775808"},
		{"a key that is 1 modulo 256", "257"},
		{"a key that is 1 modulo 2 to the 64", "18446744073709551617"},
		{"a number that is too large", "1*25"},
		{"a number of three digits", "1*100"},
		{"a number that is far too large", "1*99999999999999999999"},
		{"a number as large as an int", "1*9223372036854775807"},
		{"a number as large as an int, behind a key", "2 1*9223372036854775807"},
		{"a number as small as an int", "1*-9223372036854775808"},
		{"a number as small as an int, behind a key", "2 1*-9223372036854775808"},
		{"a number that is 2 modulo 2 to the 64", "1*18446744073709551618"},
		{"two words of one key", "1 1"},
		{"two words of one key, in the middle", "2 1 1 2"},
		{"two words of one key, a run first", "1*2 1"},
		{"two words of one key, a run last", "1 1*2"},
		{"two runs of one key", "1*2 1*2"},
		{"two runs of one key, together MaxTrace", "1*12 1*12"},
		{"one key more than MaxTrace, the run first", "1*24 2"},
		{"one key more than MaxTrace, the run last", "2 1*24"},
		{"one key more than MaxTrace, two runs", "1*12 2*13"},
		{"a number that is too large, first", "1*25 2"},
		{"a number that is too large, in the middle", "2 1*25 2"},
		{"a number that is too large, last", "2 1*25"},
		{"one key more than MaxTrace, a run in the middle", "2 1*23 2"},
		{"one key more than MaxTrace, single keys", textOf(longest()) + " 24"},
		{"one key more than MaxTrace in the middle, and no more", "1*20 2*5 3"},
		{"twice MaxTrace", "1*24 2*24"},
		{"a number that takes back what is too much", "1*24 2*2 3*-2"},
		{"a tab", "1\t2"},
		{"a newline at the end", "1\n"},
		{"a newline between keys", "1\n2"},
		{"a zero byte", "1\x00"},
		{"a byte that is no text", "\xff"},
		{"a comma", "1,2"},
		{"an underscore", "1_0"},
		{"a point", "1.0"},
		{"an exponent", "1e1"},
		{"another base", "0x1"},
		{"digits of another script", "\u0661"},
		{"a wide space", "1\u00a02"},
		{"a letter", "a"},
		{"a letter behind a key", "1a"},
		{"another sign for times", "1x2"},
	} {
		if trace, ok := impl.ParseTrace(x.text); ok || len(trace) != 0 {
			t.Errorf("%s: ParseTrace(%q) = %v, %t", x.name, x.text, trace, ok)
		}
	}
	for _, text := range []string{strings.Repeat(" ", 100000), strings.Repeat("1 ", 100000), strings.Repeat("1 2 ", 50000) + "1", strings.Repeat("1", 100000), strings.Repeat("1*2 2*2 ", 50000), "1*" + strings.Repeat("0", 100000) + "2", strings.Repeat("*", 100000)} {
		if trace, ok := impl.ParseTrace(text); ok || len(trace) != 0 {
			t.Errorf("ParseTrace of %d bytes that begin with %q = %v, %t", len(text), text[:10], trace, ok)
		}
	}
}

// forLoops calls a test with each valid number of keys and each valid length of a loop.
func forLoops(test func(n int, length int)) {
	for n := 1; n <= 32; n++ {
		for length := 0; length <= 24; length++ {
			test(n, length)
		}
	}
}

// loopTrace returns LoopTrace, and fails if it has not the length.
func loopTrace(t *testing.T, n int, length int) []int {
	t.Helper()
	trace := impl.LoopTrace(n, length)
	if len(trace) != length {
		t.Fatalf("LoopTrace(%d, %d) = %v", n, length, trace)
	}
	return trace
}

func TestLoopTrace(t *testing.T) {
	forLoops(func(n int, length int) {
		want, key := []int{}, 0
		for len(want) < length {
			want = append(want, key)
			key++
			if key == n {
				key = 0
			}
		}
		if trace := loopTrace(t, n, length); !slices.Equal(trace, want) {
			t.Errorf("LoopTrace(%d, %d) = %v, want %v", n, length, trace, want)
		}
	})
}

func TestP122LoopsComeAgain(t *testing.T) {
	forLoops(func(n int, length int) {
		trace := loopTrace(t, n, length)
		if !impl.ValidTrace(trace) {
			t.Errorf("LoopTrace(%d, %d) = %v is not valid", n, length, trace)
		}
		for place, key := range trace {
			if before := placeBefore(trace, place, key); place < n && before != -1 || place >= n && before != place-n {
				t.Errorf("LoopTrace(%d, %d) = %v has the key at %d before at %d", n, length, trace, place, before)
			}
		}
	})
}

func TestP123LoopsHaveOneDistance(t *testing.T) {
	forLoops(func(n int, length int) {
		for place, distance := range distances(t, loopTrace(t, n, length)) {
			if place < n && distance != 0 || place >= n && distance != n {
				t.Errorf("ReuseDistances of LoopTrace(%d, %d) has %d at %d", n, length, distance, place)
			}
		}
	})
}

func TestP020LoopsThatDoNotFitAreNeverThere(t *testing.T) {
	for room := 1; room <= 8; room++ {
		for length := 0; length <= 24; length++ {
			trace := loopTrace(t, room+1, length)
			recent, recentHits := impl.RunRecent(trace, room)
			first, firstHits := impl.RunFirst(trace, room)
			if recentHits != 0 || firstHits != 0 || len(recent) != min(length, room) || len(first) != min(length, room) {
				t.Errorf("a loop of %d keys: RunRecent(%v, %d) = %v, %d, RunFirst = %v, %d", room+1, trace, room, recent, recentHits, first, firstHits)
			}
		}
	}
}

func TestLoopTraceCases(t *testing.T) {
	for _, x := range []struct {
		name      string
		n, length int
		trace     []int
	}{
		{"one key, the length 0", 1, 0, row()},
		{"one key, the length 1", 1, 1, row(0)},
		{"one key, the length MaxTrace", 1, 24, times(24, 0)},
		{"two keys", 2, 5, row(0, 1, 0, 1, 0)},
		{"a length less than the keys", 3, 2, row(0, 1)},
		{"a length of as many keys", 3, 3, row(0, 1, 2)},
		{"one key more", 3, 4, row(0, 1, 2, 0)},
		{"23 keys", 23, 24, append(loop(23, 23), 0)},
		{"24 keys", 24, 24, longest()},
		{"MaxKey keys", 31, 24, longest()},
		{"MaxKey keys, the length 0", 31, 0, row()},
		{"MaxKey+1 keys", 32, 24, longest()},
		{"MaxKey+1 keys, the length 1", 32, 1, row(0)},
		{"MaxKey+1 keys, the length 0", 32, 0, row()},
	} {
		if trace := loopTrace(t, x.n, x.length); !slices.Equal(trace, x.trace) {
			t.Errorf("%s: LoopTrace(%d, %d) = %v, want %v", x.name, x.n, x.length, trace, x.trace)
		}
	}
}

func TestLoopTraceOtherArguments(t *testing.T) {
	badNumbers := []int{0, -1, -2, -32, 33, 34, 100, math.MaxInt, math.MinInt}
	badLengths := []int{-1, -2, -24, 25, 26, 100, math.MaxInt, math.MinInt}
	check := func(n int, length int) {
		t.Helper()
		if trace := impl.LoopTrace(n, length); len(trace) != 0 {
			t.Errorf("LoopTrace(%d, %d) = %v", n, length, trace)
		}
	}
	for _, n := range badNumbers {
		for _, length := range append(badLengths, 0, 1, 2, 23, 24) {
			check(n, length)
		}
	}
	for _, length := range badLengths {
		for n := 1; n <= 32; n++ {
			check(n, length)
		}
	}
}

// mixOf returns what MixTraces should return.
func mixOf(a []int, b []int) []int {
	out := []int{}
	for len(a)+len(b) > 0 {
		if len(a) > 0 {
			out, a = append(out, a[0]), a[1:]
		}
		if len(b) > 0 {
			out, b = append(out, b[0]), b[1:]
		}
	}
	return out
}

// forMixes calls a test with pairs of traces of all lengths that have at most MaxTrace keys together.
func forMixes(test func(a []int, b []int)) {
	d := &dice{124}
	for first := 0; first <= 24; first++ {
		for second := 0; first+second <= 24; second++ {
			for _, most := range []int{0, 2, 31} {
				test(d.trace(first, most), d.trace(second, most))
			}
			test(loop(24, first), reversed(loop(24, second)))
		}
	}
	for _, a := range [][]int{nil, {}, {31}, {0, 31}} {
		for _, b := range [][]int{nil, {}, {0}, {31, 31}} {
			test(a, b)
		}
	}
}

// mixed returns MixTraces of two traces, and fails if there is none.
func mixed(t *testing.T, a []int, b []int) []int {
	t.Helper()
	out, ok := impl.MixTraces(a, b)
	if !ok || len(out) != len(a)+len(b) || !impl.ValidTrace(out) {
		t.Fatalf("MixTraces(%v, %v) = %v, %t", a, b, out, ok)
	}
	return out
}

func TestMixTraces(t *testing.T) {
	forMixes(func(a []int, b []int) {
		if out := mixed(t, a, b); !slices.Equal(out, mixOf(a, b)) {
			t.Errorf("MixTraces(%v, %v) = %v, want %v", a, b, out, mixOf(a, b))
		}
	})
}

func TestP124MixedTracesHaveAllKeys(t *testing.T) {
	forMixes(func(a []int, b []int) {
		out := mixed(t, a, b)
		if !slices.Equal(slices.Sorted(slices.Values(out)), slices.Sorted(slices.Values(slices.Concat(a, b)))) {
			t.Errorf("MixTraces(%v, %v) = %v", a, b, out)
		}
		if len(a) > 0 && out[0] != a[0] {
			t.Errorf("MixTraces(%v, %v) = %v does not begin with the first one", a, b, out)
		}
	})
}

func TestP125TracesMixedWithNothingStay(t *testing.T) {
	for _, trace := range textTraces() {
		for _, nothing := range [][]int{nil, {}} {
			if behind, before := mixed(t, trace, nothing), mixed(t, nothing, trace); !slices.Equal(behind, trace) || !slices.Equal(before, trace) {
				t.Errorf("MixTraces of %v and nothing = %v, and in the other order %v", trace, behind, before)
			}
		}
	}
}

func TestP174MixedTracesOfOneLengthAreInTurns(t *testing.T) {
	for _, trace := range textTraces() {
		if len(trace) > 12 {
			continue
		}
		want := []int{}
		for _, key := range trace {
			want = append(want, key, key)
		}
		if out := mixed(t, trace, trace); !slices.Equal(out, want) {
			t.Errorf("MixTraces of %v and itself = %v", trace, out)
		}
	}
	forMixes(func(a []int, b []int) {
		out := mixed(t, a, b)
		for place := range a {
			if len(a) == len(b) && (out[2*place] != a[place] || out[2*place+1] != b[place]) {
				t.Errorf("MixTraces(%v, %v) = %v", a, b, out)
			}
		}
	})
}

func TestMixTracesCases(t *testing.T) {
	for _, x := range []struct {
		name      string
		a, b, out []int
	}{
		{"two nil traces", nil, nil, row()},
		{"two empty traces", row(), row(), row()},
		{"one key and nothing", row(31), nil, row(31)},
		{"nothing and one key", nil, row(31), row(31)},
		{"one key each", row(0), row(31), row(0, 31)},
		{"the first one is longer", row(1, 2, 3, 4), row(7, 8), row(1, 7, 2, 8, 3, 4)},
		{"the second one is longer", row(1, 2), row(7, 8, 9, 9), row(1, 7, 2, 8, 9, 9)},
		{"the first one is longer by 1", row(1, 2), row(7), row(1, 7, 2)},
		{"the second one is longer by 1", row(1), row(7, 8), row(1, 7, 8)},
		{"the same keys", row(1, 2), row(2, 1), row(1, 2, 2, 1)},
		{"MaxTrace keys, all of the first one", longest(), row(), longest()},
		{"MaxTrace keys, all of the second one", nil, longest(), longest()},
		{"MaxTrace keys, one of the second one", loop(23, 23), row(31), append(row(0, 31), loop(23, 23)[1:]...)},
		{"MaxTrace keys, one of the first one", row(31), loop(23, 23), append(row(31), loop(23, 23)...)},
		{"MaxTrace keys, as many of both", times(12, 1), times(12, 2), slices.Repeat(row(1, 2), 12)},
	} {
		if out := mixed(t, x.a, x.b); !slices.Equal(out, x.out) {
			t.Errorf("%s: MixTraces(%v, %v) = %v, want %v", x.name, x.a, x.b, out, x.out)
		}
	}
}

func TestMixTracesOtherArguments(t *testing.T) {
	check := func(a []int, b []int) {
		t.Helper()
		if out, ok := impl.MixTraces(a, b); ok || len(out) != 0 {
			t.Errorf("MixTraces(%v, %v) = %v, %t", a, b, out, ok)
		}
	}
	for first := 0; first <= 26; first++ {
		for second := max(25-first, 0); second <= 26; second++ {
			check(times(first, 1), times(second, 2))
		}
	}
	for _, bad := range badTraces() {
		for _, other := range append(badTraces(), nil, row(), row(1), row(0, 31), longest()) {
			check(bad, other)
			check(other, bad)
		}
	}
}

func TestTextsAreApart(t *testing.T) {
	for _, trace := range append(textTraces(), badTraces()...) {
		checkApart(t, "FormatTrace", trace, func(list []int) []int { return []int{len(impl.FormatTrace(list))} })
		checkApart(t, "ParseTrace", trace, func(list []int) []int {
			out, _ := impl.ParseTrace(impl.FormatTrace(list))
			return out
		})
	}
	forLoops(func(n int, length int) {
		checkApart(t, "LoopTrace", row(n, length), func(list []int) []int { return impl.LoopTrace(list[0], list[1]) })
	})
	mix := func(parts [][]int) [][]int {
		out, _ := impl.MixTraces(parts[0], parts[1])
		return [][]int{out}
	}
	forMixes(func(a []int, b []int) { checkPartsApart(t, "MixTraces", [][]int{a, b}, mix) })
	for _, bad := range badTraces() {
		checkPartsApart(t, "MixTraces", [][]int{bad, row(1)}, mix)
		checkPartsApart(t, "MixTraces", [][]int{row(1), bad}, mix)
	}
}
