package tests

import (
	"regexp"
	"slices"
	"strconv"
	"strings"
	"testing"

	"loop.example/cacheengine/impl"
)

// policies are the policies of a session, each with the function that counts its hits.
func policies() map[string]func(t []int, room int) int {
	return map[string]func(t []int, room int) int{
		"recent": hitsOf(impl.RunRecent), "first": hitsOf(impl.RunFirst), "clock": hitsOf(impl.RunClock),
		"often": hitsOf(impl.RunOften), "adaptive": hitsOf(impl.RunLists), "best": impl.BestHits,
	}
}

// wordNumber returns the number that a word is, or -1 and false.
func wordNumber(word string) (int, bool) {
	if len(word) > 4 || !regexp.MustCompile(`\A(0|-?[1-9][0-9]*)\z`).MatchString(word) {
		return -1, false
	}
	n, err := strconv.Atoi(word)
	return n, err == nil
}

// model is a second session: values by key, the keys of the cache, the last one first, and those that are dirty.
type model struct {
	values [32]int
	cached []int
	dirty  map[int]bool
	trace  []int
}

// use puts a key at the beginning of the cache; one that leaves the cache is written.
func (m *model) use(key int) {
	m.cached = append([]int{key}, without(m.cached, key)...)
	if len(m.cached) == 4 {
		delete(m.dirty, m.cached[3])
		m.cached = m.cached[:3]
	}
	m.trace = append(m.trace, key)
}

// dirtyText returns the keys that are dirty, in order of the cache.
func (m *model) dirtyText() string {
	words := []string{}
	for _, key := range m.cached {
		if m.dirty[key] {
			words = append(words, strconv.Itoa(key))
		}
	}
	return strings.Join(words, " ")
}

// get returns what the command get prints.
func (m *model) get(keyWord string) string {
	key, _ := wordNumber(keyWord)
	if key < 0 || key > 31 {
		return "no"
	}
	m.use(key)
	return strconv.Itoa(m.values[key])
}

// set returns what the command set prints.
func (m *model) set(keyWord string, valueWord string) string {
	key, _ := wordNumber(keyWord)
	value, ok := wordNumber(valueWord)
	if key < 0 || key > 31 || !ok || value < -1000 || value > 1000 {
		return "no"
	}
	m.use(key)
	m.values[key] = value
	m.dirty[key] = true
	return "ok"
}

// hits returns what the command hits prints.
func (m *model) hits(policy string, roomWord string) string {
	count, known := policies()[policy]
	room, _ := wordNumber(roomWord)
	if !known || room < 1 || room > 8 {
		return "no"
	}
	return strconv.Itoa(count(m.trace, room))
}

// line returns what a line prints.
func (m *model) line(line string) string {
	words := regexp.MustCompile(`\A(get|set|hits) ([^ ]*)(?: ([^ ]*))?\z`).FindStringSubmatch(line)
	two := strings.Count(line, " ") == 2
	switch {
	case line == "trace":
		return textOf(m.trace)
	case line == "dirty":
		return m.dirtyText()
	case line == "flush":
		clear(m.dirty)
		return "ok"
	case words == nil || (words[1] == "get") == two:
		return "what"
	case words[1] == "get":
		return m.get(words[2])
	case words[1] == "set":
		return m.set(words[2], words[3])
	}
	return m.hits(words[2], words[3])
}

// outputOf returns what RunSession should return.
func outputOf(lines []string) string {
	m, out := &model{dirty: map[int]bool{}}, ""
	for place, line := range lines {
		if place < 20 {
			out += m.line(line) + "\n"
		}
	}
	return out
}

// pick returns one of some words.
func (d *dice) pick(words ...string) string {
	return words[d.upTo(len(words)-1)]
}

// command returns a line of a session, seldom one that is almost a command.
func (d *dice) command(most int) string {
	key := strconv.Itoa(d.upTo(most))
	switch d.upTo(9) {
	case 0, 1, 2:
		return "get " + key
	case 3, 4, 5:
		return "set " + key + " " + strconv.Itoa(d.upTo(1998)-999)
	case 6:
		return "hits " + d.pick("recent", "first", "clock", "often", "adaptive", "best") + " " + strconv.Itoa(1+d.upTo(7))
	case 7:
		return d.pick("trace", "dirty")
	case 8:
		return d.pick("flush", "dirty")
	}
	return d.pick("get", "set", "hits", "trace", "dirty", "", "what") + d.pick("", " ", " x", " 32", " 1", " recent") + d.pick("", " ", " 9", " 1001", " -1000", " 1000")
}

// sessions are sessions of all numbers of lines, to more than MaxLines, with few keys and with many.
func sessions() [][]string {
	d := &dice{126}
	out := [][]string{nil, {}}
	for range 40 {
		for n := 0; n <= 25; n++ {
			for _, most := range []int{1, 4, 31} {
				lines := []string{}
				for range n {
					lines = append(lines, d.command(most))
				}
				out = append(out, lines)
			}
		}
	}
	return out
}

// lastLine returns the last line that a session prints.
func lastLine(t *testing.T, lines []string) string {
	t.Helper()
	out := strings.Split(impl.RunSession(lines), "\n")
	if len(lines) > 20 || len(out) != len(lines)+1 {
		t.Fatalf("RunSession(%q) prints %q", lines, out)
	}
	return out[len(out)-2]
}

// linesOf returns the lines of a text.
func linesOf(text string) []string {
	return strings.Split(text, "\n")
}

func TestSessionConstants(t *testing.T) {
	if impl.MaxLines != 20 || impl.SessionRoom != 3 {
		t.Errorf("MaxLines = %d, SessionRoom = %d", impl.MaxLines, impl.SessionRoom)
	}
}

func TestRunSession(t *testing.T) {
	for _, lines := range sessions() {
		if out := impl.RunSession(lines); out != outputOf(lines) {
			t.Errorf("RunSession(%q) = %q, want %q", lines, out, outputOf(lines))
		}
	}
}

func TestP126SessionsRunLineByLine(t *testing.T) {
	for _, lines := range sessions() {
		all := impl.RunSession(lines)
		for n := range len(lines) + 1 {
			first := impl.RunSession(lines[:n])
			if !strings.HasPrefix(all, first) || strings.Count(first, "\n") != min(n, 20) || first != "" && !strings.HasSuffix(first, "\n") {
				t.Errorf("RunSession(%q) = %q, and of %d lines it is %q", lines, all, n, first)
			}
		}
	}
}

func TestSessionsAreOver(t *testing.T) {
	uses := slices.Repeat([]string{"set 1 5", "get 2"}, 10)
	out := strings.Repeat("ok\n0\n", 10)
	for _, x := range []struct {
		name  string
		lines []string
		out   string
	}{
		{"nil", nil, ""},
		{"no line", []string{}, ""},
		{"one line", uses[:1], "ok\n"},
		{"one line less than MaxLines", uses[:19], out[:len(out)-len("0\n")]},
		{"MaxLines lines", uses, out},
		{"one line more", append(slices.Clone(uses), "get 1"), out},
		{"many lines more", slices.Repeat(uses, 50), out},
		{"the last line", append(slices.Clone(uses[:19]), "trace"), out[:len(out)-len("0\n")] + textOf(append(slices.Repeat(row(1, 2), 9), 1)) + "\n"},
		{"the one behind the last line", append(slices.Clone(uses), "trace"), out},
		{"empty lines are lines", append(make([]string, 19), "flush", "get 1"), strings.Repeat("what\n", 19) + "ok\n"},
		{"lines that fail are lines", append(slices.Repeat([]string{"get 32"}, 20), "flush"), strings.Repeat("no\n", 20)},
	} {
		if got := impl.RunSession(x.lines); got != x.out {
			t.Errorf("%s: RunSession(%q) = %q, want %q", x.name, x.lines, got, x.out)
		}
	}
}

func TestP127WhatIsSetIsGot(t *testing.T) {
	between := [][]string{
		{}, {"flush"}, {"get 30"}, {"dirty", "trace"}, {"get 28", "get 29", "get 30"}, {"set 28 1", "set 29 2", "set 30 3"},
		{"set 28 1", "flush", "set 29 2", "set 30 3", "flush", "set 28 -4"}, {"flush", "get 28", "get 29", "get 30", "flush"},
		{"set 32 7", "set x 8", "get 32", "hits best 2", "what"},
	}
	for key := range 28 {
		for _, value := range []int{0, 1, -1, 9, 10, 31, 99, 100, 999, 1000, -9, -10, -99, -100, -999} {
			set, get := "set "+strconv.Itoa(key)+" "+strconv.Itoa(value), "get "+strconv.Itoa(key)
			for _, others := range between {
				lines := append(append([]string{"set " + strconv.Itoa(key) + " 77", set}, others...), get, "flush", get)
				got := strings.Split(impl.RunSession(lines), "\n")
				if want := strconv.Itoa(value); got[1] != "ok" || got[len(lines)-3] != want || got[len(lines)-1] != want {
					t.Errorf("RunSession(%q) = %q", lines, got)
				}
			}
		}
	}
	for key := 28; key <= 31; key++ {
		word := strconv.Itoa(key)
		if got := lastLine(t, []string{"set " + word + " -12", "get 1", "get 2", "flush", "get " + word}); got != "-12" {
			t.Errorf("get %d prints %q", key, got)
		}
	}
}

func TestValuesOfAllKeysAreKept(t *testing.T) {
	for first := 0; first+10 <= 32; first++ {
		lines, want := []string{}, strings.Repeat("ok\n", 10)
		for key := first; key < first+10; key++ {
			lines = append(lines, "set "+strconv.Itoa(key)+" "+strconv.Itoa(500-key*key))
		}
		for key := first + 9; key >= first; key-- {
			lines = append(lines, "get "+strconv.Itoa(key))
			want += strconv.Itoa(500-key*key) + "\n"
		}
		if out := impl.RunSession(lines); out != want {
			t.Errorf("RunSession(%q) = %q, want %q", lines, out, want)
		}
	}
}

func TestP128HitsAreThoseOfTheTrace(t *testing.T) {
	for key := range 32 {
		word := strconv.Itoa(key)
		for _, uses := range [][]string{
			{"get " + word, "get " + word}, {"set " + word + " 5", "get " + word}, {"get " + word, "set " + word + " -5"}, {"set " + word + " 1", "set " + word + " 1"},
			{"get " + word, "flush", "dirty", "trace", "get 32", "set 1 x", "what", "get " + word},
		} {
			for policy := range policies() {
				for room := 1; room <= 8; room++ {
					if out := lastLine(t, append(slices.Clone(uses), "hits "+policy+" "+strconv.Itoa(room))); out != "1" {
						t.Errorf("%q: hits %s %d prints %q", uses, policy, room, out)
					}
				}
			}
		}
	}
}

func TestHitsOfEachPolicy(t *testing.T) {
	uses := linesOf("get 4\nset 4 1\nget 1\nget 2\nget 3\nset 1 2\nget 2\nget 0\nget 1\nget 3\nset 0 9\nget 2\nget 1")
	for _, x := range []struct{ policy, hits string }{{"recent", "5"}, {"first", "6"}, {"clock", "3"}, {"often", "1"}, {"adaptive", "2"}, {"best", "7"}} {
		if out := lastLine(t, append(slices.Clone(uses), "hits "+x.policy+" 3")); out != x.hits {
			t.Errorf("hits %s 3 prints %q, want %s", x.policy, out, x.hits)
		}
	}
	for policy, count := range policies() {
		for room := 0; room <= 9; room++ {
			want := strconv.Itoa(count(row(4, 4, 1, 2, 3, 1, 2, 0, 1, 3, 0, 2, 1), room))
			if room == 0 || room == 9 {
				want = "no"
			}
			if out := lastLine(t, append(slices.Clone(uses), "hits "+policy+" "+strconv.Itoa(room))); out != want {
				t.Errorf("hits %s %d prints %q, want %s", policy, room, out, want)
			}
		}
	}
}

func TestHitsOtherWords(t *testing.T) {
	for policy := range policies() {
		for _, before := range [][]string{{}, {"get 1"}, {"get 1", "get 1"}} {
			for _, room := range []string{"1", "8"} {
				if out := lastLine(t, append(slices.Clone(before), "hits "+policy+" "+room)); out != strconv.Itoa(max(len(before)-1, 0)) {
					t.Errorf("%q: hits %s %s prints %q", before, policy, room, out)
				}
			}
			for _, room := range []string{"0", "9", "10", "-1", "-8", "-0", "01", "08", "001", "+1", "", "x", "1x", "x1", "1.0", "9999", "00001", "10000", "-9999", "4294967297", "18446744073709551617", "best", "1\n", "\t1", "1\x00", "\u0661"} {
				if out := lastLine(t, append(slices.Clone(before), "hits "+policy+" "+room)); out != "no" {
					t.Errorf("%q: hits %s %q prints %q", before, policy, room, out)
				}
			}
		}
	}
	for _, policy := range []string{"", "none", "Recent", "BEST", "recen", "recents", "second", "lists", "segments", "1", "hits", "best\n", "\tbest", "best,", "x", "last", "gate", "tiers", "frequency"} {
		for _, room := range []string{"1", "3", "8", "0", "9", "x", ""} {
			if out := lastLine(t, []string{"get 1", "hits " + policy + " " + room}); out != "no" {
				t.Errorf("hits %q %q prints %q", policy, room, out)
			}
		}
	}
}

func TestP175FlushedSessionsHaveNothingDirty(t *testing.T) {
	for _, lines := range sessions() {
		if len(lines) > 18 {
			continue
		}
		if out := lastLine(t, append(slices.Clone(lines), "flush", "dirty")); out != "" {
			t.Errorf("%q, flush: dirty prints %q", lines, out)
		}
	}
}

func TestSessionCases(t *testing.T) {
	for _, x := range []struct{ name, lines, out string }{
		{"nothing was set", "get 0\nget 31\nget 15", "0\n0\n0\n"},
		{"a value is set", "set 1 5\nget 1", "ok\n5\n"},
		{"a value is set twice", "set 1 5\nset 1 6\nget 1", "ok\nok\n6\n"},
		{"the value 0 is set", "set 1 5\nset 1 0\nget 1\ndirty", "ok\nok\n0\n1\n"},
		{"the value that is there is set", "set 1 0\ndirty", "ok\n1\n"},
		{"the value -1 is set", "set 1 -1\nget 1", "ok\n-1\n"},
		{"the largest value", "set 1 1000\nget 1", "ok\n1000\n"},
		{"one more than the largest value", "set 1 1001\nget 1\ntrace\ndirty", "no\n0\n1\n\n"},
		{"the largest number of four bytes", "set 1 9999\nget 1", "no\n0\n"},
		{"a number of five bytes", "set 1 10000\nget 1", "no\n0\n"},
		{"the least value of four bytes", "set 1 -999\nget 1", "ok\n-999\n"},
		{"the least value has five bytes", "set 1 -1000\nget 1\ntrace\ndirty", "no\n0\n1\n\n"},
		{"one less than the least value", "set 1 -1001\nget 1", "no\n0\n"},
		{"a value with leading zeros", "set 1 05\nset 1 005\nset 1 0005\nset 1 00\nset 1 0000\nset 1 00005\nget 1", "no\nno\nno\nno\nno\nno\n0\n"},
		{"a value with a minus sign and leading zeros", "set 1 -05\nset 1 -005\nset 1 -0\nset 1 -00\nget 1\ntrace", "no\nno\nno\nno\n0\n1\n"},
		{"a value with other signs", "set 1 +5\nset 1 --5\nset 1 5-\nset 1 -\nset 1 +\nget 1\ndirty", "no\nno\nno\nno\nno\n0\n\n"},
		{"a value that is no number", "set 1 x\nset 1 5x\nset 1 0x5\nset 1 1e2\nset 1 5.0\nset 1 1_0\nset 1 \nget 1\ndirty", "no\nno\nno\nno\nno\nno\nno\n0\n\n"},
		{"a value that fails changes nothing", "set 1 7\nset 1 x\nset 1 1001\nset 1 -1000\nget 1\ntrace", "ok\nno\nno\nno\n7\n1*2\n"},
		{"the smallest and the largest key", "set 0 3\nset 31 4\nget 0\nget 31\ntrace\ndirty", "ok\nok\n3\n4\n0 31 0 31\n31 0\n"},
		{"one less and one more than these", "set -1 3\nset 32 4\nget -1\nget 32\ntrace\ndirty", "no\nno\nno\nno\n\n\n"},
		{"keys that are no numbers", "get x\nget 1x\nget \nget -\nset x 5\nset  5\ntrace", "no\nno\nno\nno\nno\nno\n\n"},
		{"keys with leading zeros and signs", "get 01\nget 00\nget -0\nget +1\nget -1\nget 001\nset 01 5\nset -0 5\ntrace", "no\nno\nno\nno\nno\nno\nno\nno\n\n"},
		{"keys of many bytes", "get 00001\nget 10000\nget 9999\nget 4294967296\nget 18446744073709551616\nset 99999999999999999999 1", "no\nno\nno\nno\nno\nno\n"},
		{"a key and a value that fail", "set 32 1001\nset x x\nset  ", "no\nno\nno\n"},
		{"the trace is empty", "trace", "\n"},
		{"nothing is dirty", "dirty", "\n"},
		{"nothing is to be flushed", "flush\ndirty\ntrace", "ok\n\n\n"},
		{"the trace has keys that are got and set", "get 3\nset 3 1\nset 4 1\nget 3\ntrace", "0\nok\nok\n1\n3*2 4 3\n"},
		{"the trace has no keys that fail", "get 3\nget 32\nset 3 x\nget x\nset 33 1\nget 3\ntrace", "0\nno\nno\nno\nno\n0\n3*2\n"},
		{"other commands leave the trace", "get 3\nflush\ndirty\nhits best 3\nhits x 3\nwhat\ntrace\ntrace", "0\nok\n\n0\nno\nwhat\n3\n3\n"},
		{"dirty keys, the last one first", "set 1 1\nset 2 2\nset 3 3\ndirty", "ok\nok\nok\n3 2 1\n"},
		{"a key is got, and first then", "set 1 1\nset 2 2\nget 1\ndirty", "ok\nok\n1\n1 2\n"},
		{"keys that are got are not dirty", "get 1\nset 2 2\nget 3\ndirty", "0\nok\n0\n2\n"},
		{"the last key is left out", "set 1 1\nset 2 2\nset 3 3\nset 4 4\ndirty\nget 1\ndirty", "ok\nok\nok\nok\n4 3 2\n1\n4 3\n"},
		{"a key that was left out is not dirty again", "set 1 1\nget 2\nget 3\nget 4\ndirty\nget 1\ndirty", "ok\n0\n0\n0\n\n1\n\n"},
		{"a key is dirty behind a flush", "set 1 1\nflush\nset 2 2\ndirty\nget 1\ndirty\nset 1 1\ndirty", "ok\nok\nok\n2\n1\n2\nok\n1 2\n"},
		{"a flush keeps the order of the lines", "set 1 1\nset 2 2\nset 3 3\nflush\nset 1 4\nset 4 5\ndirty\nget 2\nget 3", "ok\nok\nok\nok\nok\nok\n4 1\n2\n3\n"},
		{"a failure does not use the key", "set 1 1\nset 2 2\nset 3 3\nset 1 x\nget 32\nget 4\ndirty", "ok\nok\nok\nno\nno\n0\n3 2\n"},
		{"hits of a trace without keys", "hits recent 1\nhits best 8\nhits adaptive 3", "0\n0\n0\n"},
		{"hits while the trace grows", "get 1\nhits recent 1\nget 1\nhits recent 1\nget 2\nget 1\nhits recent 1\nhits recent 2", "0\n0\n0\n1\n0\n0\n1\n2\n"},
	} {
		if out := impl.RunSession(linesOf(x.lines)); out != x.out {
			t.Errorf("%s: RunSession(%q) = %q, want %q", x.name, linesOf(x.lines), out, x.out)
		}
	}
}

func TestLinesThatAreAlmostCommands(t *testing.T) {
	for _, x := range []struct {
		name  string
		lines []string
	}{
		{"an empty line", []string{""}},
		{"only spaces", []string{" ", "  ", "   "}},
		{"a space at the beginning", []string{" get 1", " set 1 2", " hits best 1", " trace", " dirty", " flush"}},
		{"a space too many in the middle", []string{"get  1", "set  1 2", "set 1  2", "hits  best 1", "hits best  1"}},
		{"a space at the end", []string{"get 1 ", "set 1 2 ", "hits best 1 ", "trace ", "dirty ", "flush "}},
		{"words too few", []string{"get", "set", "set 1", "set ", "hits", "hits best", "hits "}},
		{"words too many", []string{"get 1 2", "set 1 2 3", "hits best 1 2", "trace 1", "dirty 1", "flush 1", "trace trace", "get 1 x", "get x x", "set 1 2 x", "set x x x"}},
		{"capital letters", []string{"GET 1", "SET 1 2", "HITS best 1", "TRACE", "DIRTY", "FLUSH", "Get 1", "Set 1 2", "Hits best 1", "Trace", "Dirty", "Flush", "geT 1", "flusH"}},
		{"other words", []string{"help", "what", "no", "ok", "put 1 2", "read 1", "write 1 2", "traces", "trac", "dirt", "flus", "flushed", "get1", "set1 2", "hits1", "1", "get\x00 1", "g\u0435t 1"}},
		{"other bytes than spaces", []string{"get\t1", "set\t1\t2", "trace\n", "\nflush", "dirty\r", "flush\t", "get\u00a01", "get\n1", "trace\x00", "\ufefftrace", "\xff", "trace,", "get,1"}},
	} {
		for _, line := range x.lines {
			out := impl.RunSession([]string{"set 1 9", "set 2 8", line, "trace", "dirty", "get 1"})
			if out != "ok\nok\nwhat\n1 2\n2 1\n9\n" {
				t.Errorf("%s: with %q RunSession prints %q", x.name, line, out)
			}
		}
	}
	for _, line := range []string{strings.Repeat(" ", 100000), strings.Repeat("get 1 ", 20000), strings.Repeat("x", 100000), "get" + strings.Repeat(" ", 100000)} {
		if out := impl.RunSession([]string{line}); out != "what\n" {
			t.Errorf("RunSession of a line of %d bytes = %q", len(line), out)
		}
	}
}

func TestEmptyWords(t *testing.T) {
	for _, x := range []struct{ name, line string }{
		{"an empty key to get", "get "},
		{"an empty key to set", "set  5"},
		{"an empty value", "set 1 "},
		{"an empty key and an empty value", "set  "},
		{"an empty policy", "hits  2"},
		{"an empty room", "hits best "},
		{"an empty policy and an empty room", "hits  "},
		{"a key with a newline", "get 1\n"},
		{"a key with a tab", "get \t1"},
		{"a value with a newline", "set 1 2\n"},
		{"a very long key", "get " + strings.Repeat("1", 100000)},
		{"a very long value of zeros", "set 1 " + strings.Repeat("0", 100000)},
	} {
		if out := impl.RunSession([]string{"set 1 9", x.line, "trace", "dirty", "get 1"}); out != "ok\nno\n1\n1\n9\n" {
			t.Errorf("%s: with %q RunSession prints %q", x.name, x.line[:min(len(x.line), 20)], out)
		}
	}
}

func TestTracesOfSessions(t *testing.T) {
	for n := 0; n < 20; n++ {
		gets, sets := []string{}, []string{}
		for key := range n {
			gets = append(gets, "get "+strconv.Itoa(31-key))
			sets = append(sets, "set "+strconv.Itoa(key/2)+" "+strconv.Itoa(key))
		}
		if out := lastLine(t, append(gets, "trace")); out != textOf(reversed(loop(32, 32))[:n]) {
			t.Errorf("the trace of %q is %q", gets, out)
		}
		want := slices.Clone(loop(32, n))
		for place := range want {
			want[place] /= 2
		}
		if out := lastLine(t, append(sets, "trace")); out != textOf(want) {
			t.Errorf("the trace of %q is %q", sets, out)
		}
	}
}

func TestSessionsAreApart(t *testing.T) {
	others := [][]string{{"GET 1", " get 1 ", "set 01 +5"}, {"Flush", "get\t1", ""}, slices.Repeat([]string{"get 1", "X "}, 15)}
	for _, lines := range append(sessions(), others...) {
		given := withSpareOf(lines, "spare")
		want := slices.Clone(given[:cap(given)])
		out := impl.RunSession(given)
		if !slices.Equal(given[:cap(given)], want) {
			t.Errorf("RunSession(%q) modifies its argument: %q", lines, given[:cap(given)])
		}
		if again := impl.RunSession(lines); again != out {
			t.Errorf("RunSession(%q) = %q, and then %q", lines, out, again)
		}
	}
}
