package pick_test

import (
	"math"
	"slices"
	"strings"
	"testing"

	"besom/api"
	"besom/pick"
)

func worker(n int) pick.Pick  { return pick.Pick{Kind: pick.Worker, N: n} }
func mutator(n int) pick.Pick { return pick.Pick{Kind: pick.Mutator, N: n} }

// rightPicks are all right picks, and the runes that the chapter gives them.
func rightPicks() ([]pick.Pick, []rune) {
	l, runes := []pick.Pick{{}}, []rune{'.'}
	for n := 1; n <= 16; n++ {
		l = append(l, worker(n))
		runes = append(runes, rune('a'+n-1))
	}
	for n := 1; n <= 16; n++ {
		l = append(l, mutator(n))
		runes = append(runes, rune(0x3B1+n-1))
	}
	return l, runes
}

// wrongPicks are picks that are not right, at the edges and far from them.
func wrongPicks() []pick.Pick {
	l := []pick.Pick{{N: 1}, {N: -1}, {N: math.MaxInt}, {N: math.MinInt}}
	for _, n := range []int{0, -1, 17, math.MaxInt, math.MinInt, 1 << 32, 1<<32 + 1} {
		l = append(l, worker(n), mutator(n))
	}
	for _, kind := range []int{-1, 3, math.MaxInt, math.MinInt, 1<<32 + 1} {
		l = append(l, pick.Pick{Kind: kind}, pick.Pick{Kind: kind, N: 1})
	}
	return l
}

// P1.1: the kinds are numbered as the chapter says; right picks are right.
func TestRight(t *testing.T) {
	if pick.Detector != 0 || pick.Worker != 1 || pick.Mutator != 2 {
		t.Error("the kinds have other numbers")
	}
	l, _ := rightPicks()
	for _, p := range l {
		if !pick.Right(p) {
			t.Errorf("%v is not right", p)
		}
	}
	for _, p := range wrongPicks() {
		if pick.Right(p) {
			t.Errorf("%v is right", p)
		}
	}
}

// P1.1, P1.2: each right pick is written by its own rune, and read from it.
func TestRunes(t *testing.T) {
	l, runes := rightPicks()
	for i, p := range l {
		s := string(runes[i])
		if got := pick.Print([]pick.Pick{p}); got != s {
			t.Errorf("Print of %v: %q, not %q", p, got, s)
		}
		if got, e := pick.Parse(s); e != api.OK || !slices.Equal(got, []pick.Pick{p}) {
			t.Errorf("Parse of %q: %v, %v", s, got, e)
		}
	}
}

// P1.2: one behind another, and a question mark for each wrong one.
func TestPrint(t *testing.T) {
	for i, c := range []struct {
		l    []pick.Pick
		want string
	}{
		{nil, ""},
		{[]pick.Pick{}, ""},
		{[]pick.Pick{{}, worker(1), mutator(2)}, ".aβ"},
		{[]pick.Pick{mutator(16), worker(16), {}, {}}, "πp.."},
		{[]pick.Pick{worker(2), worker(17), mutator(2), mutator(0), {N: 1}}, "b?β??"},
		{wrongPicks(), strings.Repeat("?", len(wrongPicks()))},
	} {
		if got := pick.Print(c.l); got != c.want {
			t.Errorf("%d: %q, not %q", i, got, c.want)
		}
	}
}

// P1.2: picks in order; spaces and line feeds are passed over.
func TestParse(t *testing.T) {
	for s, want := range map[string][]pick.Pick{
		"":               nil,
		" ":              nil,
		"\n \n":          nil,
		".aβ":            {{}, worker(1), mutator(2)},
		"βa.":            {mutator(2), worker(1), {}},
		" . a\nβ \n\n p": {{}, worker(1), mutator(2), worker(16)},
		"aa..ππ":         {worker(1), worker(1), {}, {}, mutator(16), mutator(16)},
	} {
		if l, e := pick.Parse(s); e != api.OK || !slices.Equal(l, want) {
			t.Errorf("%q: %v, %v", s, l, e)
		}
	}
}

// P1.2: each rune but those that the chapter names is refused.
func TestParseEachRune(t *testing.T) {
	_, runes := rightPicks()
	runes = append(runes, ' ', '\n')
	for r := rune(0); r <= 0x10FFFF; r++ {
		want := api.ErrParse
		if slices.Contains(runes, r) {
			want = api.OK
		}
		if _, e := pick.Parse(string(r)); e != want {
			t.Fatalf("%U: %v", r, e)
		}
	}
}

// P1.2, P2: a wrong rune anywhere, and bytes that are no rune's, tell
// ErrParse, and no pick.
func TestParseWrong(t *testing.T) {
	for _, s := range []string{
		"q", "aq", "qa", ".a`", "α\u03c1", "\u03b0", "Α", "A", "a,b", "a\tb", "a\rb", "?", "\x00", "\u00a0", "\ufffd",
		"\xce", "a\xce", "\xceb", "\xb1", "\xff", "a\x80.", "\xc0\xae", "\xed\xa0\x80", "\xf4\x90\x80\x80",
	} {
		if l, e := pick.Parse(s); len(l) != 0 || e != api.ErrParse {
			t.Errorf("%q: %v, %v", s, l, e)
		}
	}
}

// P1.2: as many picks as MaxPicks are taken, one more is not; a wrong rune
// goes ahead of that, wherever it is.
func TestParseLimit(t *testing.T) {
	full := strings.Repeat("α", api.MaxPicks)
	spaced := strings.Repeat("\n.", api.MaxPicks) + strings.Repeat(" ", 9)
	for i, s := range []string{full, spaced} {
		if l, e := pick.Parse(s); e != api.OK || len(l) != api.MaxPicks {
			t.Errorf("%d: %d picks, %v", i, len(l), e)
		}
	}
	for i, s := range []string{full + "a", "a" + full, full + " \n.", full + full} {
		if l, e := pick.Parse(s); e != api.ErrLimit || len(l) != 0 {
			t.Errorf("%d: %d picks, %v", i, len(l), e)
		}
	}
	for i, s := range []string{full + "a?", full + "?", "?" + full + "a", full + "a\xff"} {
		if l, e := pick.Parse(s); e != api.ErrParse || len(l) != 0 {
			t.Errorf("%d: %d picks, %v", i, len(l), e)
		}
	}
}

// P1.3: what is known where there are n workers and m mutators.
func TestKnown(t *testing.T) {
	for i, c := range []struct {
		l    []pick.Pick
		n, m int
		want bool
	}{
		{nil, 0, 0, true},
		{nil, -1, -1, true},
		{[]pick.Pick{{}}, -1, -1, true},
		{[]pick.Pick{{}}, math.MinInt, math.MinInt, true},
		{[]pick.Pick{{}, worker(2), mutator(3)}, 2, 3, true},
		{[]pick.Pick{{}, worker(2), mutator(3)}, 1, 3, false},
		{[]pick.Pick{{}, worker(2), mutator(3)}, 2, 2, false},
		{[]pick.Pick{worker(3)}, 2, 3, false},
		{[]pick.Pick{mutator(3)}, 3, 2, false},
		{[]pick.Pick{worker(1)}, 0, 9, false},
		{[]pick.Pick{mutator(1)}, 9, -1, false},
		{[]pick.Pick{worker(16), mutator(16)}, 16, 16, true},
		{[]pick.Pick{worker(16), mutator(16)}, math.MaxInt, math.MaxInt, true},
		{[]pick.Pick{worker(1), worker(2), worker(3), {}}, 2, 0, false},
		{[]pick.Pick{{N: 1}, {}, {}}, 9, 9, false},
	} {
		if pick.Known(c.l, c.n, c.m) != c.want {
			t.Errorf("%d: not %v", i, c.want)
		}
	}
	for _, p := range wrongPicks() {
		if pick.Known([]pick.Pick{{}, p}, math.MaxInt, math.MaxInt) {
			t.Errorf("%v is known", p)
		}
	}
}

// P1.3: what is fair, at the edges that the chapter names.
func TestFair(t *testing.T) {
	for i, c := range []struct {
		text    string
		n, m, k int
		want    bool
	}{
		{"", 1, 1, 1, true},
		{"", 0, 0, 0, false},
		{"", 0, 0, -1, false},
		{".ab", 2, 0, 0, false},
		{".ab", 2, 0, -3, false},
		{".ab", 2, 0, math.MinInt, false},
		{".ab", 2, 0, 3, true},
		{"ba.", 2, 0, 3, true},
		{".ab", 2, 0, 2, false},
		{".ab", 2, 0, 4, true},
		{"bb", 2, 0, 3, true},
		{"bbb", 2, 0, 3, false},
		{"bbb", 2, 0, math.MaxInt, true},
		{".abα.abα", 2, 1, 4, true},
		{".abαα.ab", 2, 1, 4, false},
		{".abαα.ab", 2, 1, 5, true},
		{".aα", 1, 1, 3, true},
		{".aα", 1, 2, 3, false},
		{".aα", 2, 1, 3, false},
		{"aaα", 1, 1, 3, false},
		{".aβ", 1, 1, 3, false},
		{".βa", 1, 0, 3, true},
		{"..", 0, 0, 1, true},
		{"..", -1, math.MinInt, 1, true},
		{".a", 0, 0, 1, false},
		{".a.a", 0, 0, 2, true},
		{".", 17, 0, 1, false},
		{".", 0, 17, 1, false},
		{".", 17, 17, 2, true},
		{".", math.MaxInt, math.MaxInt, 1, false},
		{".", math.MaxInt, math.MaxInt, 2, true},
	} {
		l, e := pick.Parse(c.text)
		if e != api.OK || pick.Fair(l, c.n, c.m, c.k) != c.want {
			t.Errorf("%d: %q: not %v", i, c.text, c.want)
		}
	}
}

// P1.3: picks that are not right take up room, and are none that is asked for.
func TestFairWrongPicks(t *testing.T) {
	for _, p := range wrongPicks() {
		l := []pick.Pick{{}, p, worker(1)}
		if pick.Fair(l, 1, 0, 2) || !pick.Fair(l, 1, 0, 3) {
			t.Errorf("%v", p)
		}
	}
	if pick.Fair(append(pick.Round(16, 0), worker(17)), 17, 0, 18) || pick.Fair(append(pick.Round(0, 16), mutator(17)), 0, 17, 18) {
		t.Error("a machine beyond the limit was found")
	}
	if pick.Fair([]pick.Pick{{N: 1}}, 0, 0, 1) || pick.Fair([]pick.Pick{{}, worker(0)}, 1, 0, 2) {
		t.Error("a wrong pick was taken for a right one")
	}
}

// plainlyFair looks at each k picks of l anew.
func plainlyFair(l []pick.Pick, n, m, k int) bool {
	if k < 1 {
		return false
	}
	for i := 0; i+k <= len(l); i++ {
		for _, p := range pick.Round(n, m) {
			if !slices.Contains(l[i:i+k], p) {
				return false
			}
		}
	}
	return true
}

// P1.3: Fair of all short schedules is what the chapter's words tell.
func TestFairOfAll(t *testing.T) {
	alphabet := []pick.Pick{{}, worker(1), worker(2), mutator(1), {N: 1}}
	lists := [][]pick.Pick{nil}
	for from := 0; len(lists[from]) < 6; from++ {
		for _, p := range alphabet {
			lists = append(lists, append(slices.Clone(lists[from]), p))
		}
	}
	for _, l := range lists {
		for n := range 3 {
			for m := range 2 {
				for k := range 6 {
					if want := plainlyFair(l, n, m, k); pick.Fair(l, n, m, k) != want {
						t.Fatalf("%v, %d, %d, %d: not %v", l, n, m, k, want)
					}
				}
			}
		}
	}
}

// P1.3: a round is the detector, the workers and the mutators, rising.
func TestRound(t *testing.T) {
	for i, c := range []struct {
		n, m int
		want string
	}{
		{0, 0, "."},
		{2, 1, ".abα"},
		{1, 2, ".aαβ"},
		{0, 3, ".αβγ"},
		{3, 0, ".abc"},
		{-1, 1, ".α"},
		{1, -1, ".a"},
		{math.MinInt, math.MinInt, "."},
		{16, 0, ".abcdefghijklmnop"},
		{17, 0, ".abcdefghijklmnop"},
		{math.MaxInt, 1, ".abcdefghijklmnopα"},
		{0, 16, ".αβγδεζηθικλμνξοπ"},
		{0, 17, ".αβγδεζηθικλμνξοπ"},
		{1, math.MaxInt, ".aαβγδεζηθικλμνξοπ"},
	} {
		want, _ := pick.Parse(c.want)
		if got := pick.Round(c.n, c.m); !slices.Equal(got, want) {
			t.Errorf("%d: %v", i, got)
		}
	}
}

// P1.4: what is printed of right picks is parsed as them.
func TestPrintedIsParsed(t *testing.T) {
	all, _ := rightPicks()
	lists := [][]pick.Pick{nil, all, append(slices.Clone(all), all...)}
	for _, a := range all {
		for _, b := range all {
			lists = append(lists, []pick.Pick{a, b})
		}
	}
	for _, l := range lists {
		if got, e := pick.Parse(pick.Print(l)); e != api.OK || !slices.Equal(got, l) {
			t.Errorf("%v: %v, %v", l, got, e)
		}
	}
}

// P1.4: rounds are fair for as many picks as a round has, and for no fewer;
// and all that is in them is known.
func TestRoundsAreFair(t *testing.T) {
	for n := range api.MaxWorkers + 1 {
		for m := range api.MaxMutators + 1 {
			r := pick.Round(n, m)
			l := slices.Concat(r, r, r)
			if !pick.Fair(l, n, m, len(r)) || pick.Fair(l, n, m, len(r)-1) || !pick.Known(l, n, m) {
				t.Errorf("%d, %d", n, m)
			}
		}
	}
}

// P1, P6: every call ends at whatever numbers, and none panics.
func TestAnyNumbers(t *testing.T) {
	numbers := []int{math.MinInt, math.MinInt + 1, -1 << 32, -1, 0, 1, 16, 17, 1 << 32, math.MaxInt - 1, math.MaxInt}
	right, _ := rightPicks()
	l := append(wrongPicks(), right...)
	for _, a := range numbers {
		for _, b := range numbers {
			one := []pick.Pick{{Kind: a, N: b}}
			if pick.Right(one[0]) != pick.Known(one, math.MaxInt, math.MaxInt) || pick.Right(one[0]) != (pick.Print(one) != "?") {
				t.Errorf("%v", one)
			}
			if r := pick.Round(a, b); len(r) < 1 || len(r) > 33 || !pick.Known(r, a, b) {
				t.Errorf("Round of %d, %d: %v", a, b, r)
			}
			for _, k := range numbers {
				if want := k > len(l); pick.Fair(l, a, b, k) != want {
					t.Errorf("Fair of %d, %d, %d: not %v", a, b, k, want)
				}
			}
		}
	}
}

// P3: nothing that is handed in is written into, nor what stands behind it;
// what is answered is new memory.
func TestNothingIsShared(t *testing.T) {
	whole := slices.Concat(wrongPicks(), pick.Round(2, 2), pick.Round(2, 2))
	kept := slices.Clone(whole)
	l := whole[:len(whole)-5]
	pick.Print(l)
	pick.Known(l, 16, 16)
	pick.Fair(l, 2, 2, 5)
	pick.Fair(l[len(wrongPicks()):], 2, 2, 5)
	if !slices.Equal(whole, kept) {
		t.Error("what was handed in was written into")
	}
	for i, call := range []func() []pick.Pick{
		func() []pick.Pick { return pick.Round(1, 1) },
		func() []pick.Pick { l, _ := pick.Parse(".aα"); return l },
	} {
		first := call()
		clear(first[:cap(first)])
		if second := call(); pick.Print(second) != ".aα" {
			t.Errorf("%d: %v", i, second)
		}
	}
}

// P4: the same arguments tell the same, again and again.
func TestSameAgain(t *testing.T) {
	l := slices.Concat(pick.Round(3, 3), pick.Round(3, 3))
	for range 50 {
		got, e := pick.Parse(pick.Print(l))
		if e != api.OK || !slices.Equal(got, l) || !pick.Fair(l, 3, 3, 7) || pick.Fair(l, 3, 3, 6) || !slices.Equal(pick.Round(3, 3), l[:7]) {
			t.Fatal(got, e)
		}
	}
}

// P5: a list of nothing may be nil or empty.
func TestListOfNothing(t *testing.T) {
	for _, l := range [][]pick.Pick{nil, {}} {
		if pick.Print(l) != "" || !pick.Known(l, 0, 0) || !pick.Fair(l, 0, 0, 1) {
			t.Errorf("%v", l)
		}
	}
}
