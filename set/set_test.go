package set_test

import (
	"math"
	"slices"
	"strconv"
	"strings"
	"testing"

	"besom/api"
	"besom/set"
)

// all is the set that has every object.
const all = set.Set(math.MaxUint64)

// noObjects are numbers that are no object's, at the edges and far from them.
func noObjects() []int {
	return []int{0, 65, -1, -64, 128, 129, math.MinInt, math.MinInt + 1, math.MaxInt, 1 << 32, 1<<32 + 1, -1 << 32, 1 << 62}
}

// sets are some sets of each kind: few objects, many, one beside another, and
// what a short rule spreads over all bits.
func sets() []set.Set {
	l := []set.Set{0, all, 1, 2, 1 << 63, 3, 1 | 1<<63, 1<<63 - 1, all - 1, 1<<32 - 1, (1<<32 - 1) << 32, 0x5555555555555555, 0xaaaaaaaaaaaaaaaa}
	for o := range api.MaxObjects {
		l = append(l, 1<<o, all^1<<o)
	}
	x := set.Set(1)
	for range 100 {
		x = x*6364136223846793005 + 1442695040888963407
		l = append(l, x, x&(x>>7)&(x>>13))
	}
	return l
}

// plainly lists the objects of s by its bits, one by one.
func plainly(s set.Set) []int {
	var l []int
	for o := 1; o <= 64; o++ {
		if s/(1<<(o-1))%2 == 1 {
			l = append(l, o)
		}
	}
	return l
}

// P2.1: an object is a number from 1 to 64, and a set has it by its bit.
func TestHas(t *testing.T) {
	for _, s := range sets() {
		l := plainly(s)
		for o := -70; o <= 140; o++ {
			if set.Has(s, o) != slices.Contains(l, o) {
				t.Errorf("%x has %d: not %v", s, o, slices.Contains(l, o))
			}
		}
		for _, o := range noObjects() {
			if set.Has(s, o) {
				t.Errorf("%x has %d", s, o)
			}
		}
	}
}

// P2.1: with o, or without it, and all else as it was.
func TestAddDel(t *testing.T) {
	for _, s := range sets() {
		for o := 1; o <= 64; o++ {
			bit := set.Set(1) << (o - 1)
			if got := set.Add(s, o); got|bit != got || got&^bit != s&^bit {
				t.Errorf("%x with %d: %x", s, o, got)
			}
			if got := set.Del(s, o); got&bit != 0 || got|bit != s|bit {
				t.Errorf("%x without %d: %x", s, o, got)
			}
		}
		for _, o := range noObjects() {
			if set.Add(s, o) != s || set.Del(s, o) != s {
				t.Errorf("%x with or without %d: %x, %x", s, o, set.Add(s, o), set.Del(s, o))
			}
		}
	}
}

// P2.1: how many there are, and which.
func TestCountList(t *testing.T) {
	for _, s := range sets() {
		want := plainly(s)
		if got := set.List(s); !slices.Equal(got, want) {
			t.Errorf("List of %x: %v", s, got)
		}
		if got := set.Count(s); got != len(want) {
			t.Errorf("Count of %x: %d", s, got)
		}
	}
	if set.Count(0) != 0 || set.Count(all) != 64 || len(set.List(0)) != 0 {
		t.Error("nothing or all")
	}
}

// P2.1: Of takes what is an object, in whatever order, once or more often.
func TestOf(t *testing.T) {
	for i, c := range []struct {
		l    []int
		want set.Set
	}{
		{nil, 0},
		{[]int{1}, 1},
		{[]int{64}, 1 << 63},
		{[]int{3, 1}, 5},
		{[]int{1, 3, 3, 1, 3}, 5},
		{[]int{64, 63, 1}, 3<<62 | 1},
		{[]int{0, 4, 65, -4, 2}, 10},
		{noObjects(), 0},
		{append(noObjects(), 33), 1 << 32},
	} {
		if got := set.Of(c.l); got != c.want {
			t.Errorf("%d: %x, not %x", i, got, c.want)
		}
	}
}

// P2.1: under is what the other one has all of.
func TestUnder(t *testing.T) {
	for i, c := range []struct {
		a, b set.Set
		want bool
	}{
		{0, 0, true},
		{0, 1, true},
		{1, 0, false},
		{6, 7, true},
		{6, 6, true},
		{7, 6, false},
		{1, 6, false},
		{all, all, true},
		{all, all - 1, false},
		{1 << 63, 1<<63 - 1, false},
		{1<<63 - 1, all, true},
		{0, all, true},
		{all, 0, false},
	} {
		if set.Under(c.a, c.b) != c.want {
			t.Errorf("%d: not %v", i, c.want)
		}
	}
	for _, a := range sets() {
		for _, b := range sets() {
			want := true
			for _, o := range plainly(a) {
				want = want && slices.Contains(plainly(b), o)
			}
			if set.Under(a, b) != want {
				t.Fatalf("%x under %x: not %v", a, b, want)
			}
		}
	}
}

// P2.1: the objects from 1 to n; all above MaxObjects, none below 1.
func TestFirst(t *testing.T) {
	want := set.Set(0)
	for n := range 65 {
		if n > 0 {
			want |= 1 << (n - 1)
		}
		if got := set.First(n); got != want {
			t.Errorf("First of %d: %x", n, got)
		}
	}
	for _, n := range noObjects() {
		want := all
		if n < 1 {
			want = 0
		}
		if got := set.First(n); got != want {
			t.Errorf("First of %d: %x", n, got)
		}
	}
}

// P2.2: the digits, rising, and what stands between them; and back.
func TestText(t *testing.T) {
	for text, s := range map[string]set.Set{
		"-":           0,
		"1":           1,
		"64":          1 << 63,
		"1,3":         5,
		"9,10,11":     7 << 8,
		"1,2,3,4,5":   31,
		"2,20,40,60":  2 | 1<<19 | 1<<39 | 1<<59,
		"62,63,64":    7 << 61,
		"1,64":        1 | 1<<63,
		"30,31,32,33": 15 << 29,
	} {
		if got := set.Text(s); got != text {
			t.Errorf("Text of %x: %q, not %q", s, got, text)
		}
		if got, e := set.Parse(text); e != api.OK || got != s {
			t.Errorf("Parse of %q: %x, %v", text, got, e)
		}
	}
}

// P2.2: each set's text is its list's, and it is parsed as the set.
func TestTextOfEach(t *testing.T) {
	for _, s := range sets() {
		var parts []string
		for _, o := range plainly(s) {
			parts = append(parts, strconv.Itoa(o))
		}
		text := strings.Join(parts, ",")
		if s == 0 {
			text = "-"
		}
		if got := set.Text(s); got != text {
			t.Errorf("Text of %x: %q, not %q", s, got, text)
		}
		if got, e := set.Parse(text); e != api.OK || got != s {
			t.Errorf("Parse of %q: %x, %v", text, got, e)
		}
	}
}

// P2.2, P2: what is no set's text tells ErrParse, and no set.
func TestParseWrong(t *testing.T) {
	full := set.Text(all)
	for _, s := range []string{
		"", " ", ",", ",,", "--", "-,", ",-", "-,1", "1,-", "-1", "- ", " -", "\u2212", "\u2013",
		"0", "65", "66", "100", "640", "0,1", "64,65", "1,65", "1,0",
		"01", "1,02", "00", "001", "+1", "1,+2", "1,-2", "1.0", "1e1", "0x1", "0b1", "0o1", "1_0", "1_", "a", "\u0661", "\uff11", "1\x00", "\xff",
		"2,1", "1,1", "1,3,2", "1,2,2", "10,9", "3,3,3",
		"1,", ",1", "1,,2", "1, 2", "1 ,2", " 1", "1 ", "1\n", "\n1", "1\r", "1;2", "1.2", "1 2", "1\u00a0", "[1]",
		"18446744073709551617", "4294967297", "9223372036854775808", "-9223372036854775809", "99999999999999999999999",
		full + ",", full + ",65", "," + full, full + "," + full, full[:len(full)-1], "0" + full, full + "\n",
		strings.Repeat("1", 1000), strings.Repeat("1,", 1000), strings.Repeat(",", 100000), strings.Repeat("-", 1000),
		strings.Repeat("0", 100000) + "1",
	} {
		if got, e := set.Parse(s); e != api.ErrParse || got != 0 {
			t.Errorf("%.40q: %x, %v", s, got, e)
		}
	}
}

// P2.2: of all short texts those are taken that are some set's, and no others.
func TestParseAllShort(t *testing.T) {
	texts := map[string]set.Set{"-": 0}
	for a := 1; a <= 64; a++ {
		texts[strconv.Itoa(a)] = set.Of([]int{a})
		for b := a + 1; b <= 64; b++ {
			texts[strconv.Itoa(a)+","+strconv.Itoa(b)] = set.Of([]int{a, b})
			if b < 10 {
				for c := b + 1; c < 10; c++ {
					texts[strconv.Itoa(a)+","+strconv.Itoa(b)+","+strconv.Itoa(c)] = set.Of([]int{a, b, c})
				}
			}
		}
	}
	l := []string{""}
	for from := 0; len(l[from]) < 5; from++ {
		for _, r := range "-,+ 01234569" {
			l = append(l, l[from]+string(r))
		}
	}
	for _, s := range l {
		want, ok := texts[s]
		got, e := set.Parse(s)
		if ok != (e == api.OK) || !ok && e != api.ErrParse || got != want {
			t.Fatalf("%q: %x, %v", s, got, e)
		}
	}
}

// P2.3: Of of List is the set; the same is what is each under the other.
func TestSame(t *testing.T) {
	for _, a := range sets() {
		if got := set.Of(set.List(a)); got != a {
			t.Errorf("Of of List of %x: %x", a, got)
		}
		for _, b := range sets() {
			if (set.Under(a, b) && set.Under(b, a)) != (a == b) {
				t.Fatalf("%x, %x", a, b)
			}
		}
	}
}

// P1, P6: every call ends at whatever numbers, and none panics.
func TestAnyNumbers(t *testing.T) {
	for _, s := range sets() {
		for _, n := range append(noObjects(), 1, 2, 32, 63, 64) {
			is := 1 <= n && n <= 64
			if set.Has(set.Add(s, n), n) != is || set.Has(set.Del(s, n), n) {
				t.Errorf("%x, %d", s, n)
			}
			if c := set.Count(set.First(n)); c != max(0, min(n, 64)) {
				t.Errorf("First of %d: %d", n, c)
			}
		}
	}
}

// P3: nothing that is handed in is written into, nor what stands behind it;
// what is answered is new memory.
func TestNothingIsShared(t *testing.T) {
	whole := append(noObjects(), 5, 3, 5, 64, 1, 9, 9)
	kept := slices.Clone(whole)
	set.Of(whole[:len(whole)-3])
	if !slices.Equal(whole, kept) {
		t.Error("what was handed in was written into")
	}
	first := set.List(21)
	clear(first[:cap(first)])
	if second := set.List(21); !slices.Equal(second, []int{1, 3, 5}) {
		t.Error(second)
	}
}

// P4: the same arguments tell the same, again and again.
func TestSameAgain(t *testing.T) {
	for range 50 {
		s, e := set.Parse("1,9,33,64")
		if e != api.OK || set.Text(s) != "1,9,33,64" || !slices.Equal(set.List(s), []int{1, 9, 33, 64}) || set.Of([]int{33, 64, 9, 1}) != s {
			t.Fatal(s, e)
		}
	}
}

// P5: a list of nothing may be nil or empty.
func TestListOfNothing(t *testing.T) {
	if set.Of(nil) != 0 || set.Of([]int{}) != 0 || len(set.List(0)) != 0 {
		t.Error("nothing is something")
	}
}
