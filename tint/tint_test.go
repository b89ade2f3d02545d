package tint_test

import (
	"math"
	"strings"
	"testing"

	"besom/set"
	"besom/tint"
)

// all is the set that has every object.
const all = set.Set(math.MaxUint64)

// The kinds that Between tells, by the chapter's numbers.
const (
	same  = 0
	shade = 1
	scan  = 2
	fresh = 3
	none  = -1
)

// noObjects are numbers that are no object's, at the edges and far from them.
func noObjects() []int {
	return []int{0, 65, 66, -1, -2, -63, -64, 127, 128, 129, 1 << 32, 1<<32 + 1, -1 << 32, 1 << 62, math.MinInt, math.MinInt + 1, math.MaxInt - 1, math.MaxInt}
}

// numbers are all objects, and numbers that are none.
func numbers() []int {
	l := noObjects()
	for o := 1; o <= 64; o++ {
		l = append(l, o)
	}
	return l
}

// random is a source of numbers by a short rule.
type random uint64

// bits tells 64 bits.
func (r *random) bits() set.Set {
	*r = *r*6364136223846793005 + 1442695040888963407
	high := uint64(*r) >> 32
	*r = *r*6364136223846793005 + 1442695040888963407
	return set.Set(high<<32 | uint64(*r)>>32)
}

// some are tints of each kind: right ones, and such as have objects of Black
// alone.
func some() []tint.Tint {
	l := []tint.Tint{
		{},
		{Marks: all},
		{Black: all},
		{Marks: all, Black: all},
		{Marks: 0b1011, Black: 0b0110},
		{Marks: 1 << 63},
		{Black: 1 << 63},
		{Marks: 1 << 63, Black: 1 << 63},
		{Marks: 1<<63 - 1, Black: all},
		{Marks: all - 1, Black: 1},
		{Marks: 1<<32 - 1, Black: all - (1<<32 - 1)},
	}
	r := random(9)
	for range 60 {
		marks, black := r.bits(), r.bits()
		l = append(l, tint.Tint{Marks: marks, Black: black}, tint.Tint{Marks: marks, Black: marks & black})
	}
	return l
}

// small are all tints that have nothing but the objects 1, 2 and 64.
func small() []tint.Tint {
	var parts []set.Set
	for n := range set.Set(8) {
		parts = append(parts, n&3|n>>2<<63)
	}
	var l []tint.Tint
	for _, marks := range parts {
		for _, black := range parts {
			l = append(l, tint.Tint{Marks: marks, Black: black})
		}
	}
	return l
}

// bit tells the bit of o, 0 of what is no object.
func bit(o int) set.Set {
	if o < 1 || o > 64 {
		return 0
	}
	return 1 << (o - 1)
}

// letter tells o's colour by the chapter's words: `-` of what is no object,
// `b!` where o is of Black alone.
func letter(t tint.Tint, o int) string {
	marked, black := t.Marks&bit(o) != 0, t.Black&bit(o) != 0
	switch {
	case bit(o) == 0:
		return "-"
	case marked && black:
		return "b"
	case marked:
		return "g"
	case black:
		return "b!"
	}
	return "w"
}

// turn tells what comes of t and o by the chapter's words of a kind.
func turn(kind int, t tint.Tint, o int) (tint.Tint, bool) {
	l := letter(t, o)
	switch {
	case kind == shade && l == "w":
		return tint.Tint{Marks: t.Marks | bit(o), Black: t.Black}, true
	case kind == scan && l == "g":
		return tint.Tint{Marks: t.Marks, Black: t.Black | bit(o)}, true
	case kind == fresh && l == "w":
		return tint.Tint{Marks: t.Marks | bit(o), Black: t.Black | bit(o)}, true
	}
	return t, false
}

// between tells what Between should, by the chapter's words.
func between(a, b tint.Tint) (int, int) {
	if a.Marks == b.Marks && a.Black == b.Black {
		return same, 0
	}
	for o := 1; o <= 64; o++ {
		for kind := shade; kind <= fresh; kind++ {
			if told, ok := turn(kind, a, o); ok && told.Marks == b.Marks && told.Black == b.Black {
				return kind, o
			}
		}
	}
	return none, 0
}

// calls are the three that turn one object, by their kinds.
func calls() map[int]func(tint.Tint, int) (tint.Tint, bool) {
	return map[int]func(tint.Tint, int) (tint.Tint, bool){shade: tint.Shade, scan: tint.Scan, fresh: tint.Fresh}
}

// The colours have the numbers that the chapter gives them, and these are
// constants.
func TestNumbersOfColours(t *testing.T) {
	const white, grey, black = tint.White, tint.Grey, tint.Black
	for i, c := range [...]int{white, grey, black} {
		if c != i {
			t.Errorf("colour %d is %d", i, c)
		}
	}
}

// P9.1: white, grey and black, and white of what is no object, or of Black
// alone.
func TestOf(t *testing.T) {
	colours := map[string]int{"-": 0, "w": 0, "b!": 0, "g": 1, "b": 2}
	met := map[string]int{}
	for _, c := range append(some(), small()...) {
		for _, o := range numbers() {
			l := letter(c, o)
			met[l]++
			if got := tint.Of(c, o); got != colours[l] {
				t.Errorf("%x: %d is %d, not %s", c, o, got, l)
			}
		}
	}
	if len(met) != 5 {
		t.Error("not all colours were met:", met)
	}
}

// P9.1: Black under Marks, and Marks under the first n.
func TestRight(t *testing.T) {
	for i, c := range []struct {
		t    tint.Tint
		n    int
		want bool
	}{
		{tint.Tint{}, 0, true},
		{tint.Tint{}, 1, true},
		{tint.Tint{}, 64, true},
		{tint.Tint{}, -1, true},
		{tint.Tint{}, 65, true},
		{tint.Tint{}, math.MinInt, true},
		{tint.Tint{}, math.MaxInt, true},
		{tint.Tint{Marks: 1}, 1, true},
		{tint.Tint{Marks: 1}, 0, false},
		{tint.Tint{Marks: 1}, -1, false},
		{tint.Tint{Marks: 1}, math.MinInt, false},
		{tint.Tint{Marks: 1, Black: 1}, 1, true},
		{tint.Tint{Black: 1}, 1, false},
		{tint.Tint{Black: 1}, 0, false},
		{tint.Tint{Black: 1}, 64, false},
		{tint.Tint{Marks: 7, Black: 5}, 3, true},
		{tint.Tint{Marks: 7, Black: 7}, 3, true},
		{tint.Tint{Marks: 7, Black: 5}, 4, true},
		{tint.Tint{Marks: 7, Black: 5}, 2, false},
		{tint.Tint{Marks: 5, Black: 7}, 3, false},
		{tint.Tint{Marks: 3, Black: 4}, 3, false},
		{tint.Tint{Marks: 4}, 3, true},
		{tint.Tint{Marks: 4}, 2, false},
		{tint.Tint{Marks: 1 << 63}, 64, true},
		{tint.Tint{Marks: 1 << 63}, 63, false},
		{tint.Tint{Marks: 1 << 63}, 65, true},
		{tint.Tint{Marks: 1 << 63}, math.MaxInt, true},
		{tint.Tint{Marks: all, Black: all}, 64, true},
		{tint.Tint{Marks: all, Black: all}, 1 << 32, true},
		{tint.Tint{Marks: all, Black: all}, 63, false},
		{tint.Tint{Marks: all - 1, Black: all}, 64, false},
		{tint.Tint{Marks: 1<<63 - 1, Black: all}, 64, false},
	} {
		if tint.Right(c.t, c.n) != c.want {
			t.Errorf("%d: %x of %d: not %v", i, c.t, c.n, c.want)
		}
	}
	for _, c := range append(some(), small()...) {
		for _, n := range numbers() {
			want := true
			for o := 1; o <= 64; o++ {
				l := letter(c, o)
				want = want && l != "b!" && (l == "w" || o <= n)
			}
			if tint.Right(c, n) != want {
				t.Errorf("%x of %d: not %v", c, n, want)
			}
		}
	}
}

// P9.1: those that are grey, and no others.
func TestGreys(t *testing.T) {
	for _, c := range append(some(), small()...) {
		var want set.Set
		for o := 1; o <= 64; o++ {
			if letter(c, o) == "g" {
				want |= bit(o)
			}
		}
		if got := tint.Greys(c); got != want {
			t.Errorf("%x: %x, not %x", c, got, want)
		}
	}
	if got := tint.Greys(tint.Tint{Marks: 0b1011, Black: 0b0110}); got != 0b1001 {
		t.Errorf("%x", got)
	}
}

// P9.2: an object of each colour is shaded, scanned, or fresh, or it is as it
// was.
func TestTurnsOfEachColour(t *testing.T) {
	for _, o := range []int{1, 2, 33, 63, 64} {
		b := bit(o)
		rest := tint.Tint{Marks: 0xf0f0 &^ b, Black: 0x3333 &^ b}
		white, grey, black, alone := rest, rest, rest, rest
		grey.Marks |= b
		black.Marks, black.Black = rest.Marks|b, rest.Black|b
		alone.Black |= b
		for i, c := range []struct {
			kind int
			from tint.Tint
			want tint.Tint
			ok   bool
		}{
			{shade, white, grey, true},
			{shade, grey, grey, false},
			{shade, black, black, false},
			{shade, alone, alone, false},
			{scan, white, white, false},
			{scan, grey, black, true},
			{scan, black, black, false},
			{scan, alone, alone, false},
			{fresh, white, black, true},
			{fresh, grey, grey, false},
			{fresh, black, black, false},
			{fresh, alone, alone, false},
		} {
			if got, ok := calls()[c.kind](c.from, o); got != c.want || ok != c.ok {
				t.Errorf("%d: %x of %d: %x, %v, not %x, %v", i, c.from, o, got, ok, c.want, c.ok)
			}
		}
	}
}

// P9.2: each call turns what the chapter's words say, and nothing else; of a
// number that is no object it turns nothing.
func TestTurns(t *testing.T) {
	done := map[int]int{}
	for _, c := range append(some(), small()...) {
		for _, o := range numbers() {
			for kind, call := range calls() {
				want, wantOk := turn(kind, c, o)
				got, ok := call(c, o)
				if got != want || ok != wantOk {
					t.Errorf("%d of %x and %d: %x, %v, not %x, %v", kind, c, o, got, ok, want, wantOk)
				}
				if ok {
					done[kind]++
				}
			}
		}
	}
	if done[shade] == 0 || done[scan] == 0 || done[fresh] == 0 {
		t.Error("not all were done:", done)
	}
}

// P9.2: what is no object turns nothing, and the tint is told all the same.
func TestTurnsOfNoObject(t *testing.T) {
	for _, o := range noObjects() {
		for _, c := range []tint.Tint{{}, {Marks: 6}, {Marks: all}, {Marks: 5, Black: 4}} {
			for kind, call := range calls() {
				if got, ok := call(c, o); got != c || ok {
					t.Errorf("%d of %x and %d: %x, %v", kind, c, o, got, ok)
				}
			}
		}
	}
}

// P9.3: what leads from one to the other.
func TestBetween(t *testing.T) {
	a := tint.Tint{Marks: 0b0011, Black: 0b0010}
	for i, c := range []struct {
		a, b    tint.Tint
		kind, o int
	}{
		{a, a, same, 0},
		{tint.Tint{}, tint.Tint{}, same, 0},
		{tint.Tint{Black: 8}, tint.Tint{Black: 8}, same, 0},
		{tint.Tint{Marks: all, Black: all}, tint.Tint{Marks: all, Black: all}, same, 0},
		{a, tint.Tint{Marks: 0b0111, Black: 0b0010}, shade, 3},
		{a, tint.Tint{Marks: 0b1011, Black: 0b0010}, shade, 4},
		{a, tint.Tint{Marks: 0b0011 | 1<<63, Black: 0b0010}, shade, 64},
		{a, tint.Tint{Marks: 0b0011, Black: 0b0011}, scan, 1},
		{a, tint.Tint{Marks: 0b0111, Black: 0b0110}, fresh, 3},
		{a, tint.Tint{Marks: 0b0011 | 1<<63, Black: 0b0010 | 1<<63}, fresh, 64},
		{tint.Tint{}, tint.Tint{Marks: 1}, shade, 1},
		{tint.Tint{}, tint.Tint{Marks: 1, Black: 1}, fresh, 1},
		{tint.Tint{Marks: 1 << 63}, tint.Tint{Marks: 1 << 63, Black: 1 << 63}, scan, 64},
		// Two objects are turned, or one is turned twice.
		{a, tint.Tint{Marks: 0b1111, Black: 0b0010}, none, 0},
		{a, tint.Tint{Marks: 0b1111, Black: 0b1110}, none, 0},
		{a, tint.Tint{Marks: 0b1111, Black: 0b0110}, none, 0},
		{a, tint.Tint{Marks: 0b0111, Black: 0b0011}, none, 0},
		{a, tint.Tint{Marks: 0b0111, Black: 0b0111}, none, 0},
		{tint.Tint{Marks: 3}, tint.Tint{Marks: 3, Black: 3}, none, 0},
		// Something got lighter, or was lost.
		{a, tint.Tint{Marks: 0b0011}, none, 0},
		{a, tint.Tint{Marks: 0b0010, Black: 0b0010}, none, 0},
		{a, tint.Tint{Marks: 0b0001}, none, 0},
		{a, tint.Tint{Marks: 0b0001, Black: 0b0010}, none, 0},
		{a, tint.Tint{}, none, 0},
		{tint.Tint{Marks: 1}, tint.Tint{Marks: 2}, none, 0},
		{tint.Tint{Marks: 1, Black: 1}, tint.Tint{Marks: 3, Black: 2}, none, 0},
		// Of Black alone: nothing makes it so, and nothing turns what is so.
		{a, tint.Tint{Marks: 0b0011, Black: 0b0110}, none, 0},
		{tint.Tint{}, tint.Tint{Black: 1}, none, 0},
		{tint.Tint{Black: 1}, tint.Tint{}, none, 0},
		{tint.Tint{Black: 1}, tint.Tint{Marks: 1}, none, 0},
		{tint.Tint{Black: 1}, tint.Tint{Marks: 1, Black: 1}, none, 0},
		{tint.Tint{Black: 1}, tint.Tint{Marks: 2, Black: 1}, shade, 2},
		{tint.Tint{Black: 1}, tint.Tint{Marks: 2, Black: 3}, fresh, 2},
		{tint.Tint{Marks: 2, Black: 1}, tint.Tint{Marks: 2, Black: 3}, scan, 2},
	} {
		if kind, o := tint.Between(c.a, c.b); kind != c.kind || o != c.o {
			t.Errorf("%d: %x, %x: %d and %d, not %d and %d", i, c.a, c.b, kind, o, c.kind, c.o)
		}
	}
}

// P9.3: of all pairs of few objects Between tells what the words say.
func TestBetweenAll(t *testing.T) {
	met := map[int]int{}
	for _, a := range small() {
		for _, b := range small() {
			wantKind, wantO := between(a, b)
			met[wantKind]++
			if kind, o := tint.Between(a, b); kind != wantKind || o != wantO {
				t.Errorf("%x, %x: %d and %d, not %d and %d", a, b, kind, o, wantKind, wantO)
			}
		}
	}
	if len(met) != 5 {
		t.Error("not all kinds were met:", met)
	}
}

// P9.3: what one of the three calls tells is found, with its kind and its
// object; and nothing leads back.
func TestBetweenFindsEachTurn(t *testing.T) {
	for _, a := range some() {
		for o := 1; o <= 64; o++ {
			for kind, call := range calls() {
				b, ok := call(a, o)
				if !ok {
					continue
				}
				if gotKind, got := tint.Between(a, b); gotKind != kind || got != o {
					t.Errorf("%x, %x: %d and %d, not %d and %d", a, b, gotKind, got, kind, o)
				}
				if gotKind, got := tint.Between(b, a); gotKind != none || got != 0 {
					t.Errorf("%x, %x back: %d and %d", a, b, gotKind, got)
				}
			}
		}
	}
}

// P9.3: of any two tints Between tells what the words say.
func TestBetweenAny(t *testing.T) {
	for _, a := range some() {
		for _, b := range some() {
			wantKind, wantO := between(a, b)
			if kind, o := tint.Between(a, b); kind != wantKind || o != wantO {
				t.Errorf("%x, %x: %d and %d, not %d and %d", a, b, kind, o, wantKind, wantO)
			}
		}
	}
}

// P9.4: the letters of the objects from 1 to n.
func TestText(t *testing.T) {
	for i, c := range []struct {
		t    tint.Tint
		n    int
		want string
	}{
		{tint.Tint{Marks: 3, Black: 2}, 3, "gbw"},
		{tint.Tint{Marks: 3, Black: 2}, 2, "gb"},
		{tint.Tint{Marks: 3, Black: 2}, 1, "g"},
		{tint.Tint{Marks: 3, Black: 2}, 0, ""},
		{tint.Tint{Marks: 3, Black: 2}, -1, ""},
		{tint.Tint{Marks: 3, Black: 2}, math.MinInt, ""},
		{tint.Tint{Marks: 3, Black: 2}, 5, "gbwww"},
		{tint.Tint{}, 4, "wwww"},
		{tint.Tint{Black: 5}, 4, "wwww"},
		{tint.Tint{Marks: 0b1011, Black: 0b0110}, 5, "gbwgw"},
		{tint.Tint{Marks: 1 << 63}, 63, strings.Repeat("w", 63)},
		{tint.Tint{Marks: 1 << 63}, 64, strings.Repeat("w", 63) + "g"},
		{tint.Tint{Marks: 1 << 63, Black: all}, 65, strings.Repeat("w", 63) + "b"},
		{tint.Tint{Marks: all, Black: all}, 1<<32 + 1, strings.Repeat("b", 64)},
		{tint.Tint{Marks: all, Black: 1}, math.MaxInt, "b" + strings.Repeat("g", 63)},
	} {
		if got := tint.Text(c.t, c.n); got != c.want {
			t.Errorf("%d: %q, not %q", i, got, c.want)
		}
	}
	for _, c := range append(some(), small()...) {
		for _, n := range numbers() {
			want := ""
			for o := 1; o <= min(n, 64); o++ {
				want += map[string]string{"w": "w", "b!": "w", "g": "g", "b": "b"}[letter(c, o)]
			}
			if got := tint.Text(c, n); got != want {
				t.Errorf("%x of %d: %q, not %q", c, n, got, want)
			}
		}
	}
}

// P9.5: no object gets lighter, whatever is turned; the one that is turned
// gets darker, and no other one does.
func TestNothingGetsLighter(t *testing.T) {
	for _, c := range append(some(), small()...) {
		for _, o := range numbers() {
			for kind, call := range calls() {
				told, ok := call(c, o)
				for other := 1; other <= 64; other++ {
					was, is := tint.Of(c, other), tint.Of(told, other)
					if darker := ok && other == o; darker != (is > was) || is < was {
						t.Errorf("%d of %x and %d: %d is %d, was %d", kind, c, o, other, is, was)
					}
				}
			}
		}
	}
}

// P9.5: shaded and scanned is as fresh: and so is not done where that is not.
func TestShadedAndScannedIsFresh(t *testing.T) {
	for _, c := range append(some(), small()...) {
		for _, o := range numbers() {
			want, wantOk := tint.Fresh(c, o)
			got, ok := tint.Shade(c, o)
			if ok {
				got, ok = tint.Scan(got, o)
			}
			if got != want || ok != wantOk {
				t.Errorf("%x and %d: %x, %v, not %x, %v", c, o, got, ok, want, wantOk)
			}
		}
	}
}

// P9.1, P9.2: what is right stays right of as many objects as it was, where an
// object of these is turned.
func TestStaysRight(t *testing.T) {
	for _, c := range append(some(), small()...) {
		for o := 1; o <= 64; o++ {
			for kind, call := range calls() {
				if told, _ := call(c, o); tint.Right(c, 64) != tint.Right(told, 64) {
					t.Errorf("%d of %x and %d: %x", kind, c, o, told)
				}
			}
		}
	}
}

// P4: the same arguments tell the same, again and again.
func TestSameAgain(t *testing.T) {
	a := tint.Tint{Marks: 0b1011, Black: 0b0110}
	for range 50 {
		b, ok := tint.Scan(a, 4)
		if kind, o := tint.Between(a, b); kind != scan || o != 4 || !ok || tint.Text(b, 5) != "gbwbw" || tint.Text(a, 5) != "gbwgw" {
			t.Fatal(kind, o, ok, b)
		}
	}
}
