package code_test

import (
	"maps"
	"math"
	"slices"
	"strings"
	"testing"

	"besom/api"
	"besom/code"
)

// Op is short for the tables.
type Op = code.Op

// The numbers that the document names.
const (
	maxRegs  = 4
	maxSlots = 4
	maxOps   = 64
)

// kinds are all kinds by the chapter's words: what each has.
func kinds() map[int]struct{ r, a, s bool } {
	return map[int]struct{ r, a, s bool }{
		1: {true, true, true},
		2: {true, true, true},
		3: {true, false, false},
		4: {true, true, false},
		5: {true, false, false},
	}
}

// far are numbers at the edges of what is named, and of 64 bits.
func far() []int {
	return []int{0, 1, 3, 4, 5, 64, -1, -2, -4, 1 << 32, 1<<32 + 1, 1<<32 + 3, -1 << 32, 1 << 62, math.MaxInt, math.MaxInt - 1, math.MinInt, math.MinInt + 1}
}

// is tells whether o is right, by the chapter's words.
func is(o Op, regs, slots int) bool {
	has, ok := kinds()[o.Kind]
	if !ok {
		return false
	}
	fits := func(has bool, n, bound, most int) bool {
		if !has {
			return n == 0
		}
		return n >= 0 && n < bound && n < most
	}
	return fits(has.r, o.R, regs, maxRegs) && fits(has.a, o.A, regs, maxRegs) && fits(has.s, o.S, slots, maxSlots)
}

// texts are the texts of all ops that are right, spelt out.
func texts() map[string]Op {
	told := map[string]Op{}
	for r, to := range []string{"A", "B", "C", "D"} {
		told[to+"=new"] = Op{Kind: code.New, R: r}
		told[to+"=0"] = Op{Kind: code.Null, R: r}
		for a, from := range []string{"A", "B", "C", "D"} {
			told[to+"="+from] = Op{Kind: code.Move, R: r, A: a}
			for s, slot := range []string{".0", ".1", ".2", ".3"} {
				told[to+"="+from+slot] = Op{Kind: code.Load, R: r, A: a, S: s}
				told[from+slot+"="+to] = Op{Kind: code.Store, R: r, A: a, S: s}
			}
		}
	}
	return told
}

// sorted are these texts, in one order.
func sorted() []string {
	return slices.Sorted(maps.Keys(texts()))
}

// around goes through ops with numbers around the limits, right and wrong.
func around(yield func(Op) bool) {
	for kind := -1; kind <= 7; kind++ {
		for r := -2; r <= 6; r++ {
			for a := -2; a <= 6; a++ {
				for s := -2; s <= 6; s++ {
					if !yield(Op{kind, r, a, s}) {
						return
					}
				}
			}
		}
	}
}

// distant goes through ops with numbers far off.
func distant(yield func(Op) bool) {
	for _, kind := range append(far(), 2) {
		for _, r := range far() {
			for _, a := range far() {
				for _, s := range far() {
					if !yield(Op{kind, r, a, s}) {
						return
					}
				}
			}
		}
	}
}

// random is a source of numbers by a short rule.
type random uint64

// under tells a number from 0 to n - 1.
func (r *random) under(n int) int {
	*r = *r*6364136223846793005 + 1442695040888963407
	return int(uint64(*r)>>33) % n
}

// program tells n ops that are right, and their texts.
func (r *random) program(n int) ([]Op, []string) {
	var l []Op
	var t []string
	all := sorted()
	for range n {
		text := all[r.under(len(all))]
		l, t = append(l, texts()[text]), append(t, text)
	}
	return l, t
}

// P11.1: the kinds are told apart by these numbers.
func TestKinds(t *testing.T) {
	if code.Load != 1 || code.Store != 2 || code.New != 3 || code.Move != 4 || code.Null != 5 {
		t.Error(code.Load, code.Store, code.New, code.Move, code.Null)
	}
}

// P11.1: what each kind has, and has not, at its edges.
func TestRight(t *testing.T) {
	for i, c := range []struct {
		o           Op
		regs, slots int
		want        bool
	}{
		{Op{code.Load, 0, 0, 0}, 1, 1, true},
		{Op{code.Load, 1, 0, 0}, 1, 1, false},
		{Op{code.Load, 0, 1, 0}, 1, 1, false},
		{Op{code.Load, 0, 0, 1}, 1, 1, false},
		{Op{code.Load, 0, 0, 0}, 0, 1, false},
		{Op{code.Load, 0, 0, 0}, 1, 0, false},
		{Op{code.Load, 3, 3, 3}, 4, 4, true},
		{Op{code.Load, 3, 3, 3}, 100, 100, true},
		{Op{code.Load, 4, 3, 3}, 100, 100, false},
		{Op{code.Load, 3, 4, 3}, 100, 100, false},
		{Op{code.Load, 3, 3, 4}, 100, 100, false},
		{Op{code.Load, -1, 0, 0}, 4, 4, false},
		{Op{code.Load, 0, -1, 0}, 4, 4, false},
		{Op{code.Load, 0, 0, -1}, 4, 4, false},
		{Op{code.Store, 1, 2, 3}, 3, 4, true},
		{Op{code.Store, 2, 1, 3}, 3, 4, true},
		{Op{code.Store, 1, 2, 3}, 2, 4, false},
		{Op{code.Store, 2, 1, 3}, 2, 4, false},
		{Op{code.Store, 1, 2, 3}, 3, 3, false},
		{Op{code.Store, 4, 0, 0}, 9, 9, false},
		{Op{code.Store, 0, 4, 0}, 9, 9, false},
		{Op{code.Store, 0, 0, 4}, 9, 9, false},
		{Op{code.Store, 0, 0, -1}, 4, 4, false},
		{Op{code.New, 3, 0, 0}, 4, 4, true},
		{Op{code.New, 3, 0, 0}, 3, 4, false},
		{Op{code.New, 0, 0, 0}, 1, 0, true},
		{Op{code.New, 0, 0, 0}, 1, -1, true},
		{Op{code.New, 0, 1, 0}, 4, 4, false},
		{Op{code.New, 0, 0, 1}, 4, 4, false},
		{Op{code.New, 0, -1, 0}, 4, 4, false},
		{Op{code.New, 4, 0, 0}, 9, 4, false},
		{Op{code.Move, 3, 2, 0}, 4, 0, true},
		{Op{code.Move, 2, 3, 0}, 4, -5, true},
		{Op{code.Move, 3, 2, 0}, 3, 4, false},
		{Op{code.Move, 2, 3, 0}, 3, 4, false},
		{Op{code.Move, 2, 4, 0}, 9, 4, false},
		{Op{code.Move, 2, 3, 1}, 4, 4, false},
		{Op{code.Move, 2, 3, -1}, 4, 4, false},
		{Op{code.Null, 3, 0, 0}, 4, 0, true},
		{Op{code.Null, 3, 0, 0}, 3, 4, false},
		{Op{code.Null, 0, 1, 0}, 4, 4, false},
		{Op{code.Null, 0, 0, 1}, 4, 4, false},
		{Op{code.Null, -1, 0, 0}, 4, 4, false},
		{Op{code.Null, 0, 0, 0}, 0, 4, false},
		{Op{code.Null, 0, 0, 0}, -1, 4, false},
		{Op{0, 0, 0, 0}, 4, 4, false},
		{Op{6, 0, 0, 0}, 4, 4, false},
		{Op{-1, 0, 0, 0}, 4, 4, false},
		{Op{1<<32 + 1, 0, 0, 0}, 4, 4, false},
		{Op{code.Load, 1 << 32, 0, 0}, math.MaxInt, math.MaxInt, false},
		{Op{code.Load, 0, 0, 0}, math.MaxInt, math.MaxInt, true},
		{Op{code.Load, 0, 0, 0}, math.MinInt, 1, false},
		{Op{code.Load, 0, 0, 0}, 1, math.MinInt, false},
		{Op{code.Load, math.MinInt, 0, 0}, math.MinInt + 1, 1, false},
		{Op{code.Load, 0, 0, -1}, 1, math.MinInt, false},
	} {
		if got := code.Right(c.o, c.regs, c.slots); got != c.want {
			t.Errorf("%d: %+v of %d, %d: %v", i, c.o, c.regs, c.slots, got)
		}
	}
}

// P11.1: of whatever numbers, as the words say.
func TestRightOfEach(t *testing.T) {
	right := 0
	for o := range around {
		for regs := -1; regs <= 6; regs++ {
			for slots := -1; slots <= 6; slots++ {
				want := is(o, regs, slots)
				if got := code.Right(o, regs, slots); got != want {
					t.Fatalf("%+v of %d, %d: %v", o, regs, slots, got)
				}
				if want {
					right++
				}
			}
		}
	}
	if right == 0 {
		t.Error("none is right")
	}
	for o := range distant {
		for _, n := range []int{4, math.MaxInt, math.MinInt, 1 << 32} {
			if got := code.Right(o, n, n); got != is(o, n, n) {
				t.Fatalf("%+v of %d: %v", o, n, got)
			}
		}
	}
}

// P11.1: what fits is right, op by op, and no more than there may be.
func TestFits(t *testing.T) {
	null, load, store := Op{Kind: code.Null}, Op{code.Load, 1, 0, 2}, Op{code.Store, 0, 2, 1}
	for i, c := range []struct {
		l           []Op
		regs, slots int
		want        bool
	}{
		{nil, 0, 0, true},
		{nil, -1, math.MinInt, true},
		{[]Op{}, 4, 4, true},
		{[]Op{null}, 1, 0, true},
		{[]Op{null}, 0, 0, false},
		{[]Op{{}}, 4, 4, false},
		{[]Op{null, load, store}, 3, 3, true},
		{[]Op{null, load, store}, 2, 3, false},
		{[]Op{null, load, store}, 3, 2, false},
		{[]Op{null, load, store}, 99, 99, true},
		{[]Op{null, load, store, {}}, 4, 4, false},
		{[]Op{{}, null, load, store}, 4, 4, false},
		{[]Op{null, {Kind: code.New, A: 1}, null}, 4, 4, false},
		{slices.Repeat([]Op{load}, 63), 2, 3, true},
		{slices.Repeat([]Op{load}, 64), 2, 3, true},
		{slices.Repeat([]Op{load}, 65), 2, 3, false},
		{slices.Repeat([]Op{null}, 65), 4, 4, false},
		{slices.Repeat([]Op{null}, 100000), 4, 4, false},
		{append(slices.Repeat([]Op{null}, 63), load), 2, 3, true},
		{append(slices.Repeat([]Op{null}, 63), load), 1, 3, false},
		{append(slices.Repeat([]Op{null}, 63), load), 2, 2, false},
	} {
		if got := code.Fits(c.l, c.regs, c.slots); got != c.want {
			t.Errorf("%d: %v", i, got)
		}
	}
}

// P11.1: one op alone fits just if it is right.
func TestFitsOfEach(t *testing.T) {
	for o := range around {
		for n := 0; n <= 5; n++ {
			if code.Fits([]Op{o}, n, 4) != is(o, n, 4) || code.Fits([]Op{{Kind: code.Null}, o}, 4, n) != is(o, 4, n) {
				t.Fatalf("%+v of %d", o, n)
			}
		}
	}
}

// P11.1: Stores are counted, and nothing else.
func TestWrites(t *testing.T) {
	store := Op{code.Store, 1, 2, 3}
	for i, c := range []struct {
		l    []Op
		want int
	}{
		{nil, 0},
		{[]Op{}, 0},
		{[]Op{store}, 1},
		{[]Op{store, store, store}, 3},
		{[]Op{{Kind: code.Load}, {Kind: code.New}, {Kind: code.Move}, {Kind: code.Null}, {}, {Kind: 6}, {Kind: -2}, {Kind: 1<<32 + 2}}, 0},
		{[]Op{{Kind: code.Load}, store, {Kind: code.Null}, {Kind: code.Store}, {}}, 2},
		{slices.Repeat([]Op{store}, 64), 64},
		{slices.Repeat([]Op{store, {Kind: code.Move}}, 1000), 1000},
	} {
		if got := code.Writes(c.l); got != c.want {
			t.Errorf("%d: %d, not %d", i, got, c.want)
		}
	}
}

// P11.2: the text of each op that is right; of what is not, a question mark.
func TestText(t *testing.T) {
	for text, o := range texts() {
		if got := code.Text(o); got != text {
			t.Errorf("%+v: %q, not %q", o, got, text)
		}
	}
	met := map[string]bool{}
	for o := range around {
		got := code.Text(o)
		if is(o, maxRegs, maxSlots) {
			met[got] = true
		} else if got != "?" {
			t.Errorf("%+v: %q", o, got)
		}
	}
	if len(met) != len(texts()) {
		t.Error(len(met), "are told")
	}
	for o := range distant {
		if got := code.Text(o); (got == "?") == is(o, maxRegs, maxSlots) {
			t.Fatalf("%+v: %q", o, got)
		}
	}
}

// P11.2: ops one behind another, right or not, however many.
func TestPrint(t *testing.T) {
	load, store := Op{code.Load, 1, 0, 0}, Op{code.Store, 1, 0, 1}
	for i, c := range []struct {
		l    []Op
		want string
	}{
		{nil, "-"},
		{[]Op{}, "-"},
		{[]Op{load}, "B=A.0"},
		{[]Op{load, store}, "B=A.0;A.1=B"},
		{[]Op{store, load, store}, "A.1=B;B=A.0;A.1=B"},
		{[]Op{{}}, "?"},
		{[]Op{{}, {}}, "?;?"},
		{[]Op{load, {}, store}, "B=A.0;?;A.1=B"},
		{[]Op{{Kind: code.Null, R: 4}, {Kind: code.Null, R: 3}}, "?;D=0"},
		{slices.Repeat([]Op{load}, 65), "B=A.0" + strings.Repeat(";B=A.0", 64)},
	} {
		if got := code.Print(c.l); got != c.want {
			t.Errorf("%d: %q, not %q", i, got, c.want)
		}
	}
}

// P11.2: the chapter's example.
func TestParseExample(t *testing.T) {
	l, e := code.Parse("B=A.0;A.1=B")
	if e != api.OK || !slices.Equal(l, []Op{{code.Load, 1, 0, 0}, {code.Store, 1, 0, 1}}) {
		t.Error(l, e)
	}
}

// P11.2: of a line none, of each op's text that op.
func TestParse(t *testing.T) {
	if l, e := code.Parse("-"); e != api.OK || len(l) != 0 {
		t.Error(l, e)
	}
	for text, o := range texts() {
		if l, e := code.Parse(text); e != api.OK || !slices.Equal(l, []Op{o}) {
			t.Errorf("%q: %v, %v", text, l, e)
		}
		if l, e := code.Parse("D=new;" + text + ";" + text); e != api.OK || !slices.Equal(l, []Op{{Kind: code.New, R: 3}, o, o}) {
			t.Errorf("%q: %v, %v", text, l, e)
		}
	}
}

// P11.2, P2: what is no program's text tells ErrParse, and no ops.
func TestParseWrong(t *testing.T) {
	for _, s := range []string{
		"", " ", ";", ";;", "-;", ";-", "--", "- ", " -", "-;-", "-;A=0", "A=0;-", "?", "?;?", "A=0;?", "?=?", "A=?", "A=-",
		"A", "A=", "=A", "=", "==", "A==A", "A=A=", "=A=A", "A=A=A", "A=A.0=A", "A.0=A=A", "A=0=0", "A=new=new",
		"0", "0=0", "0=A", "0=new", "new", "new=new", "new=A", "new=0", "A.0", "A.0=", "=A.0", "A.0=0", "A.0=new", "A.0=A.0", "A.0=B.1", "0=A.0", "new=A.0",
		"E=A", "A=E", "E=0", "E=new", "E=A.0", "A=E.0", "E.0=A", "A.0=E", "@=A", "A=@", "A=@.0", "@.0=A", "Z=0", "[=0",
		"a=A", "A=a", "a=0", "a=new", "a.0=A", "A=a.0", "A=New", "A=NEW", "A=neW", "A=ne", "A=news", "A=nnew", "A=nil", "A=null",
		"A=1", "A=00", "A=01", "A=-0", "A=+0", "A=0.0", "A=0.", "A=.0", "A=.", "A=..", "A=A.", "A=A..", "A=A..0", "A=A.0.0", "A=A.0.", "A=.A.0", "A=A,0", "A=A:0", "A=A0", "A=A 0",
		"A=A.4", "A=A.9", "A=A./", "A=A.-", "A=A.-1", "A=A.00", "A=A.01", "A=A.10", "A=A.+1", "A=A.x", "A=A.A", "A=A.\u0661", "A=0.A", "A=new.0",
		"A.4=A", "A.9=A", "A./=A", "A.-1=A", "A.00=A", "A.10=A", "A.=A", ".0=A", ".=A", "A..0=A", "A.0.0=A", "0.0=A", "new.0=A", "A.A=A",
		" A=0", "A =0", "A= 0", "A=0 ", "A=0\n", "\nA=0", "A=0\t", "A=0\x00", "A\u00a0=0", "A.0 =A", "A. 0=A", "A=A .0", "A=A.0 ", "A=new ", "A= new",
		"A=0;", ";A=0", "A=0;;A=0", "A=0; A=0", "A=0 ;A=0", "A=0,A=0", "A=0\nA=0", "A=0:A=0", "A=0\uff1bA=0", "A=0;A", "A=0;A=E", "E=A;A=0",
		"AA=A", "A=AA", "AB=0", "A=AB.0", "AB.0=A", "A:=A", "A\uff1dA", "\u0391=A", "A=\u0391", "\uff21=0", "A=\uff10", "A=A\uff0e0", "A=\xff", "\xff=A", "\xff", "A=\xc1", "\xc1=0", "A=A.\xb0", "A=A\xae0",
		"A<B", "R=A.S", "A=B.S", "A=new()", "(A=0)", "\"A=0\"", "A=0//",
		strings.Repeat("A", 100000), strings.Repeat("A=", 100000), strings.Repeat("=", 100000), strings.Repeat("A.", 100000) + "=A", "A=" + strings.Repeat("0", 100000), "A=A." + strings.Repeat("0", 100000), "A=A" + strings.Repeat(".0", 100000), strings.Repeat(";", 100000), strings.Repeat("A=0;", 100000), strings.Repeat("-", 100000),
	} {
		if l, e := code.Parse(s); e != api.ErrParse || len(l) != 0 {
			t.Errorf("%.40q: %v, %v", s, l, e)
		}
	}
}

// P11.2: a register or a slot is one byte, and no other byte will do in its
// place.
func TestParseOtherBytes(t *testing.T) {
	all := texts()
	for text := range all {
		for at := range len(text) {
			for b := range 256 {
				if b == ';' {
					continue
				}
				s := text[:at] + string([]byte{byte(b)}) + text[at+1:]
				checkOne(t, all, s)
				checkOne(t, all, text[:at]+string([]byte{byte(b)})+text[at:])
			}
			checkOne(t, all, text[:at]+text[at+1:])
		}
	}
}

// checkOne holds what s, in which no semicolon is, is parsed as against the
// texts of all ops.
func checkOne(t *testing.T, all map[string]Op, s string) {
	t.Helper()
	l, e := code.Parse(s)
	if o, ok := all[s]; ok {
		if e != api.OK || !slices.Equal(l, []Op{o}) {
			t.Errorf("%q: %v, %v", s, l, e)
		}
		return
	}
	if e != api.ErrParse || len(l) != 0 {
		t.Errorf("%q: %v, %v", s, l, e)
	}
}

// P11.2: of all short texts of these bytes those are taken that are some op's,
// and no others.
func TestParseAllShort(t *testing.T) {
	all := texts()
	every := []string{""}
	for range 5 {
		var longer []string
		for _, s := range every {
			for _, b := range "ADE.=034new" {
				longer = append(longer, s+string(b))
			}
		}
		for _, s := range longer {
			checkOne(t, all, s)
		}
		every = longer
	}
}

// P11.2: as many ops as there may be, and one more; ErrParse goes ahead of
// ErrLimit, wherever it is.
func TestParseLimit(t *testing.T) {
	r := random(11)
	for n := 1; n <= 3*maxOps; n++ {
		want, text := r.program(n)
		l, e := code.Parse(strings.Join(text, ";"))
		if n <= maxOps && (e != api.OK || !slices.Equal(l, want)) {
			t.Errorf("%d: %v, %v", n, l, e)
		}
		if n > maxOps && (e != api.ErrLimit || len(l) != 0) {
			t.Errorf("%d: %v, %v", n, l, e)
		}
		for _, wrong := range []string{"", "-", "?", "A=E", "A=A.4"} {
			for _, at := range []int{0, n / 2, n} {
				s := strings.Join(slices.Insert(slices.Clone(text), at, wrong), ";")
				if l, e := code.Parse(s); e != api.ErrParse || len(l) != 0 {
					t.Errorf("%d, %q at %d: %v, %v", n, wrong, at, l, e)
				}
			}
		}
	}
	if l, e := code.Parse(strings.Repeat("A=0;", 200000) + "A=0"); e != api.ErrLimit || len(l) != 0 {
		t.Error(len(l), e)
	}
	if l, e := code.Parse(strings.Repeat("A=0;", 200000) + "A=1"); e != api.ErrParse || len(l) != 0 {
		t.Error(len(l), e)
	}
}

// P11.3: what is printed of right ops is parsed as them.
func TestPrintedIsParsed(t *testing.T) {
	r := random(113)
	for n := range maxOps + 1 {
		for range 20 {
			want, text := r.program(n)
			s := code.Print(want)
			if n > 0 && s != strings.Join(text, ";") || n == 0 && s != "-" {
				t.Fatalf("%v: %q", want, s)
			}
			if l, e := code.Parse(s); e != api.OK || !slices.Equal(l, want) || !code.Fits(l, maxRegs, maxSlots) {
				t.Fatalf("%q: %v, %v", s, l, e)
			}
		}
	}
	for o := range around {
		if !is(o, maxRegs, maxSlots) {
			continue
		}
		if l, e := code.Parse(code.Print([]Op{o})); e != api.OK || !slices.Equal(l, []Op{o}) {
			t.Errorf("%+v: %v, %v", o, l, e)
		}
	}
}

// P11.3: two ops are shown alike just if they are the same, and so are two
// programs.
func TestShownAlike(t *testing.T) {
	shown := map[string]Op{}
	for o := range around {
		if !is(o, maxRegs, maxSlots) {
			continue
		}
		text := code.Text(o)
		if other, ok := shown[text]; ok {
			t.Errorf("%q is of %+v and %+v", text, o, other)
		}
		shown[text] = o
	}
	if len(shown) != 4*4*4*2+4*4+4+4 {
		t.Error(len(shown), "are shown")
	}
	programs := map[string][]Op{}
	keep := func(l []Op) {
		text := code.Print(l)
		if other, ok := programs[text]; ok && !slices.Equal(l, other) {
			t.Errorf("%q is of %v and %v", text, l, other)
		}
		programs[text] = l
	}
	keep(nil)
	for _, a := range texts() {
		keep([]Op{a})
		for _, b := range texts() {
			keep([]Op{a, b})
		}
	}
	if n := len(texts()); len(programs) != 1+n+n*n {
		t.Error(len(programs), "are shown")
	}
}

// P1: every call ends, whatever it is given.
func TestEnds(t *testing.T) {
	var l []Op
	for o := range distant {
		l = append(l, o)
	}
	for _, n := range far() {
		code.Fits(l, n, n)
		code.Fits(l[:maxOps], n, -n)
	}
	stores := 0
	for _, o := range l {
		if o.Kind == code.Store {
			stores++
		}
	}
	if got := code.Writes(l); got != stores {
		t.Error(got, stores)
	}
	if got := strings.Count(code.Print(l), ";"); got != len(l)-1 {
		t.Error(got)
	}
	r := random(1)
	for range 20000 {
		b := make([]byte, r.under(40))
		for i := range b {
			b[i] = byte(r.under(256))
			if r.under(4) > 0 {
				b[i] = "ABCDE.=;0134new-?"[r.under(17)]
			}
		}
		if l, e := code.Parse(string(b)); e == api.OK && code.Print(l) != string(b) || e != api.OK && len(l) != 0 {
			t.Fatalf("%q: %v, %v", b, l, e)
		}
	}
}

// P3: nothing that is handed in is written into, nor what stands behind it;
// and what is told is new.
func TestNothingIsWrittenInto(t *testing.T) {
	whole, _ := (new(random)).program(8)
	kept := slices.Clone(whole)
	for n := range 6 {
		l := whole[1 : 1+n]
		code.Fits(l, maxRegs, maxSlots)
		code.Writes(l)
		code.Print(l)
		if !slices.Equal(whole, kept) {
			t.Fatalf("%d: %v", n, whole)
		}
	}
	s := code.Print(whole)
	first, _ := code.Parse(s)
	second, _ := code.Parse(s)
	for i := range first {
		first[i] = Op{}
	}
	third, e := code.Parse(s)
	if e != api.OK || !slices.Equal(second, kept) || !slices.Equal(third, kept) {
		t.Error(second, third, e)
	}
}

// P4: the same arguments tell the same, again and again.
func TestSameAgain(t *testing.T) {
	r := random(4)
	for n := range 80 {
		l, text := r.program(n)
		s := strings.Join(text, ";")
		told, e := code.Parse(s)
		for range 20 {
			again, errno := code.Parse(s)
			if errno != e || !slices.Equal(again, told) || code.Print(slices.Clone(l)) != code.Print(l) {
				t.Fatalf("%q", s)
			}
		}
	}
}

// P6: numbers that differ by 2^32 alone, or by their sign, are told apart.
func TestNumbersAreWhole(t *testing.T) {
	for text, o := range texts() {
		for _, other := range []Op{
			{o.Kind + 1<<32, o.R, o.A, o.S}, {o.Kind, o.R + 1<<32, o.A, o.S}, {o.Kind, o.R, o.A + 1<<32, o.S}, {o.Kind, o.R, o.A, o.S + 1<<32},
			{o.Kind - 1<<32, o.R, o.A, o.S}, {o.Kind, o.R - 1<<32, o.A, o.S}, {o.Kind, o.R, o.A - 1<<32, o.S}, {o.Kind, o.R, o.A, o.S - 1<<32},
			{-o.Kind, o.R, o.A, o.S}, {o.Kind, -1 - o.R, o.A, o.S}, {o.Kind, o.R, -1 - o.A, o.S}, {o.Kind, o.R, o.A, -1 - o.S},
			{o.Kind, o.R + 256, o.A, o.S}, {o.Kind, o.R, o.A + 256, o.S}, {o.Kind, o.R, o.A, o.S + 256},
		} {
			if code.Right(other, maxRegs, maxSlots) || code.Text(other) != "?" || code.Fits([]Op{other}, maxRegs, maxSlots) {
				t.Errorf("%s: %+v is right", text, other)
			}
		}
	}
}
