package bag_test

import (
	"math"
	"slices"
	"testing"

	"besom/bag"
	"besom/set"
)

// numbers are what bags may have, at the edges of the objects and of 64 bits.
func numbers() []int {
	return []int{0, 1, 2, 63, 64, 65, 128, -1, -2, -64, 1<<31 - 1, 1 << 32, 1<<32 + 1, 1 << 62, math.MaxInt - 1, math.MaxInt, math.MinInt, math.MinInt + 1}
}

// random is a source of numbers by a short rule.
type random uint64

// under tells a number from 0 to n - 1.
func (r *random) under(n int) int {
	*r = *r*6364136223846793005 + 1442695040888963407
	return int(uint64(*r)>>33) % n
}

// number tells a small number, or one of those at the edges.
func (r *random) number() int {
	if r.under(4) > 0 {
		return r.under(5) - 1
	}
	return numbers()[r.under(len(numbers()))]
}

// bag tells n numbers.
func (r *random) bag(n int) bag.Bag {
	var b bag.Bag
	for range n {
		b = append(b, r.number())
	}
	return b
}

// mixed tells what b has, in another order.
func (r *random) mixed(b bag.Bag) bag.Bag {
	b = slices.Clone(b)
	for i := range b {
		j := i + r.under(len(b)-i)
		b[i], b[j] = b[j], b[i]
	}
	return b
}

// many tells a bag that has o n times.
func many(o, n int) bag.Bag {
	return slices.Repeat(bag.Bag{o}, n)
}

// sorted tells the norm of all parts together, by the chapter's words.
func sorted(parts ...bag.Bag) bag.Bag {
	l := slices.Concat(parts...)
	slices.Sort(l)
	return l
}

// counted tells how often b has o, by the chapter's words.
func counted(b bag.Bag, o int) int {
	n := 0
	for _, x := range b {
		if x == o {
			n++
		}
	}
	return n
}

// without tells what is left of a without each one that b has, and whether
// all of these were there.
func without(a, b bag.Bag) (bag.Bag, bool) {
	left := sorted(a)
	for _, o := range b {
		i := slices.Index(left, o)
		if i < 0 {
			return nil, false
		}
		left = slices.Delete(left, i, i+1)
	}
	return left, true
}

// P6.1: the norm has all numbers, rising, whatever they are.
func TestNorm(t *testing.T) {
	for i, c := range []struct{ b, want bag.Bag }{
		{bag.Bag{3, 1, 3, -2}, bag.Bag{-2, 1, 3, 3}},
		{bag.Bag{1, 2, 2}, bag.Bag{1, 2, 2}},
		{bag.Bag{2, 1, 2}, bag.Bag{1, 2, 2}},
		{bag.Bag{2, 1, 1}, bag.Bag{1, 1, 2}},
		{bag.Bag{10, 9, 1}, bag.Bag{1, 9, 10}},
		{bag.Bag{7}, bag.Bag{7}},
		{bag.Bag{0, 0}, bag.Bag{0, 0}},
		{bag.Bag{65, 64, 0, 1, -1}, bag.Bag{-1, 0, 1, 64, 65}},
		{bag.Bag{math.MaxInt, math.MinInt, 0, math.MaxInt}, bag.Bag{math.MinInt, 0, math.MaxInt, math.MaxInt}},
		{bag.Bag{1 << 32, 1<<32 + 1, 1, 0}, bag.Bag{0, 1, 1 << 32, 1<<32 + 1}},
		{nil, nil},
		{bag.Bag{}, nil},
	} {
		if got := bag.Norm(c.b); !slices.Equal(got, c.want) {
			t.Errorf("%d: %v, not %v", i, got, c.want)
		}
	}
	r := random(61)
	for n := range 60 {
		for range 20 {
			b := r.bag(n)
			if got := bag.Norm(b); !slices.Equal(got, sorted(b)) {
				t.Fatalf("%v: %v", b, got)
			}
		}
	}
}

// P6.1: how often a number is there, and 0 of one that is not.
func TestCount(t *testing.T) {
	b := bag.Bag{3, 1, 3, -2, 3, math.MinInt, 0}
	for i, c := range []struct{ o, want int }{
		{3, 3}, {1, 1}, {-2, 1}, {0, 1}, {math.MinInt, 1},
		{2, 0}, {-3, 0}, {math.MaxInt, 0}, {1<<32 + 3, 0}, {65, 0},
	} {
		if got := bag.Count(b, c.o); got != c.want {
			t.Errorf("%d: %d has %d, not %d", i, c.o, got, c.want)
		}
	}
	r := random(611)
	for n := range 40 {
		b := r.bag(n)
		for _, o := range numbers() {
			if got := bag.Count(b, o); got != counted(b, o) {
				t.Fatalf("%d in %v: %d", o, b, got)
			}
		}
	}
	for _, o := range numbers() {
		if bag.Count(nil, o) != 0 || bag.Count(bag.Bag{}, o) != 0 {
			t.Error(o)
		}
	}
}

// P6.1: the same is what has each number as often.
func TestSame(t *testing.T) {
	for i, c := range []struct {
		a, b bag.Bag
		want bool
	}{
		{nil, nil, true},
		{nil, bag.Bag{}, true},
		{nil, bag.Bag{0}, false},
		{bag.Bag{0}, bag.Bag{0, 0}, false},
		{bag.Bag{3, 1, 3, -2}, bag.Bag{-2, 3, 3, 1}, true},
		{bag.Bag{3, 1, 3, -2}, bag.Bag{-2, 3, 1}, false},
		{bag.Bag{1, 1, 2}, bag.Bag{1, 2, 2}, false},
		{bag.Bag{1, 2}, bag.Bag{1, 3}, false},
		{bag.Bag{1, 4}, bag.Bag{2, 3}, false},
		{bag.Bag{1}, bag.Bag{1<<32 + 1}, false},
		{bag.Bag{math.MaxInt, math.MinInt}, bag.Bag{math.MinInt, math.MaxInt}, true},
		{bag.Bag{65, 1}, bag.Bag{1, 66}, false},
		{bag.Bag{1, 2, 3}[:2], bag.Bag{2, 1, 4}[:2], true},
	} {
		if bag.Same(c.a, c.b) != c.want || bag.Same(c.b, c.a) != c.want {
			t.Errorf("%d: not %v", i, c.want)
		}
	}
	r := random(612)
	for n := range 40 {
		a := r.bag(n)
		b := r.mixed(a)
		if !bag.Same(a, b) {
			t.Fatalf("%v, %v: not the same", a, b)
		}
		if n == 0 {
			continue
		}
		b[r.under(n)]++
		if bag.Same(a, b) {
			t.Fatalf("%v, %v: the same", a, b)
		}
	}
}

// P6.1: a number n times more, or fewer, but never fewer than none.
func TestAdd(t *testing.T) {
	b := bag.Bag{3, 1, 3, -2}
	for i, c := range []struct {
		o, n int
		want bag.Bag
	}{
		{3, 1, bag.Bag{-2, 1, 3, 3, 3}},
		{2, 2, bag.Bag{-2, 1, 2, 2, 3, 3}},
		{-9, 1, bag.Bag{-9, -2, 1, 3, 3}},
		{9, 1, bag.Bag{-2, 1, 3, 3, 9}},
		{math.MinInt, 1, bag.Bag{math.MinInt, -2, 1, 3, 3}},
		{math.MaxInt, 2, bag.Bag{-2, 1, 3, 3, math.MaxInt, math.MaxInt}},
		{3, 0, bag.Bag{-2, 1, 3, 3}},
		{9, 0, bag.Bag{-2, 1, 3, 3}},
		{3, -1, bag.Bag{-2, 1, 3}},
		{3, -2, bag.Bag{-2, 1}},
		{3, -3, bag.Bag{-2, 1}},
		{-2, -1, bag.Bag{1, 3, 3}},
		{9, -1, bag.Bag{-2, 1, 3, 3}},
		{1, math.MinInt, bag.Bag{-2, 3, 3}},
		{3, math.MinInt + 1, bag.Bag{-2, 1}},
		{9, math.MinInt, bag.Bag{-2, 1, 3, 3}},
		{3, -1 << 32, bag.Bag{-2, 1}},
	} {
		if got := bag.Add(b, c.o, c.n); !slices.Equal(got, c.want) {
			t.Errorf("%d: %v, not %v", i, got, c.want)
		}
	}
	if got := bag.Add(nil, 4, 2); !slices.Equal(got, bag.Bag{4, 4}) {
		t.Error(got)
	}
	if got := bag.Add(nil, 4, -2); len(got) != 0 {
		t.Error(got)
	}
}

// P6.1: what is above 1000 counts as 1000; what is below -1000 counts as it
// is.
func TestAddFar(t *testing.T) {
	for _, c := range []struct{ n, want int }{
		{999, 999}, {1000, 1000}, {1001, 1000}, {2000, 1000}, {1 << 32, 1000}, {1<<32 + 1, 1000}, {1 << 40, 1000}, {math.MaxInt, 1000},
	} {
		for _, b := range []bag.Bag{nil, {4}, {9, 4, 4, 1}, many(4, 1500)} {
			want := sorted(b, many(4, c.want))
			if got := bag.Add(b, 4, c.n); !slices.Equal(got, want) {
				t.Errorf("%d more: %d, not %d", c.n, len(got), len(want))
			}
		}
	}
	for _, c := range []struct{ n, left int }{
		{-999, 2001}, {-1000, 2000}, {-1001, 1999}, {-2999, 1}, {-3000, 0}, {-3001, 0}, {math.MinInt, 0},
	} {
		got := bag.Add(append(many(4, 3000), 5), 4, c.n)
		if want := append(many(4, c.left), 5); !slices.Equal(got, want) {
			t.Errorf("%d: %d are left, not %d", c.n, len(got)-1, c.left)
		}
	}
}

// P6.2: the sum is the norm of both together.
func TestSum(t *testing.T) {
	for i, c := range []struct{ a, b, want bag.Bag }{
		{bag.Bag{3, 1, 3, -2}, bag.Bag{2, 3}, bag.Bag{-2, 1, 2, 3, 3, 3}},
		{bag.Bag{1, 2}, bag.Bag{1, 2}, bag.Bag{1, 1, 2, 2}},
		{bag.Bag{9}, bag.Bag{8}, bag.Bag{8, 9}},
		{bag.Bag{2, 1}, nil, bag.Bag{1, 2}},
		{nil, bag.Bag{2, 1}, bag.Bag{1, 2}},
		{bag.Bag{}, bag.Bag{2, 1}, bag.Bag{1, 2}},
		{nil, nil, nil},
		{bag.Bag{}, bag.Bag{}, nil},
		{bag.Bag{math.MaxInt, 0}, bag.Bag{math.MinInt, math.MaxInt}, bag.Bag{math.MinInt, 0, math.MaxInt, math.MaxInt}},
		{many(7, 1500), many(7, 1500), many(7, 3000)},
	} {
		if got := bag.Sum(c.a, c.b); !slices.Equal(got, c.want) {
			t.Errorf("%d: %v, not %v", i, got, c.want)
		}
	}
}

// P6.2: what is left, if all that is taken out is there so often; nothing, if
// it is not.
func TestLess(t *testing.T) {
	b := bag.Bag{3, 1, 3, -2}
	for i, c := range []struct {
		a, b, want bag.Bag
		ok         bool
	}{
		{bag.Bag{1, 2, 2}, bag.Bag{2}, bag.Bag{1, 2}, true},
		{bag.Bag{2, 1, 2}, bag.Bag{2}, bag.Bag{1, 2}, true},
		{b, bag.Bag{3}, bag.Bag{-2, 1, 3}, true},
		{b, bag.Bag{3, 3}, bag.Bag{-2, 1}, true},
		{b, bag.Bag{3, -2, 3}, bag.Bag{1}, true},
		{b, bag.Bag{3, 3, 1, -2}, nil, true},
		{b, b, nil, true},
		{b, nil, bag.Bag{-2, 1, 3, 3}, true},
		{b, bag.Bag{}, bag.Bag{-2, 1, 3, 3}, true},
		{nil, nil, nil, true},
		{bag.Bag{}, nil, nil, true},
		{b, bag.Bag{3, 3, 3}, nil, false},
		{b, bag.Bag{1, 1}, nil, false},
		{b, bag.Bag{2}, nil, false},
		{b, bag.Bag{1, 2}, nil, false},
		{b, bag.Bag{2, 1}, nil, false},
		{b, bag.Bag{3, 3, 1, -2, 0}, nil, false},
		{bag.Bag{1}, bag.Bag{0}, nil, false},
		{nil, bag.Bag{0}, nil, false},
		{nil, bag.Bag{1}, nil, false},
		{bag.Bag{1}, bag.Bag{1<<32 + 1}, nil, false},
		{bag.Bag{math.MinInt, math.MaxInt}, bag.Bag{math.MinInt}, bag.Bag{math.MaxInt}, true},
		{many(5, 3000), many(5, 2000), many(5, 1000), true},
		{many(5, 2000), many(5, 2001), nil, false},
	} {
		got, ok := bag.Less(c.a, c.b)
		if !slices.Equal(got, c.want) || ok != c.ok {
			t.Errorf("%d: %v, %v, not %v, %v", i, got, ok, c.want, c.ok)
		}
	}
}

// P2, P6.2: where Less says no, nothing stands beside it, whatever was left.
func TestLessTellsNothing(t *testing.T) {
	got, ok := bag.Less(bag.Bag{1, 2, 3, 4, 5}, bag.Bag{1, 2, 9})
	if len(got) != 0 || ok {
		t.Error(got, ok)
	}
}

// P6.2: the set of a bag that has objects alone, none twice.
func TestOnce(t *testing.T) {
	for i, c := range []struct {
		b    bag.Bag
		want set.Set
		ok   bool
	}{
		{nil, 0, true},
		{bag.Bag{}, 0, true},
		{bag.Bag{3, 1}, 5, true},
		{bag.Bag{1, 3}, 5, true},
		{bag.Bag{64}, 1 << 63, true},
		{bag.Bag{64, 1}, 1<<63 | 1, true},
		{bag.Bag(set.List(set.First(64))), math.MaxUint64, true},
		{bag.Bag{1, 1}, 0, false},
		{bag.Bag{1, 2, 1}, 0, false},
		{bag.Bag{64, 64}, 0, false},
		{bag.Bag{0}, 0, false},
		{bag.Bag{65}, 0, false},
		{bag.Bag{-1}, 0, false},
		{bag.Bag{-63}, 0, false},
		{bag.Bag{1, 65}, 0, false},
		{bag.Bag{65, 1}, 0, false},
		{bag.Bag{1, 0}, 0, false},
		{bag.Bag{1, -1}, 0, false},
		{bag.Bag{2, 2, 65}, 0, false},
		{bag.Bag{1<<32 + 1}, 0, false},
		{bag.Bag{math.MaxInt}, 0, false},
		{bag.Bag{math.MinInt}, 0, false},
		{bag.Bag{math.MinInt + 1, 1}, 0, false},
		{append(bag.Bag(set.List(set.First(64))), 1), 0, false},
		{append(bag.Bag(set.List(set.First(64))), 65), 0, false},
		{many(3, 1000), 0, false},
	} {
		s, ok := bag.Once(c.b)
		if s != c.want || ok != c.ok {
			t.Errorf("%d: %v, %v, not %v, %v", i, s, ok, c.want, c.ok)
		}
	}
	r := random(62)
	for range 500 {
		s := set.Set(uint64(r.under(1<<31))<<33 ^ uint64(r.under(1<<31)))
		if got, ok := bag.Once(r.mixed(set.List(s))); got != s || !ok {
			t.Fatalf("%v: %v, %v", s, got, ok)
		}
	}
}

// P6.1, P6.2: all calls answer what the chapter's words say of any bags.
func TestAsTheWordsSay(t *testing.T) {
	r := random(6)
	taken := 0
	for n := range 12 {
		for range 300 {
			a, b := r.bag(n), r.bag(r.under(4))
			if got := bag.Sum(a, b); !slices.Equal(got, sorted(a, b)) {
				t.Fatalf("Sum %v, %v: %v", a, b, got)
			}
			want, wantOk := without(a, b)
			got, ok := bag.Less(a, b)
			if !slices.Equal(got, want) || ok != wantOk {
				t.Fatalf("Less %v, %v: %v, %v, not %v, %v", a, b, got, ok, want, wantOk)
			}
			if ok {
				taken++
			}
			o, more := r.number(), r.under(9)-4
			want = sorted(a, many(o, max(more, 0)))
			if more < 0 {
				want, _ = without(a, many(o, min(-more, counted(a, o))))
			}
			if got := bag.Add(a, o, more); !slices.Equal(got, want) {
				t.Fatalf("Add %v, %d, %d: %v, not %v", a, o, more, got, want)
			}
		}
	}
	if taken < 500 {
		t.Error("too few could be taken out:", taken)
	}
}

// P6.3: what was summed is left when one part is taken out; and the order
// does not matter, neither of the parts nor of what they have.
func TestPartsAreLeft(t *testing.T) {
	r := random(63)
	for range 3000 {
		a, b := r.bag(r.under(9)), r.bag(r.under(9))
		sum := bag.Sum(a, b)
		if left, ok := bag.Less(sum, b); !slices.Equal(left, bag.Norm(a)) || !ok {
			t.Fatalf("%v, %v without the second: %v, %v", a, b, left, ok)
		}
		if left, ok := bag.Less(sum, a); !slices.Equal(left, bag.Norm(b)) || !ok {
			t.Fatalf("%v, %v without the first: %v, %v", a, b, left, ok)
		}
		mixedA, mixedB := r.mixed(a), r.mixed(b)
		if !slices.Equal(bag.Sum(mixedB, mixedA), sum) {
			t.Fatalf("%v, %v: the order matters", a, b)
		}
		first, ok := bag.Less(a, b)
		again, okAgain := bag.Less(mixedA, mixedB)
		if !slices.Equal(first, again) || ok != okAgain {
			t.Fatalf("%v, %v: the order matters to Less", a, b)
		}
		s, ok := bag.Once(a)
		sAgain, okAgain := bag.Once(mixedA)
		if s != sAgain || ok != okAgain {
			t.Fatalf("%v: the order matters to Once", a)
		}
	}
}

// answers tells all bags that come of a, b and o.
func answers(a, b bag.Bag, o int) []bag.Bag {
	left, _ := bag.Less(a, b)
	whole, _ := bag.Less(a, nil)
	return []bag.Bag{bag.Norm(a), bag.Norm(b), bag.Add(a, o, 0), bag.Add(a, o, 2), bag.Add(a, o, -1), bag.Sum(a, b), bag.Sum(a, nil), bag.Sum(nil, a), left, whole}
}

// P3: nothing that is handed in is written into, nor what stands behind it.
func TestNothingIsWrittenInto(t *testing.T) {
	wholeA, wholeB := bag.Bag{3, 1, 3, -2, 8, 7}, bag.Bag{3, 1, 6, 5}
	a, b := wholeA[:4], wholeB[:2]
	answers(a, b, 1)
	answers(b, a, 9)
	bag.Count(a, 3)
	bag.Same(a, b)
	bag.Once(a)
	bag.Once(b)
	if !slices.Equal(wholeA, bag.Bag{3, 1, 3, -2, 8, 7}) || !slices.Equal(wholeB, bag.Bag{3, 1, 6, 5}) {
		t.Error(wholeA, wholeB)
	}
}

// P3: what is answered is new memory: what is written into it is not seen in
// what was handed in, nor in another answer, even of what is normed already.
func TestNewMemory(t *testing.T) {
	a, b := bag.Bag{1, 2, 2, 3}, bag.Bag{2}
	want := answers(a, b, 9)
	got := answers(a, b, 9)
	for i, l := range got {
		for j := range l[:cap(l)] {
			l[:cap(l)][j] = 99
		}
		for j := i + 1; j < len(got); j++ {
			if !slices.Equal(got[j], want[j]) {
				t.Errorf("answer %d is seen in answer %d", i, j)
			}
		}
	}
	if !slices.Equal(a, bag.Bag{1, 2, 2, 3}) || !slices.Equal(b, bag.Bag{2}) {
		t.Error(a, b)
	}
}

// P4: the same is told again and again, in whichever order a map goes.
func TestSameAgain(t *testing.T) {
	r := random(4)
	a := r.bag(100)
	want := sorted(a)
	for range 200 {
		if got := bag.Norm(a); !slices.Equal(got, want) {
			t.Fatal(got)
		}
		if got := bag.Add(a, 7, 1); !slices.Equal(got, sorted(a, bag.Bag{7})) {
			t.Fatal(got)
		}
	}
}

// P1: many numbers end all the same.
func TestLong(t *testing.T) {
	const n = 1 << 18
	var a, b bag.Bag
	for i := range n {
		a = append(a, n-i, i%7)
		b = append(b, i)
	}
	sum := bag.Sum(a, b)
	if !slices.Equal(sum, sorted(a, b)) {
		t.Fatal(len(sum))
	}
	if left, ok := bag.Less(sum, b); !slices.Equal(left, sorted(a)) || !ok {
		t.Fatal(len(left), ok)
	}
	if _, ok := bag.Less(b, sum); ok {
		t.Error("more was taken than there is")
	}
	if got := bag.Count(bag.Add(many(5, n), 5, n), 5); got != n+1000 {
		t.Error(got)
	}
	if !bag.Same(sum, bag.Sum(b, a)) || bag.Same(a, b) {
		t.Error("not the same, or the same")
	}
	if _, ok := bag.Once(b); ok {
		t.Error("once")
	}
}
