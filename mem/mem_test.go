package mem_test

import (
	"math"
	"slices"
	"testing"

	"besom/mem"
)

// most is the greatest number that a cell may have.
const most = uint64(math.MaxUint64)

// load, store, swap and add are deeds of each kind on the cell at.
func load(at int) mem.Op                  { return mem.Op{Kind: mem.Load, At: at} }
func store(at int, a uint64) mem.Op       { return mem.Op{Kind: mem.Store, At: at, A: a} }
func swap(at int, from, to uint64) mem.Op { return mem.Op{Kind: mem.Swap, At: at, A: from, B: to} }
func add(at int, a uint64) mem.Op         { return mem.Op{Kind: mem.Add, At: at, A: a} }

// isKind tells whether kind is one of the four.
func isKind(kind int) bool {
	return 1 <= kind && kind <= 4
}

// kinds are numbers of which four are kinds, at the edges of these and of 64
// bits.
func kinds() []int {
	return []int{1, 2, 3, 4, 0, 5, 6, 7, 8, 64, -1, -2, -3, -4, 1 << 32, 1<<32 + 1, 1<<32 + 2, 1<<32 + 3, 1<<32 + 4, 1<<62 + 1, math.MaxInt, math.MaxInt - 1, math.MinInt, math.MinInt + 1, math.MinInt + 4}
}

// places are numbers of which few are places, at the edges of these and of 64
// bits.
func places() []int {
	return []int{0, 1, 2, 3, 4, 5, 8, 64, -1, -2, -3, -64, 1 << 32, 1<<32 + 1, -1 << 32, 1 << 61, 1 << 62, math.MaxInt, math.MaxInt - 1, math.MinInt, math.MinInt + 1}
}

// values are what cells and deeds may have, at the edges of 64 bits.
func values() []uint64 {
	return []uint64{0, 1, 2, 5, 1<<31 - 1, 1 << 32, 1<<63 - 1, 1 << 63, 1<<63 + 1, most - 1, most}
}

// random is a source of numbers by a short rule.
type random uint64

// under tells a number from 0 to n - 1.
func (r *random) under(n int) int {
	*r = *r*6364136223846793005 + 1442695040888963407
	return int(uint64(*r)>>33) % n
}

// value tells a small number, or one of those at the edges.
func (r *random) value() uint64 {
	if r.under(3) > 0 {
		return uint64(r.under(4))
	}
	return values()[r.under(len(values()))]
}

// mem tells n cells.
func (r *random) mem(n int) mem.Mem {
	var m mem.Mem
	for range n {
		m = append(m, r.value())
	}
	return m
}

// op tells a deed that is likely one on some of n cells.
func (r *random) op(n int) mem.Op {
	return mem.Op{Kind: r.under(6), At: r.under(n+2) - 1, A: r.value(), B: r.value()}
}

// ops tells n deeds that are likely ones on some of so many cells.
func (r *random) ops(n, cells int) []mem.Op {
	var l []mem.Op
	for range n {
		l = append(l, r.op(cells))
	}
	return l
}

// plainly tells what Do has to answer, by the chapter's words.
func plainly(m mem.Mem, o mem.Op) (mem.Mem, uint64, bool) {
	told := append(mem.Mem{}, m...)
	if o.At < 0 || o.At >= len(m) || !isKind(o.Kind) {
		return told, 0, false
	}
	v := m[o.At]
	switch o.Kind {
	case 2:
		told[o.At] = o.A
	case 3:
		if v != o.A {
			return told, v, false
		}
		told[o.At] = o.B
	case 4:
		told[o.At] = v + o.A
	}
	return told, v, true
}

// check holds Do against the chapter's words.
func check(t *testing.T, m mem.Mem, o mem.Op) {
	t.Helper()
	want, wantV, wantOk := plainly(m, o)
	got, v, ok := mem.Do(m, o)
	if !slices.Equal(got, want) || v != wantV || ok != wantOk {
		t.Fatalf("Do %v, %+v: %v, %d, %v, not %v, %d, %v", m, o, got, v, ok, want, wantV, wantOk)
	}
}

// P5.1: the kinds are numbered as the chapter has them.
func TestKinds(t *testing.T) {
	if mem.Load != 1 || mem.Store != 2 || mem.Swap != 3 || mem.Add != 4 {
		t.Error(mem.Load, mem.Store, mem.Swap, mem.Add)
	}
}

// P5.1: each kind, on the first cell, on the last one, and on one between.
func TestDo(t *testing.T) {
	for i, c := range []struct {
		m    mem.Mem
		o    mem.Op
		want mem.Mem
		v    uint64
		ok   bool
	}{
		{mem.Mem{5}, swap(0, 5, 7), mem.Mem{7}, 5, true},
		{mem.Mem{5}, swap(0, 7, 5), mem.Mem{5}, 5, false},
		{mem.Mem{5}, swap(0, 5, 5), mem.Mem{5}, 5, true},
		{mem.Mem{0}, swap(0, 0, 0), mem.Mem{0}, 0, true},
		{mem.Mem{0}, swap(0, 1, 0), mem.Mem{0}, 0, false},
		{mem.Mem{0}, swap(0, 0, most), mem.Mem{most}, 0, true},
		{mem.Mem{most}, swap(0, most, 0), mem.Mem{0}, most, true},
		{mem.Mem{1 << 32}, swap(0, 0, 1), mem.Mem{1 << 32}, 1 << 32, false},
		{mem.Mem{1 << 63}, swap(0, 0, 1), mem.Mem{1 << 63}, 1 << 63, false},
		{mem.Mem{1, 2, 1}, swap(2, 1, 9), mem.Mem{1, 2, 9}, 1, true},
		{mem.Mem{1, 2, 1}, swap(1, 1, 9), mem.Mem{1, 2, 1}, 2, false},

		{mem.Mem{5}, load(0), mem.Mem{5}, 5, true},
		{mem.Mem{0, most, 3}, load(1), mem.Mem{0, most, 3}, most, true},
		{mem.Mem{0, most, 3}, load(2), mem.Mem{0, most, 3}, 3, true},
		{mem.Mem{0, most, 3}, load(0), mem.Mem{0, most, 3}, 0, true},
		{mem.Mem{5, 6}, mem.Op{Kind: mem.Load, At: 1, A: 7, B: 8}, mem.Mem{5, 6}, 6, true},

		{mem.Mem{5}, store(0, 7), mem.Mem{7}, 5, true},
		{mem.Mem{5}, store(0, 5), mem.Mem{5}, 5, true},
		{mem.Mem{1, 2, 3}, store(2, most), mem.Mem{1, 2, most}, 3, true},
		{mem.Mem{1, 2, 3}, store(1, 0), mem.Mem{1, 0, 3}, 2, true},
		{mem.Mem{5, 6}, mem.Op{Kind: mem.Store, At: 1, A: 7, B: 8}, mem.Mem{5, 7}, 6, true},

		{mem.Mem{5}, add(0, 7), mem.Mem{12}, 5, true},
		{mem.Mem{5}, add(0, 0), mem.Mem{5}, 5, true},
		{mem.Mem{most}, add(0, 1), mem.Mem{0}, most, true},
		{mem.Mem{most, most}, add(1, most), mem.Mem{most, most - 1}, most, true},
		{mem.Mem{4, 5, 6}, add(1, most), mem.Mem{4, 4, 6}, 5, true},
		{mem.Mem{4, 5, 6}, add(2, most-6), mem.Mem{4, 5, most}, 6, true},
		{mem.Mem{1 << 63}, add(0, 1<<63), mem.Mem{0}, 1 << 63, true},
		{mem.Mem{5, 6}, mem.Op{Kind: mem.Add, At: 1, A: 7, B: 8}, mem.Mem{5, 13}, 6, true},
	} {
		got, v, ok := mem.Do(c.m, c.o)
		if !slices.Equal(got, c.want) || v != c.v || ok != c.ok {
			t.Errorf("%d: %v, %d, %v, not %v, %d, %v", i, got, v, ok, c.want, c.v, c.ok)
		}
	}
}

// P5.1, P6: at what is no place nothing is done, and 0 told.
func TestDoNoPlace(t *testing.T) {
	for _, m := range []mem.Mem{nil, {}, {7}, {7, 8, 9}} {
		for _, at := range places() {
			if 0 <= at && at < len(m) {
				continue
			}
			for kind := 1; kind <= 4; kind++ {
				for _, a := range []uint64{0, 7, 9, most} {
					got, v, ok := mem.Do(m, mem.Op{Kind: kind, At: at, A: a, B: 1})
					if !slices.Equal(got, m) || v != 0 || ok {
						t.Errorf("%v at %d, kind %d: %v, %d, %v", m, at, kind, got, v, ok)
					}
				}
			}
		}
	}
}

// P5.1: of what is no kind nothing is done, and 0 told, whatever the cell has.
func TestDoNoKind(t *testing.T) {
	m := mem.Mem{7, 8, 9}
	for _, kind := range kinds() {
		if isKind(kind) {
			continue
		}
		for at := range m {
			for _, a := range []uint64{0, 7, 8, 9, most} {
				got, v, ok := mem.Do(m, mem.Op{Kind: kind, At: at, A: a, B: 1})
				if !slices.Equal(got, m) || v != 0 || ok {
					t.Errorf("kind %d at %d: %v, %d, %v", kind, at, got, v, ok)
				}
			}
		}
	}
}

// P5.1: of all kinds, places and values at the edges, as the chapter says.
func TestDoEach(t *testing.T) {
	for _, x := range values() {
		for _, a := range values() {
			for _, b := range values() {
				for kind := -1; kind <= 6; kind++ {
					for at := -1; at <= 3; at++ {
						check(t, mem.Mem{a, x, b}, mem.Op{Kind: kind, At: at, A: a, B: b})
					}
				}
			}
		}
	}
	for _, kind := range kinds() {
		for _, at := range places() {
			for n := range 6 {
				m := mem.Mem{3, 0, most, 1, 1 << 63}[:min(n, 5)]
				check(t, m, mem.Op{Kind: kind, At: at, A: 3, B: 4})
			}
		}
	}
}

// P5.1: the same is what has as many cells, and the same in each of them.
func TestSame(t *testing.T) {
	for i, c := range []struct {
		a, b mem.Mem
		want bool
	}{
		{nil, nil, true},
		{nil, mem.Mem{}, true},
		{mem.Mem{}, mem.Mem{}, true},
		{nil, mem.Mem{0}, false},
		{mem.Mem{}, mem.Mem{0}, false},
		{mem.Mem{0}, mem.Mem{0}, true},
		{mem.Mem{0}, mem.Mem{1}, false},
		{mem.Mem{0}, mem.Mem{0, 0}, false},
		{mem.Mem{most}, mem.Mem{most}, true},
		{mem.Mem{most}, mem.Mem{most - 1}, false},
		{mem.Mem{1}, mem.Mem{1 << 32}, false},
		{mem.Mem{0}, mem.Mem{1 << 32}, false},
		{mem.Mem{0}, mem.Mem{1 << 63}, false},
		{mem.Mem{1, 2, 3}, mem.Mem{1, 2, 3}, true},
		{mem.Mem{1, 2, 3}, mem.Mem{3, 2, 1}, false},
		{mem.Mem{1, 2, 3}, mem.Mem{1, 3, 2}, false},
		{mem.Mem{1, 2, 3}, mem.Mem{1, 2, 4}, false},
		{mem.Mem{1, 2, 3}, mem.Mem{0, 2, 3}, false},
		{mem.Mem{1, 2, 3}, mem.Mem{1, 0, 3}, false},
		{mem.Mem{1, 2, 3}, mem.Mem{1, 2}, false},
		{mem.Mem{1, 2, 3}, mem.Mem{1, 2, 3, 0}, false},
		{mem.Mem{1, 2, 3, 4}[:3], mem.Mem{1, 2, 3, 5}[:3], true},
	} {
		if mem.Same(c.a, c.b) != c.want || mem.Same(c.b, c.a) != c.want {
			t.Errorf("%d: not %v", i, c.want)
		}
	}
}

// P5.1: no cell counts less than another one, however many there are.
func TestSameLong(t *testing.T) {
	a := make(mem.Mem, 1000)
	b := slices.Clone(a)
	for i := range b {
		b[i]++
		if mem.Same(a, b) || mem.Same(b, a) {
			t.Errorf("%d doesn't count", i)
		}
		b[i]--
	}
	if !mem.Same(a, b) {
		t.Error("not the same")
	}
}

// P5.2: one behind another, each on what came of the one ahead.
func TestAll(t *testing.T) {
	for i, c := range []struct {
		m    mem.Mem
		l    []mem.Op
		want mem.Mem
		told []uint64
		many int
	}{
		{mem.Mem{5}, []mem.Op{swap(0, 5, 7)}, mem.Mem{7}, []uint64{5}, 1},
		{mem.Mem{5}, []mem.Op{swap(0, 5, 7), swap(0, 5, 8), swap(0, 7, 9)}, mem.Mem{9}, []uint64{5, 7, 7}, 2},
		{mem.Mem{5}, []mem.Op{add(0, 1), add(0, 1), add(0, most), load(0)}, mem.Mem{6}, []uint64{5, 6, 7, 6}, 4},
		{mem.Mem{1, 2}, []mem.Op{store(0, 2), store(1, 1), load(0), load(1)}, mem.Mem{2, 1}, []uint64{1, 2, 2, 1}, 4},
		{mem.Mem{1, 2}, []mem.Op{store(0, 3), store(0, 4), store(0, 5)}, mem.Mem{5, 2}, []uint64{1, 3, 4}, 3},
		{mem.Mem{1, 2}, []mem.Op{load(1), load(2), load(-1), load(0)}, mem.Mem{1, 2}, []uint64{2, 0, 0, 1}, 2},
		{mem.Mem{1, 2}, []mem.Op{store(2, 9), {}, {Kind: 5, A: 9}, {Kind: -1}}, mem.Mem{1, 2}, []uint64{0, 0, 0, 0}, 0},
		{mem.Mem{3, 4}, []mem.Op{{}, add(1, 6), {Kind: 9}, load(1)}, mem.Mem{3, 10}, []uint64{0, 4, 0, 10}, 2},
		{mem.Mem{0}, []mem.Op{swap(0, 1, 2), swap(0, 2, 1)}, mem.Mem{0}, []uint64{0, 0}, 0},
		{mem.Mem{8}, []mem.Op{swap(0, 1, 2), swap(0, 2, 1), load(0)}, mem.Mem{8}, []uint64{8, 8, 8}, 1},
		{nil, []mem.Op{load(0), store(0, 1), swap(0, 0, 1), add(0, 1)}, nil, []uint64{0, 0, 0, 0}, 0},
		{mem.Mem{6, 7}, nil, mem.Mem{6, 7}, nil, 0},
		{mem.Mem{6, 7}, []mem.Op{}, mem.Mem{6, 7}, nil, 0},
		{nil, nil, nil, nil, 0},
		{mem.Mem{}, []mem.Op{}, mem.Mem{}, []uint64{}, 0},
	} {
		got, told, many := mem.All(c.m, c.l)
		if !slices.Equal(got, c.want) || !slices.Equal(told, c.told) || many != c.many {
			t.Errorf("%d: %v, %v, %d, not %v, %v, %d", i, got, told, many, c.want, c.told, c.many)
		}
	}
}

// P5.2: All is Do for each, whatever the deeds are.
func TestAllIsDoForEach(t *testing.T) {
	r := random(5)
	for n := range 12 {
		for range 200 {
			m := r.mem(n)
			l := r.ops(r.under(20), n)
			want := slices.Clone(m)
			var wantTold []uint64
			wantMany := 0
			for _, o := range l {
				var v uint64
				var ok bool
				want, v, ok = plainly(want, o)
				wantTold = append(wantTold, v)
				if ok {
					wantMany++
				}
			}
			got, told, many := mem.All(m, l)
			if !slices.Equal(got, want) || !slices.Equal(told, wantTold) || many != wantMany {
				t.Fatalf("All %v, %+v: %v, %v, %d, not %v, %v, %d", m, l, got, told, many, want, wantTold, wantMany)
			}
		}
	}
}

// P5.3: each deed turns one cell at most, the one that it is on; there are as
// many cells behind it as ahead. What was not done, or was a load, turns none.
func TestOneCellAtMost(t *testing.T) {
	r := random(53)
	for n := range 12 {
		for range 500 {
			m, o := r.mem(n), r.op(n)
			got, v, ok := mem.Do(m, o)
			if len(got) != n {
				t.Fatalf("%v, %+v: %v", m, o, got)
			}
			for i := range m {
				if got[i] != m[i] && (i != o.At || !ok || o.Kind == mem.Load) {
					t.Fatalf("%v, %+v: %v", m, o, got)
				}
			}
			if ok && v != m[o.At] {
				t.Fatalf("%v, %+v: told %d", m, o, v)
			}
		}
	}
}

// P5.3: what was swapped had what it was held against, and has what was asked
// for; it is not swapped that way again, but where the two are one.
func TestSwapped(t *testing.T) {
	r := random(530)
	swapped := 0
	for range 5000 {
		m := r.mem(1 + r.under(5))
		o := swap(r.under(len(m)), r.value(), r.value())
		got, v, ok := mem.Do(m, o)
		if ok != (m[o.At] == o.A) || v != m[o.At] {
			t.Fatalf("%v, %+v: %d, %v", m, o, v, ok)
		}
		if !ok {
			continue
		}
		swapped++
		if now, _, _ := mem.Do(got, load(o.At)); got[o.At] != o.B || now[o.At] != o.B {
			t.Fatalf("%v, %+v: %v", m, o, got)
		}
		if _, v, again := mem.Do(got, o); again != (o.A == o.B) || v != o.B {
			t.Fatalf("%v, %+v, again: %d, %v", m, o, v, again)
		}
	}
	if swapped < 500 {
		t.Error("too few were swapped:", swapped)
	}
}

// P3: nothing that is handed in is written into, nor what stands behind it.
func TestNothingIsWrittenInto(t *testing.T) {
	whole := mem.Mem{5, 6, 7, 8}
	ops := []mem.Op{store(0, 1), add(1, 1), swap(0, 1, 2), load(1), store(2, 9), store(3, 9)}
	kept := slices.Clone(ops)
	m := whole[:2]
	for _, o := range ops {
		mem.Do(m, o)
	}
	mem.Do(m, swap(0, 5, 9))
	mem.All(m, ops[:5])
	mem.Same(m, whole)
	if !slices.Equal(whole, mem.Mem{5, 6, 7, 8}) || !slices.Equal(ops, kept) {
		t.Error(whole, ops)
	}
}

// P3: what is answered is new memory: what is written into it is not seen in
// what was handed in, nor in another answer, whether the deed was done or not.
func TestNewMemory(t *testing.T) {
	m := mem.Mem{5, 6, 7}
	spoil := func(l []uint64) {
		for i := range l[:cap(l)] {
			l[:cap(l)][i] = 99
		}
	}
	for _, o := range []mem.Op{load(1), store(1, 6), store(1, 9), swap(1, 6, 9), swap(1, 9, 6), add(1, 0), add(1, 3), load(3), load(-1), {}, {Kind: 5}} {
		first, _, _ := mem.Do(m, o)
		spoil(first)
		check(t, m, o)
		all, told, _ := mem.All(m, []mem.Op{o, o, o})
		spoil(told)
		if slices.Contains(all, 99) {
			t.Errorf("%+v: %v", o, all)
		}
		spoil(all)
		none, _, _ := mem.All(m, nil)
		spoil(none)
		if !slices.Equal(m, mem.Mem{5, 6, 7}) {
			t.Fatalf("%+v: %v", o, m)
		}
	}
}

// P4: the same is told again and again.
func TestSameAgain(t *testing.T) {
	m := mem.Mem{5, 6}
	l := []mem.Op{add(0, 1), store(1, 8), {Kind: 7}, swap(0, 6, 2), swap(0, 6, 3), load(1)}
	for range 100 {
		got, told, many := mem.All(m, l)
		if !slices.Equal(got, mem.Mem{2, 8}) || !slices.Equal(told, []uint64{5, 6, 0, 6, 2, 8}) || many != 4 {
			t.Fatal(got, told, many)
		}
		check(t, m, swap(0, 5, 7))
	}
}

// P1: many deeds on many cells end all the same.
func TestLong(t *testing.T) {
	const n = 1 << 18
	m := make(mem.Mem, n)
	var l []mem.Op
	for i := range n {
		l = append(l, add(i, uint64(i)), add(n-1-i, 1), load(n+i))
	}
	got, told, many := mem.All(m, l)
	if len(told) != 3*n || many != 2*n {
		t.Fatal(len(told), many)
	}
	for i, v := range got {
		if v != uint64(i)+1 {
			t.Fatal(i, v)
		}
	}
	if mem.Same(m, got) || !mem.Same(got, slices.Clone(got)) {
		t.Error("not the same, or the same")
	}
}
