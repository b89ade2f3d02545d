package reach_test

import (
	"math"
	"slices"
	"testing"

	"besom/api"
	"besom/heap"
	"besom/reach"
	"besom/set"
)

// all is the set that has every object, beyond the one that has those that a
// heap of four has not.
const (
	all    = set.Set(math.MaxUint64)
	beyond = all &^ 15
)

// read is the right heap whose text is handed in.
func read(t *testing.T, text string) heap.Heap {
	t.Helper()
	h, e := heap.Parse(text)
	if e != api.OK {
		t.Fatalf("%q: %v", text, e)
	}
	return h
}

// of is a set of objects.
func of(l ...int) set.Set {
	return set.Of(l)
}

// chain is a heap of n objects, each of which has the next one in its slot.
func chain(n int) heap.Heap {
	h := heap.Heap{Slots: 1}
	for o := 1; o <= n; o++ {
		h.Objs = append(h.Objs, []int{o + 1})
	}
	return h
}

// random is a source of numbers by a short rule.
type random uint64

// under tells a number from 0 to n - 1.
func (r *random) under(n int) int {
	*r = *r*6364136223846793005 + 1442695040888963407
	return int(uint64(*r)>>33) % n
}

// some tells a set of few or many objects from 1 to n.
func (r *random) some(n int) set.Set {
	var s set.Set
	for range r.under(n + 2) {
		s = set.Add(s, 1+r.under(n+1))
	}
	return s
}

// heap tells a heap of n objects of which few or many slots have something.
func (r *random) heap(slots, n int) heap.Heap {
	h := heap.Heap{Slots: slots}
	few := 1 + r.under(6)
	for range n {
		l := make([]int, slots)
		for s := range l {
			if r.under(few) == 0 {
				l[s] = r.under(n + 1)
			}
		}
		h.Objs = append(h.Objs, l)
	}
	return h
}

// rightHeaps are heaps that are right, of all sizes.
func rightHeaps() []heap.Heap {
	r := random(4)
	var l []heap.Heap
	for slots := 1; slots <= 4; slots++ {
		for n := range 65 {
			l = append(l, r.heap(slots, n))
		}
	}
	return l
}

// wrongHeaps are heaps that are not right: in their Slots, in how many objects
// they have and how many slots these, in what is in the slots.
func wrongHeaps() []heap.Heap {
	l := []heap.Heap{
		{}, {Slots: -1}, {Slots: 5}, {Slots: math.MaxInt}, {Objs: [][]int{nil, {}, nil}},
		{Slots: 0, Objs: [][]int{{2}, {3, 1}, {}}},
		{Slots: math.MinInt, Objs: [][]int{{2}, {3}, {0}}},
		{Slots: 1, Objs: [][]int{{0, 3}, {0, 0, 0, 0, 0, 4}, {9, 2}, nil}},
		{Slots: 4, Objs: [][]int{{3}, {1}, {2}}},
		chain(64), chain(65), chain(200),
	}
	for _, v := range noObjects() {
		l = append(l, heap.Heap{Slots: 2, Objs: [][]int{{v, 2}, {3, v}, {v, v}, {v, 1}}})
	}
	r := random(44)
	for n := 60; n < 70; n++ {
		h := r.heap(3, 2*n)
		h.Objs = h.Objs[:n]
		l = append(l, h)
	}
	return l
}

// noObjects are numbers that are no object's of a heap of few.
func noObjects() []int {
	return []int{math.MinInt, math.MinInt + 1, -1 << 32, -64, -2, -1, 0, 5, 6, 63, 64, 65, 66, 128, 1 << 32, 1<<32 + 1, 1 << 62, math.MaxInt - 1, math.MaxInt}
}

// someSets are sets of few and of many objects, at the edges of a heap of n.
func someSets(n int) []set.Set {
	r := random(n)
	return []set.Set{0, 1, 2, of(n), of(n + 1), of(64), set.First(n), all &^ set.First(n), all, r.some(n), r.some(n), r.some(64)}
}

// isObject tells whether o is an object of h's.
func isObject(h heap.Heap, o int) bool {
	return 1 <= o && o <= len(h.Objs) && o <= 64
}

// plainly tells the distances by the chapter's words: first of the roots, then
// slot by slot, till none is less any more. An object has its slots looked at,
// if it is of open.
func plainly(h heap.Heap, roots, open set.Set) []int {
	dist := make([]int, min(len(h.Objs), 64))
	for i := range dist {
		dist[i] = -1
		if set.Has(roots, i+1) {
			dist[i] = 0
		}
	}
	for again := true; again; {
		again = false
		for i, far := range dist {
			if far < 0 || !set.Has(open, i+1) {
				continue
			}
			for _, v := range h.Objs[i] {
				if isObject(h, v) && (dist[v-1] < 0 || dist[v-1] > far+1) {
					dist[v-1] = far + 1
					again = true
				}
			}
		}
	}
	return dist
}

// met tells the objects that have a distance.
func met(dist []int) set.Set {
	var s set.Set
	for i, far := range dist {
		if far >= 0 {
			s = set.Add(s, i+1)
		}
	}
	return s
}

// check holds the three calls against what the chapter's words lead to.
func check(t *testing.T, h heap.Heap, roots, over set.Set) {
	t.Helper()
	want := plainly(h, roots, all)
	if got := reach.From(h, roots); got != met(want) {
		t.Fatalf("From %s of %v: %s, not %s", set.Text(roots), h, set.Text(got), set.Text(met(want)))
	}
	if got := reach.Dist(h, roots); !slices.Equal(got, want) {
		t.Fatalf("Dist %s of %v: %v, not %v", set.Text(roots), h, got, want)
	}
	via := met(plainly(h, roots, roots|over))
	if got := reach.Via(h, roots, over); got != via {
		t.Fatalf("Via %s, %s of %v: %s, not %s", set.Text(roots), set.Text(over), h, set.Text(got), set.Text(via))
	}
}

// P4.1: what is in the slots of what is reached is reached.
func TestFrom(t *testing.T) {
	for i, c := range []struct {
		text        string
		roots, want set.Set
	}{
		{"1|2|0|1", of(1), of(1, 2)},
		{"1|2|0|1", of(3), of(1, 2, 3)},
		{"1|2|0|1", of(2), of(2)},
		{"1|2|0|1", 0, 0},
		{"1|2|0|1", of(1, 2, 3), of(1, 2, 3)},
		{"1|2|0|1", of(4, 5, 64), 0},
		{"1|2|0|1", of(2, 4, 64), of(2)},
		{"1|2|0|1", all, of(1, 2, 3)},
		{"1", all, 0},
		{"4", 1, 0},
		{"1|0", 1, 1},
		{"1|1", 1, 1},
		{"1|1", 2, 0},
		{"1|2|1|0", of(2), of(1, 2)},
		{"1|2|3|1|1", of(3), of(1, 2, 3)},
		{"2|0,2|0,3|0,0", of(1), of(1, 2, 3)},
		{"2|2,0|3,0|0,0", of(1), of(1, 2, 3)},
		{"2|2,3|4,5|6,7|0,0|0,0|0,0|0,0|1,1", of(1), set.First(7)},
		{"2|2,3|4,5|6,7|0,0|0,0|0,0|0,0|1,1", of(3), of(3, 6, 7)},
		{"2|2,3|4,5|6,7|0,0|0,0|0,0|0,0|1,1", of(4, 8), of(1, 2, 3, 4, 5, 6, 7, 8)},
		{"4|2,3,4,5|0,0,0,0|0,0,0,0|0,0,0,0|0,0,0,0|0,0,0,1", of(1), set.First(5)},
		{"3|0,0,2|0,0,0|0,0,0", of(1, 3), of(1, 2, 3)},
		{"3|2,2,2|2,2,2|1,1,1", of(1), of(1, 2)},
	} {
		if got := reach.From(read(t, c.text), c.roots); got != c.want {
			t.Errorf("%d: %s, not %s", i, set.Text(got), set.Text(c.want))
		}
	}
}

// P4.1: roots and slots that have no object of the heap's have none; what is
// beside them counts all the same.
func TestFromNoObjects(t *testing.T) {
	for _, v := range noObjects() {
		h := heap.Heap{Slots: 2, Objs: [][]int{{v, 2}, {3, v}, {v, v}, {v, 1}}}
		if got := reach.From(h, of(1)); got != of(1, 2, 3) {
			t.Errorf("%d: %s", v, set.Text(got))
		}
		if got := reach.From(h, of(3)|beyond); got != of(3) {
			t.Errorf("%d: %s", v, set.Text(got))
		}
	}
	if got := reach.From(heap.Heap{}, all); got != 0 {
		t.Error(set.Text(got))
	}
}

// P4.1: objects are as many as there are Objs, and no more than MaxObjects:
// what is behind these is not reached, and leads nowhere.
func TestFromMaxObjects(t *testing.T) {
	for _, n := range []int{63, 64, 65, 66, 128, 200} {
		h := chain(n)
		if got := reach.From(h, 1); got != set.First(n) {
			t.Errorf("%d: %s", n, set.Text(got))
		}
		if got := reach.From(h, of(n, 64)); got != set.First(n)&of(n, 64) {
			t.Errorf("%d: %s", n, set.Text(got))
		}
	}
	around := chain(66)
	around.Objs[63], around.Objs[64] = []int{65}, []int{1}
	if got := reach.From(around, of(64)); got != of(64) {
		t.Error(set.Text(got))
	}
}

// P4.1: the slots of an object are those that it has, whatever Slots says.
func TestSlotsThatThereAre(t *testing.T) {
	for _, slots := range []int{math.MinInt, -1, 0, 1, 2, 3, 4, 5, math.MaxInt} {
		h := heap.Heap{Slots: slots, Objs: [][]int{{0, 0, 0, 0, 0, 3}, nil, {4}, {}}}
		if got := reach.From(h, of(1)); got != of(1, 3, 4) {
			t.Errorf("%d: %s", slots, set.Text(got))
		}
		if got := reach.Dist(h, of(1)); !slices.Equal(got, []int{0, -1, 1, 2}) {
			t.Errorf("%d: %v", slots, got)
		}
		if got := reach.Via(h, of(1), 0); got != of(1, 3) {
			t.Errorf("%d: %s", slots, set.Text(got))
		}
	}
}

// P4.2: the least number of slots gone by from the nearest of the roots.
func TestDist(t *testing.T) {
	for i, c := range []struct {
		text  string
		roots set.Set
		want  []int
	}{
		{"1|2|0|1", of(1), []int{0, 1, -1}},
		{"1|2|0|1", of(3), []int{1, 2, 0}},
		{"1|2|0|1", of(1, 2, 3), []int{0, 0, 0}},
		{"1|2|0|1", 0, []int{-1, -1, -1}},
		{"1|2|0|1", of(4, 64), []int{-1, -1, -1}},
		{"1|2|0|1", of(3, 4), []int{1, 2, 0}},
		{"1", all, nil},
		{"1|1", 1, []int{0}},
		{"1|2|3|1", of(2), []int{2, 0, 1}},
		{"1|2|3|1", of(2, 3), []int{1, 0, 0}},
		// The way that is met first, or goes by lesser numbers, is the longer one.
		{"2|2,4|3,0|4,0|5,0|0,0", of(1), []int{0, 1, 2, 1, 2}},
		{"2|2,5|3,0|4,0|5,0|6,0|0,0", of(1), []int{0, 1, 2, 3, 1, 2}},
		{"2|4,2|5,0|0,0|3,0|3,0", of(1), []int{0, 1, 2, 1, 2}},
		{"2|3,4|0,0|2,0|5,0|2,0", of(1), []int{0, 2, 1, 1, 2}},
		{"1|2|3|4|5|0", of(1, 4), []int{0, 1, 2, 0, 1}},
		{"1|2|3|4|5|0", of(2, 5), []int{-1, 0, 1, 2, 0}},
		{"1|0|1|2|3|4", of(5), []int{4, 3, 2, 1, 0}},
		{"4|2,3,4,5|1,0,0,0|1,0,0,0|0,0,0,0|6,0,0,0|5,0,0,0", of(1), []int{0, 1, 1, 1, 1, 2}},
	} {
		if got := reach.Dist(read(t, c.text), c.roots); !slices.Equal(got, c.want) {
			t.Errorf("%d: %v, not %v", i, got, c.want)
		}
	}
}

// P4.2: a number for each of the first MaxObjects objects, however many there
// are, up to the farthest one.
func TestDistMaxObjects(t *testing.T) {
	for _, n := range []int{0, 1, 63, 64, 65, 66, 200} {
		var ahead, none []int
		for far := range min(n, 64) {
			ahead, none = append(ahead, far), append(none, -1)
		}
		if got := reach.Dist(chain(n), 1); !slices.Equal(got, ahead) {
			t.Errorf("%d: %v", n, got)
		}
		if got := reach.Dist(chain(n), 0); !slices.Equal(got, none) {
			t.Errorf("%d: %v", n, got)
		}
	}
	// The way by what is above MaxObjects is none.
	short := chain(66)
	short.Objs[0] = []int{65, 2}
	short.Objs[64] = []int{64}
	if got := reach.Dist(short, 1); len(got) != 64 || got[63] != 63 {
		t.Error(got)
	}
	if got := reach.Dist(heap.Heap{}, all); len(got) != 0 {
		t.Error(got)
	}
}

// P4.2: what is no object in a slot has no distance, and takes none.
func TestDistNoObjects(t *testing.T) {
	for _, v := range noObjects() {
		h := heap.Heap{Slots: 2, Objs: [][]int{{v, 2}, {3, v}, {v, v}, {v, 1}}}
		if got := reach.Dist(h, of(1)|beyond); !slices.Equal(got, []int{0, 1, 2, -1}) {
			t.Errorf("%d: %v", v, got)
		}
	}
}

// P4.3: slots are looked at just of what is of the roots, or of over, and
// reached.
func TestVia(t *testing.T) {
	for i, c := range []struct {
		text              string
		roots, over, want set.Set
	}{
		{"1|2|3|4|0", of(1), 0, of(1, 2)},
		{"1|2|3|4|0", of(1), of(1), of(1, 2)},
		{"1|2|3|4|0", of(1), of(2), of(1, 2, 3)},
		{"1|2|3|4|0", of(1), of(2, 3), of(1, 2, 3, 4)},
		{"1|2|3|4|0", of(1), of(3), of(1, 2)},
		{"1|2|3|4|0", of(1), of(3, 4), of(1, 2)},
		{"1|2|3|4|0", of(1, 3), 0, of(1, 2, 3, 4)},
		{"1|2|3|4|0", of(2), of(1), of(2, 3)},
		{"1|2|3|4|0", 0, all, 0},
		{"1|2|3|4|0", 0, 0, 0},
		{"1|2|3|4|0", of(4), 0, of(4)},
		{"1|2|3|4|0", of(1), all, of(1, 2, 3, 4)},
		{"1|2|3|4|0", of(5, 64), all, 0},
		{"1|2|3|4|0", of(1, 5), of(5, 64), of(1, 2)},
		{"1", all, all, 0},
		{"1|1", 1, 0, 1},
		{"1|0|0", 1, 2, 1},
		{"1|2|1|2", of(3), of(2), of(1, 2, 3)},
		{"1|2|1|2", of(3), of(1), of(2, 3)},
		{"2|2,3|4,0|5,0|6,0|6,0|0,0", of(1), of(2), of(1, 2, 3, 4)},
		{"2|2,3|4,0|5,0|6,0|6,0|0,0", of(1), of(3, 4), of(1, 2, 3, 5)},
		{"2|2,3|4,0|5,0|6,0|6,0|0,0", of(1), of(3, 5), of(1, 2, 3, 5, 6)},
		{"2|2,3|4,0|5,0|6,0|6,0|0,0", of(1), of(2, 3), of(1, 2, 3, 4, 5)},
		{"2|2,3|4,0|5,0|6,0|6,0|0,0", of(6), all, of(6)},
	} {
		if got := reach.Via(read(t, c.text), c.roots, c.over); got != c.want {
			t.Errorf("%d: %s, not %s", i, set.Text(got), set.Text(c.want))
		}
	}
}

// P4.3: numbers that are no object's, and objects above MaxObjects, are none
// here too.
func TestViaNoObjects(t *testing.T) {
	for _, v := range noObjects() {
		h := heap.Heap{Slots: 2, Objs: [][]int{{v, 2}, {3, v}, {v, v}, {v, 1}}}
		if got := reach.Via(h, of(1)|beyond, of(3, 4)|beyond); got != of(1, 2) {
			t.Errorf("%d: %s", v, set.Text(got))
		}
		if got := reach.Via(h, of(1), all); got != of(1, 2, 3) {
			t.Errorf("%d: %s", v, set.Text(got))
		}
	}
	for _, n := range []int{63, 64, 65, 200} {
		if got := reach.Via(chain(n), 1, all); got != set.First(n) {
			t.Errorf("%d: %s", n, set.Text(got))
		}
		if got := reach.Via(chain(n), of(63), 0); got != of(63, 64)&set.First(n) {
			t.Errorf("%d: %s", n, set.Text(got))
		}
	}
	if got := reach.Via(heap.Heap{}, all, all); got != 0 {
		t.Error(set.Text(got))
	}
}

// P4.1 to P4.3: of all heaps of few objects, from all roots, over all sets.
func TestAllSmall(t *testing.T) {
	for slots := 1; slots <= 2; slots++ {
		for n := range 4 {
			every := 1
			for range slots * n {
				every *= n + 1
			}
			for which := range every {
				h := heap.Heap{Slots: slots}
				for range n {
					l := make([]int, slots)
					for s := range l {
						l[s], which = which%(n+1), which/(n+1)
					}
					h.Objs = append(h.Objs, l)
				}
				for roots := range set.Set(1) << n {
					for over := range set.Set(1) << n {
						check(t, h, roots, over)
					}
				}
			}
		}
	}
}

// P4.1 to P4.3, P1: of heaps of all sizes, right or not, from and over sets of
// all kinds.
func TestAllSizes(t *testing.T) {
	r := random(7)
	for _, h := range append(rightHeaps(), wrongHeaps()...) {
		n := len(h.Objs)
		for _, roots := range someSets(n) {
			for _, over := range someSets(n) {
				check(t, h, roots, over)
			}
			check(t, h, 1<<r.under(64), r.some(64))
		}
	}
}

// P4.4: what is reached from what is reached was reached; more roots reach no
// less; what is reached is what has a distance.
func TestWhatFollows(t *testing.T) {
	for _, h := range append(rightHeaps(), wrongHeaps()...) {
		n := len(h.Objs)
		for _, a := range someSets(n) {
			from := reach.From(h, a)
			if !set.Under(a&set.First(n), from) || !set.Under(from, set.First(n)) {
				t.Fatalf("%v from %s: %s", h, set.Text(a), set.Text(from))
			}
			if again := reach.From(h, from); again != from {
				t.Fatalf("%v from %s: %s, then %s", h, set.Text(a), set.Text(from), set.Text(again))
			}
			if dist := reach.Dist(h, a); met(dist) != from {
				t.Fatalf("%v from %s: %s, %v", h, set.Text(a), set.Text(from), dist)
			}
			for _, b := range someSets(n) {
				if more := reach.From(h, a|b); more != from|reach.From(h, b) {
					t.Fatalf("%v from %s: %s", h, set.Text(a|b), set.Text(more))
				}
				via := reach.Via(h, a, b)
				if !set.Under(via, from) || set.Under(from, b) && via != from {
					t.Fatalf("%v from %s over %s: %s", h, set.Text(a), set.Text(b), set.Text(via))
				}
			}
		}
	}
}

// P1: lists as long as may come end all the same: few objects of many slots,
// many objects, one list for all of them.
func TestLong(t *testing.T) {
	wide := make([]int, 1<<20)
	for i := range wide {
		wide[i] = i % 70
	}
	if got := reach.From(heap.Heap{Slots: 1, Objs: slices.Repeat([][]int{wide}, 64)}, 1); got != all {
		t.Error(set.Text(got))
	}
	long := heap.Heap{Slots: 1, Objs: make([][]int, 1<<20)}
	long.Objs[0] = []int{1 << 20, 65, 64}
	if got := reach.Via(long, 1, 0); got != of(1, 64) {
		t.Error(set.Text(got))
	}
	if got := reach.Dist(long, 1); len(got) != 64 || got[63] != 1 || got[62] != -1 {
		t.Error(got)
	}
}

// P3: nothing that is handed in is written into, nor what stands behind it.
func TestNothingIsWrittenInto(t *testing.T) {
	row := []int{2, 3, 7, 7}
	whole := [][]int{row[:2], {0, 2}, {1, 9}, {1, 1}, {5, 5}}
	h := heap.Heap{Slots: 2, Objs: whole[:3]}
	reach.From(h, all)
	reach.Dist(h, of(1))
	reach.Via(h, of(1), of(3))
	if !slices.Equal(row, []int{2, 3, 7, 7}) {
		t.Error(row)
	}
	if !heap.Same(heap.Heap{Objs: whole}, heap.Heap{Objs: [][]int{{2, 3}, {0, 2}, {1, 9}, {1, 1}, {5, 5}}}) {
		t.Error(whole)
	}
}

// P3, P4: what is answered is new memory, and it is the same again and again.
func TestSameAgain(t *testing.T) {
	h := read(t, "2|2,3|4,0|5,0|0,0|2,0|6,6")
	for range 50 {
		dist := reach.Dist(h, of(1))
		if !slices.Equal(dist, []int{0, 1, 1, 2, 2, -1}) {
			t.Fatal(dist)
		}
		clear(dist[:cap(dist)])
		if got := reach.From(h, of(1)); got != set.First(5) {
			t.Fatal(set.Text(got))
		}
		if got := reach.Via(h, of(1), of(2)); got != set.First(4) {
			t.Fatal(set.Text(got))
		}
	}
}

// P5: a list of nothing may be nil or empty.
func TestListOfNothing(t *testing.T) {
	for i, h := range []heap.Heap{{Slots: 1}, {Slots: 1, Objs: [][]int{}}} {
		if reach.From(h, all) != 0 || reach.Via(h, all, all) != 0 || len(reach.Dist(h, all)) != 0 {
			t.Errorf("%d: something", i)
		}
	}
	for i, h := range []heap.Heap{{Slots: 1, Objs: [][]int{nil, nil}}, {Slots: 1, Objs: [][]int{{}, {}}}} {
		if reach.From(h, 1) != 1 || reach.Via(h, 1, all) != 1 || !slices.Equal(reach.Dist(h, 1), []int{0, -1}) {
			t.Errorf("%d: not the root alone", i)
		}
	}
}
