package heap_test

import (
	"math"
	"slices"
	"strconv"
	"strings"
	"testing"

	"besom/api"
	"besom/heap"
)

// laid is a heap of so many slots, and of the objects whose slots are handed in.
func laid(slots int, objs ...[]int) heap.Heap {
	return heap.Heap{Slots: slots, Objs: objs}
}

// even is a heap of n objects that have 0 in each slot.
func even(slots, n int) heap.Heap {
	h := heap.Heap{Slots: slots}
	for range n {
		h.Objs = append(h.Objs, make([]int, slots))
	}
	return h
}

// spread is a heap of n objects that have what a short rule spreads over them.
func spread(slots, n int) heap.Heap {
	h := even(slots, n)
	for o := range n {
		for s := range slots {
			h.Objs[o][s] = (o*7 + s*5 + o*s) % (n + 1)
		}
	}
	return h
}

// rightHeaps are heaps that are right: of each number of slots, of few objects
// and of as many as there may be.
func rightHeaps() []heap.Heap {
	var l []heap.Heap
	for slots := 1; slots <= 4; slots++ {
		for _, n := range []int{0, 1, 2, 3, 9, 10, 63, 64} {
			l = append(l, even(slots, n), spread(slots, n))
		}
	}
	return append(l, laid(1, []int{1}), laid(1, []int{2}, []int{1}), laid(2, []int{2, 2}, []int{0, 2}))
}

// wrongHeaps are heaps that are not right, at the edges and far from them.
func wrongHeaps() []heap.Heap {
	l := []heap.Heap{{}, laid(0, []int{}), laid(0, nil), laid(0, []int{0}), laid(5, make([]int, 5)), laid(-1, []int{0})}
	for _, slots := range []int{0, -1, 5, 64, math.MinInt, math.MaxInt, 1 << 32, 1<<32 + 1} {
		l = append(l, laid(slots))
	}
	for _, v := range []int{3, -1, -2, 64, 65, math.MinInt, math.MaxInt, 1 << 32, 1<<32 + 1} {
		l = append(l, laid(2, []int{0, v}, []int{0, 0}), laid(2, []int{0, 1}, []int{v, 1}), laid(1, []int{2}, []int{v}))
	}
	for _, slots := range [][]int{nil, {}, {0}, {0, 0, 0}, {1, 2, 1, 2}} {
		l = append(l, laid(2, slots), laid(2, []int{1, 2}, slots), laid(2, slots, []int{0, 0}), laid(2, []int{1, 0}, slots, []int{0, 0}))
	}
	return append(l, even(1, 65), even(4, 65), spread(2, 66), even(3, 1000), laid(1, []int{1}, []int{3}), even(1, 1<<12))
}

// numbers are some of which few are objects or slots, at the edges of 64 bits
// and of the limits.
func numbers() []int {
	return []int{math.MinInt, math.MinInt + 1, -1 << 32, -64, -2, -1, 0, 1, 2, 3, 4, 5, 9, 10, 11, 63, 64, 65, 66, 1 << 32, 1<<32 + 1, math.MaxInt - 1, math.MaxInt}
}

// kept is h, in memory of its own.
func kept(h heap.Heap) heap.Heap {
	k := heap.Heap{Slots: h.Slots}
	for _, slots := range h.Objs {
		k.Objs = append(k.Objs, slices.Clone(slots))
	}
	return k
}

// alike tells whether two heaps have the same slots, without a call to the
// package's own.
func alike(a, b heap.Heap) bool {
	if a.Slots != b.Slots || len(a.Objs) != len(b.Objs) {
		return false
	}
	for i := range a.Objs {
		if !slices.Equal(a.Objs[i], b.Objs[i]) {
			return false
		}
	}
	return true
}

// plainly writes a right heap by the chapter's words.
func plainly(h heap.Heap) string {
	objs := []string{strconv.Itoa(h.Slots)}
	for _, slots := range h.Objs {
		var l []string
		for _, v := range slots {
			l = append(l, strconv.Itoa(v))
		}
		objs = append(objs, strings.Join(l, ","))
	}
	return strings.Join(objs, "|")
}

// P3.1: what is right, and what is not.
func TestRight(t *testing.T) {
	for _, h := range rightHeaps() {
		if !heap.Right(h) {
			t.Errorf("%v is not right", h)
		}
	}
	for i, h := range wrongHeaps() {
		if heap.Right(h) {
			t.Errorf("%d: %v is right", i, h)
		}
	}
}

// P3.1: each number in a slot, in each place of a heap, is right just if it is
// an object that there is, or 0.
func TestRightOfEachSlot(t *testing.T) {
	for _, n := range []int{1, 2, 10, 64} {
		for o := range n {
			for s := range 3 {
				for _, v := range append(numbers(), n, n+1) {
					h := even(3, n)
					h.Objs[o][s] = v
					if heap.Right(h) != (0 <= v && v <= n) {
						t.Fatalf("%d in slot %d of %d of %d", v, s, o+1, n)
					}
				}
			}
		}
	}
}

// P3.1: the same are heaps whose Slots, and all slots, are.
func TestSame(t *testing.T) {
	all := append(rightHeaps(), wrongHeaps()...)
	for i, a := range all {
		if !heap.Same(a, a) || !heap.Same(a, kept(a)) {
			t.Errorf("%d: not the same as itself", i)
		}
		for j, b := range all {
			if heap.Same(a, b) != alike(a, b) {
				t.Errorf("%d, %d: not %v", i, j, alike(a, b))
			}
		}
	}
}

// P3.1: one slot, one object more, or the Slots alone tell heaps apart, be
// they right or not.
func TestSameApart(t *testing.T) {
	h := laid(2, []int{1, 2}, []int{0, 2})
	for i, other := range []heap.Heap{
		{}, laid(2), laid(1, []int{1, 2}, []int{0, 2}), laid(3, []int{1, 2}, []int{0, 2}),
		laid(2, []int{1, 2}), laid(2, []int{0, 2}), laid(2, []int{1, 2}, []int{0, 2}, []int{0, 0}), laid(2, []int{1, 2}, []int{0, 2}, nil),
		laid(2, []int{0, 2}, []int{0, 2}), laid(2, []int{1, 0}, []int{0, 2}), laid(2, []int{1, 2}, []int{1, 2}), laid(2, []int{1, 2}, []int{0, 1}),
		laid(2, []int{2, 1}, []int{0, 2}), laid(2, []int{0, 2}, []int{1, 2}), laid(2, []int{1, 2}, []int{0}), laid(2, []int{1, 2, 0}, []int{0, 2}),
		laid(2, []int{1}, []int{2, 0, 2}), laid(2, []int{1, 2, 0, 2}), laid(2, []int{1, 2}, []int{0, 1<<32 + 2}),
	} {
		if heap.Same(h, other) || heap.Same(other, h) {
			t.Errorf("%d: %v is the same", i, other)
		}
	}
}

// P3.2: each slot is got, and none that there is not, of heaps that are right
// and of those that are not.
func TestGet(t *testing.T) {
	for i, h := range append(rightHeaps(), wrongHeaps()...) {
		for o, slots := range h.Objs {
			for s, want := range slots {
				if v, ok := heap.Get(h, o+1, s); !ok || v != want {
					t.Errorf("%d: slot %d of %d: %d, %v", i, s, o+1, v, ok)
				}
			}
			for _, s := range []int{-1, len(slots), len(slots) + 1, math.MinInt, math.MaxInt, 1 << 32} {
				if v, ok := heap.Get(h, o+1, s); ok || v != 0 {
					t.Errorf("%d: slot %d of %d: %d, %v", i, s, o+1, v, ok)
				}
			}
		}
		n := len(h.Objs)
		for _, o := range []int{0, -1, -n, n + 1, n + 2, math.MinInt, math.MaxInt, 1 << 32, 1<<32 + 1} {
			for _, s := range []int{-1, 0, 1} {
				if v, ok := heap.Get(h, o, s); ok || v != 0 {
					t.Errorf("%d: slot %d of %d: %d, %v", i, s, o, v, ok)
				}
			}
		}
	}
}

// P3.2: the slots of an object are those that it has, whatever Slots says.
func TestSlotsThatThereAre(t *testing.T) {
	h := laid(2, []int{1, 2, 3}, []int{9}, nil)
	for i, c := range []struct {
		o, s, v int
		ok      bool
	}{{1, 0, 1, true}, {1, 2, 3, true}, {1, 3, 0, false}, {2, 0, 9, true}, {2, 1, 0, false}, {3, 0, 0, false}} {
		if v, ok := heap.Get(h, c.o, c.s); v != c.v || ok != c.ok {
			t.Errorf("%d: %d, %v", i, v, ok)
		}
		if n, ok := heap.Put(h, c.o, c.s, 3); ok != c.ok || ok && n.Objs[c.o-1][c.s] != 3 || !ok && !alike(n, h) {
			t.Errorf("%d: %v, %v", i, n, ok)
		}
	}
}

// P3.2, P3.4: what is put is got; no other slot is turned; what can't be put
// turns nothing.
func TestPut(t *testing.T) {
	for i, h := range append(rightHeaps(), wrongHeaps()[:20]...) {
		before := kept(h)
		n := len(h.Objs)
		for _, o := range append(numbers(), n, n+1) {
			for s := -1; s <= 4; s++ {
				for _, v := range append(numbers(), n, n+1) {
					got, ok := heap.Put(h, o, s, v)
					want := kept(h)
					is := 1 <= o && o <= n && 0 <= s && s < len(h.Objs[o-1]) && 0 <= v && v <= n
					if is {
						want.Objs[o-1][s] = v
					}
					if ok != is || !alike(got, want) {
						t.Fatalf("%d: %d in slot %d of %d: %v, %v", i, v, s, o, got, ok)
					}
				}
			}
		}
		if !alike(h, before) {
			t.Errorf("%d: turned", i)
		}
	}
}

// P3.2: the edges of slots far off, and of a number in a slot that is wrong
// already.
func TestPutEdges(t *testing.T) {
	h := laid(2, []int{2, 1}, []int{0, 1})
	for _, c := range [][3]int{
		{1, 2, 1}, {1, -1, 1}, {1, math.MaxInt, 1}, {1, math.MinInt, 1}, {1, 1 << 32, 1},
		{0, 0, 1}, {3, 0, 1}, {-1, 0, 1}, {math.MaxInt, 0, 1}, {math.MinInt, 0, 1}, {1<<32 + 1, 0, 1},
		{1, 0, 3}, {1, 0, -1}, {1, 0, math.MaxInt}, {1, 0, math.MinInt}, {1, 0, 1<<32 + 1}, {1, 0, 64},
		{0, -1, -1}, {3, 2, 3},
	} {
		if got, ok := heap.Put(h, c[0], c[1], c[2]); ok || !alike(got, laid(2, []int{2, 1}, []int{0, 1})) {
			t.Errorf("%v: %v, %v", c, got, ok)
		}
	}
	if got, ok := heap.Put(laid(1, []int{7}, []int{-7}), 1, 0, 2); !ok || !alike(got, laid(1, []int{2}, []int{-7})) {
		t.Error(got, ok)
	}
	if got, ok := heap.Put(even(1, 100), 100, 0, 99); !ok || got.Objs[99][0] != 99 || got.Objs[98][0] != 0 {
		t.Error(got, ok)
	}
	if got, ok := heap.Put(heap.Heap{}, 1, 0, 0); ok || !alike(got, heap.Heap{}) {
		t.Error(got, ok)
	}
}

// P3.2: one object more, its slots 0, as long as there is room.
func TestAlloc(t *testing.T) {
	for i, h := range rightHeaps() {
		n := len(h.Objs)
		for _, most := range append(numbers(), n-1, n, n+1, n+2) {
			got, o, e := heap.Alloc(h, most)
			want, number, errno := kept(h), 0, api.ErrRoom
			if n < most && n < 64 {
				want.Objs = append(want.Objs, make([]int, h.Slots))
				number, errno = n+1, api.OK
			}
			if e != errno || o != number || !alike(got, want) {
				t.Fatalf("%d: most %d: %v, %d, %v", i, most, got, o, e)
			}
		}
	}
}

// P3.2, P2: a heap that is not right is told as such, ahead of there being no
// room; it comes as it was.
func TestAllocWrong(t *testing.T) {
	for i, h := range wrongHeaps() {
		for _, most := range numbers() {
			if got, o, e := heap.Alloc(h, most); e != api.ErrArg || o != 0 || !alike(got, h) {
				t.Errorf("%d: most %d: %v, %d, %v", i, most, got, o, e)
			}
		}
	}
}

// P3.4: what is right stays so, object by object and slot by slot, up to the
// fullest heap.
func TestRightStaysSo(t *testing.T) {
	for slots := 1; slots <= 4; slots++ {
		h := laid(slots)
		for n := 1; n <= 64; n++ {
			var o int
			var e api.Errno
			h, o, e = heap.Alloc(h, 64)
			if o != n || e != api.OK || !heap.Right(h) {
				t.Fatalf("%d of %d slots: %v", o, slots, e)
			}
			for i := range n {
				var ok bool
				if h, ok = heap.Put(h, i+1, n%slots, n-i); !ok || !heap.Right(h) {
					t.Fatalf("%v: not right", h)
				}
				if v, is := heap.Get(h, i+1, n%slots); !is || v != n-i {
					t.Fatalf("%d of %d: %d, %v", n%slots, i+1, v, is)
				}
			}
		}
		if _, _, e := heap.Alloc(h, 65); e != api.ErrRoom {
			t.Errorf("one more of %d slots: %v", slots, e)
		}
	}
}

// P3.3: heaps as texts, there and back.
func TestText(t *testing.T) {
	for text, h := range map[string]heap.Heap{
		"1":                      laid(1),
		"4":                      laid(4),
		"1|0":                    laid(1, []int{0}),
		"1|1":                    laid(1, []int{1}),
		"1|2|0":                  laid(1, []int{2}, []int{0}),
		"2|1,2|0,0":              laid(2, []int{1, 2}, []int{0, 0}),
		"4|0,1,0,1":              laid(4, []int{0, 1, 0, 1}),
		"3|0,0,0|3,2,1|1,1,1":    laid(3, []int{0, 0, 0}, []int{3, 2, 1}, []int{1, 1, 1}),
		"1|10|9|8|7|6|5|4|3|2|1": laid(1, []int{10}, []int{9}, []int{8}, []int{7}, []int{6}, []int{5}, []int{4}, []int{3}, []int{2}, []int{1}),
	} {
		if got := heap.Text(h); got != text {
			t.Errorf("Text of %v: %q, not %q", h, got, text)
		}
		if got, e := heap.Parse(text); e != api.OK || !alike(got, h) {
			t.Errorf("Parse of %q: %v, %v", text, got, e)
		}
	}
}

// P3.3: each right heap's text is as the chapter says, and is parsed as it.
func TestTextOfEach(t *testing.T) {
	for _, h := range rightHeaps() {
		text := plainly(h)
		if got := heap.Text(h); got != text {
			t.Errorf("Text of %v: %q, not %q", h, got, text)
		}
		if got, e := heap.Parse(text); e != api.OK || !alike(got, h) {
			t.Errorf("Parse of %q: %v, %v", text, got, e)
		}
	}
}

// P3.3: what is not right is a question mark, which is no right heap's text.
func TestTextWrong(t *testing.T) {
	for i, h := range wrongHeaps() {
		if got := heap.Text(h); got != "?" {
			t.Errorf("%d: %.40q", i, got)
		}
		if got, e := heap.Parse(plainly(h)); e != api.ErrParse || !alike(got, heap.Heap{}) {
			t.Errorf("%d: %v, %v", i, got, e)
		}
	}
}

// P3.3, P2: what is no right heap's text tells ErrParse, and no heap.
func TestParseWrong(t *testing.T) {
	full := plainly(spread(4, 64))
	for _, s := range []string{
		"", " ", "?", "|", ",", "-", "x", "1?", "0", "5", "10", "64", "-1", "+1", "01", "00", "1.0", "1e0", "0x1", "1_", "\u0661", "\uff11", "\xff", "1\x00",
		"1|", "|0", "1||0", "1|0|", "||", "1|,", "1,", "1,0", "1,|0", "1|0,", "1|,0", "2|0,,0", "2|0,0,", "2|,0,0", "1|0||0", "1|0|,",
		"0|", "0||", "0|0", "5|0,0,0,0,0", "-1|0", "1|0,0", "2|0", "2|0,0,0", "2|0|0", "2|0,0|0", "2|0|0,0", "3|0,0,0|0,0", "4|0,0,0",
		"1|2", "1|-1", "1|+1", "1|64", "1|0|3", "2|1,3|0,0", "2|1,2|3,0", "1|9|0|0", "1|10|0|0|0|0|0|0|0|0",
		"1|00", "1|01", "01|0", "2|0,01", "1|0x1", "1|1.0", "1|1e0", "1|1_", "1|a", "1|?", "1|-", "1|-0", "1|\u0661", "1|\xff",
		" 1|0", "1 |0", "1| 0", "1|0 ", "2|0 ,0", "2|0, 0", "1\n|0", "1|0\n", "\n1", "1\r", "1|0\t", "1|0\u00a0",
		"1;0", "1/0", "2|0;0", "2|0.0", "2:0,0", "1\uff5c0", "2|0\uff0c0",
		"1|1000000", "1|4294967297", "1|18446744073709551617", "1|9223372036854775808", "18446744073709551617|0", "4294967297|0", "1|-9223372036854775809", "1|99999999999999999999999999",
		full + "|", full + ",0", full + "|0,0,0,0", full + "?", "4" + full, "0" + full, full[:len(full)-1] + "65", full + "\n",
		plainly(even(1, 65)), plainly(even(4, 65)), plainly(even(1, 100000)),
		strings.Repeat("1", 100000), "1|" + strings.Repeat("0", 100000), "1|" + strings.Repeat("1", 100000), strings.Repeat("|", 100000), "1" + strings.Repeat(",0", 100000), "1|0" + strings.Repeat(",0", 100000), "9223372036854775807|0" + strings.Repeat(",0", 100000), "0" + strings.Repeat("|", 100000),
	} {
		if h, e := heap.Parse(s); e != api.ErrParse || h.Slots != 0 || len(h.Objs) != 0 {
			t.Errorf("%.40q: %v, %v", s, h, e)
		}
	}
}

// shortHeaps are all right heaps that are written in at most most bytes, where
// no object has a number above 9.
func shortHeaps(most int) map[string]heap.Heap {
	texts := map[string]heap.Heap{}
	for slots := 1; slots <= 4; slots++ {
		for n := 0; 1+2*slots*n <= most; n++ {
			every := []heap.Heap{even(slots, n)}
			for i := range slots * n {
				for _, h := range every {
					for v := 1; v <= n; v++ {
						k := kept(h)
						k.Objs[i/slots][i%slots] = v
						every = append(every, k)
					}
				}
			}
			for _, h := range every {
				texts[plainly(h)] = h
			}
		}
	}
	return texts
}

// P3.3: of all short texts those are taken that are some heap's, and no others.
func TestParseAllShort(t *testing.T) {
	const most = 7
	texts := shortHeaps(most)
	l := []string{""}
	for from := 0; len(l[from]) < most; from++ {
		for _, r := range "0123|," {
			l = append(l, l[from]+string(r))
		}
	}
	met := 0
	for _, s := range l {
		want, ok := texts[s]
		got, e := heap.Parse(s)
		if ok != (e == api.OK) || !ok && e != api.ErrParse || !alike(got, want) {
			t.Fatalf("%q: %v, %v", s, got, e)
		}
		if ok {
			met++
		}
	}
	// One short heap is written with a rune that these texts have not: 4.
	if met != len(texts)-1 {
		t.Errorf("%d of %d", met, len(texts))
	}
}

// P3.3: each rune, where a number or a mark could be, but those that may be
// there, is refused.
func TestParseEachRune(t *testing.T) {
	for r := rune(0); r <= 0xFFFF; r++ {
		s := string(r)
		want := map[string]bool{s: strings.Contains("1234", s), "1|" + s: strings.Contains("01", s), "1" + s + "0": s == "|", "2|0" + s + "0": s == ",", "1|0" + s: false}
		for text, ok := range want {
			if _, e := heap.Parse(text); ok != (e == api.OK) || !ok && e != api.ErrParse {
				t.Fatalf("%q: %v", text, e)
			}
		}
	}
}

// P1, P6: every call ends at whatever heaps and numbers, and none panics.
func TestAnyHeaps(t *testing.T) {
	for i, h := range append(rightHeaps(), wrongHeaps()...) {
		if right := heap.Right(h); right != (heap.Text(h) != "?") {
			t.Errorf("%d: right: %v", i, right)
		}
		for _, a := range numbers() {
			for _, b := range numbers() {
				v, ok := heap.Get(h, a, b)
				if !ok && v != 0 {
					t.Errorf("%d: slot %d of %d: %d", i, b, a, v)
				}
				if got, is := heap.Put(h, a, b, 0); is != ok || !is && !heap.Same(got, h) {
					t.Errorf("%d: slot %d of %d: %v", i, b, a, is)
				}
			}
		}
	}
}

// P3: nothing that is handed in is written into, nor what stands behind it.
func TestNothingIsWrittenInto(t *testing.T) {
	row := []int{1, 0, 7, 7}
	whole := [][]int{row[:2], {0, 2}, {9}, {9}}
	h := heap.Heap{Slots: 2, Objs: whole[:2]}
	heap.Right(h)
	heap.Text(h)
	heap.Same(h, h)
	for o := range 4 {
		for s := range 4 {
			heap.Get(h, o, s)
			heap.Put(h, o, s, 2)
		}
	}
	heap.Alloc(h, 9)
	heap.Alloc(h, 2)
	if !slices.Equal(row, []int{1, 0, 7, 7}) || !alike(heap.Heap{Objs: whole}, laid(0, []int{1, 0}, []int{0, 2}, []int{9}, []int{9})) {
		t.Error("what was handed in was written into")
	}
}

// P3: what is answered is new memory: neither does what is written into it
// come back, nor what is written into what was handed in get there.
func TestNothingIsShared(t *testing.T) {
	for i, call := range []func(heap.Heap) heap.Heap{
		func(h heap.Heap) heap.Heap { n, _ := heap.Put(h, 1, 1, 2); return n },
		func(h heap.Heap) heap.Heap { n, _, _ := heap.Alloc(h, 9); return n },
		func(h heap.Heap) heap.Heap { n, _ := heap.Parse(heap.Text(h)); return n },
	} {
		h := laid(2, []int{2, 1}, []int{0, 2})
		got, want := call(h), call(kept(h))
		for _, slots := range h.Objs {
			slots[0], slots[1] = 9, 9
		}
		if !alike(got, want) {
			t.Errorf("%d: %v", i, got)
		}
		h = laid(2, []int{2, 1}, []int{0, 2})
		got = call(h)
		for _, slots := range got.Objs {
			clear(slots[:cap(slots)])
		}
		clear(got.Objs[:cap(got.Objs)])
		if !alike(h, laid(2, []int{2, 1}, []int{0, 2})) || !alike(call(h), want) {
			t.Errorf("%d: %v", i, h)
		}
	}
}

// P3.4: objects that are handed in with one list for all of them are turned
// one by one all the same.
func TestOneListForAll(t *testing.T) {
	h := laid(2, slices.Repeat([][]int{{0, 3}}, 3)...)
	if got, ok := heap.Put(h, 2, 0, 1); !ok || heap.Text(got) != "2|0,3|1,3|0,3" || heap.Text(h) != "2|0,3|0,3|0,3" {
		t.Error(got, ok)
	}
	got, o, e := heap.Alloc(h, 4)
	got.Objs[0][0] = 4
	if o != 4 || e != api.OK || heap.Text(got) != "2|4,3|0,3|0,3|0,0" {
		t.Error(got, o, e)
	}
}

// P4: the same arguments tell the same, again and again.
func TestSameAgain(t *testing.T) {
	const text = "2|2,0|0,1|3,3"
	for range 50 {
		h, e := heap.Parse(text)
		n, ok := heap.Put(h, 1, 1, 3)
		m, o, room := heap.Alloc(n, 4)
		if e != api.OK || !ok || room != api.OK || o != 4 || heap.Text(m) != "2|2,3|0,1|3,3|0,0" || heap.Text(h) != text {
			t.Fatal(e, ok, room, o, heap.Text(m))
		}
	}
}

// P5: a list of nothing may be nil or empty.
func TestListOfNothing(t *testing.T) {
	a, b := heap.Heap{Slots: 1}, heap.Heap{Slots: 1, Objs: [][]int{}}
	if !heap.Same(a, b) || !heap.Same(b, a) || !heap.Same(laid(1, nil), laid(1, []int{})) || heap.Text(a) != "1" || heap.Text(b) != "1" {
		t.Error("nothing is not nothing")
	}
	for i, h := range []heap.Heap{a, b} {
		n, o, e := heap.Alloc(h, 1)
		if o != 1 || e != api.OK || !alike(n, laid(1, []int{0})) {
			t.Errorf("%d: %v, %d, %v", i, n, o, e)
		}
	}
}
