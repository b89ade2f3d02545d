package state_test

import (
	"reflect"
	"slices"
	"strings"
	"testing"

	"besom/state"
)

// busy is a state that is not well laid, in which each list has some, each time
// in memory of its own.
func busy() State {
	s := kept(state.New(small()))
	for b, l := range s.Bins {
		s.Bins[b] = append(l, b+20)
	}
	s.Ws[0].Batch, s.Ws[1].Batch = []int{7, 6}, []int{5}
	s.Ms[0].Buf, s.Ms[0].Batch = []int{4, 3}, []int{2}
	s.Ms[1].Buf, s.Ms[1].Batch = []int{1}, []int{9, 8}
	for i, x := range plains(partsOf(&s)) {
		if x.v.CanInt() && !ofPlan(x) {
			x.v.SetInt(int64(i + 1))
		}
	}
	return s
}

// some are states of each kind, and such as no step leads to.
func some() []State {
	l := []State{{}, busy(), {Ws: make([]state.Worker, 2)}, {Ms: make([]state.Mutator, 3), Bins: make([][]int, 4)}}
	for _, p := range plans()[:60] {
		l = append(l, state.New(p))
	}
	r := random(134)
	for range 60 {
		s := busy()
		for _, x := range lists(partsOf(&s)) {
			if x.v.CanSet() && r.under(3) == 0 {
				x.v.SetLen(r.under(x.v.Len() + 1))
			}
		}
		for _, x := range plains(partsOf(&s)) {
			if r.under(3) == 0 {
				turn(x.v, int64(far()[r.under(len(far()))]))
			}
		}
		l = append(l, s)
	}
	return l
}

// span is where a list lies.
type span struct{ from, to uintptr }

// spanOf tells where the array of a list lies, to its end.
func spanOf(l reflect.Value) span {
	return span{l.Pointer(), l.Pointer() + uintptr(l.Cap())*l.Type().Elem().Size()}
}

// apart fails where a list of l lies in another one of l, or in one of others.
func apart(t *testing.T, l, others []part) {
	t.Helper()
	var met []part
	for _, x := range l {
		a := spanOf(x.v)
		for _, y := range slices.Concat(met, others) {
			if b := spanOf(y.v); a.from < b.to && b.from < a.to {
				t.Errorf("%s and %s are shared", x.way, y.way)
			}
		}
		met = append(met, x)
	}
}

// ofPlan tells whether x is a state's plan, or in it.
func ofPlan(x part) bool {
	return x.way == ".P" || strings.HasPrefix(x.way, ".P.")
}

// ownLists tells the lists that s has beside its plan.
func ownLists(s *State) []part {
	return slices.DeleteFunc(lists(partsOf(s)), ofPlan)
}

// P13.4, P13.5: a copy is the same, and so is the copy of a copy.
func TestCopy(t *testing.T) {
	for i, s := range some() {
		was := kept(s)
		c := state.Copy(s)
		if !alike(c, was) || !alike(s, was) || !state.Same(c, s) || !state.Same(s, c) {
			t.Fatalf("%d: %+v\nnot\n%+v", i, c, was)
		}
		if d := state.Copy(c); !alike(d, was) || !state.Same(d, s) {
			t.Fatalf("%d: %+v\nnot\n%+v", i, d, was)
		}
	}
}

// P13.4: a copy shares no list but the plan's; nor has it two that are one,
// where s has.
func TestCopySharesNothing(t *testing.T) {
	s := busy()
	c := state.Copy(s)
	apart(t, ownLists(&c), lists(partsOf(&s)))
	s.Bins[2], s.Bins[3], s.Ms[1].Regs = s.Bins[1], s.Bins[1][1:], s.Ms[0].Regs
	s.Ms[0].Buf, s.Ms[0].Batch, s.Ws[1].Batch = s.Ms[0].Regs[:1], s.Ms[0].Regs[1:], s.Ws[0].Batch
	s.H = s.P.H
	s.H.Objs[1] = s.H.Objs[0]
	c = state.Copy(s)
	if !alike(c, s) {
		t.Errorf("%+v", c)
	}
	apart(t, ownLists(&c), lists(partsOf(&s)))
}

// P13.4: whatever of a copy is turned, but the lists of its plan, the state
// stays as it was; and the other way round.
func TestCopyIsApart(t *testing.T) {
	first := busy()
	was := kept(first)
	for i, x := range partsOf(&first) {
		if x.way == "" || ofPlan(x) && (x.v.Kind() == reflect.Struct || x.v.Kind() == reflect.Slice || strings.Contains(x.way, "[")) {
			continue
		}
		s := busy()
		c := state.Copy(s)
		changed(partsOf(&c)[i].v)
		if !alike(s, was) || alike(c, was) {
			t.Fatalf("%s of the copy", x.way)
		}
		c = state.Copy(s)
		changed(partsOf(&s)[i].v)
		if !alike(c, was) || alike(s, was) {
			t.Fatalf("%s of the state", x.way)
		}
	}
}

// changed makes another one of whatever v is.
func changed(v reflect.Value) {
	switch v.Kind() {
	case reflect.Struct:
		for i := range v.NumField() {
			changed(v.Field(i))
		}
	case reflect.Slice:
		v.Set(reflect.Append(v.Slice(0, v.Len()-1), reflect.Zero(v.Type().Elem()), reflect.Zero(v.Type().Elem())))
	default:
		turn(v, 1)
	}
}

// P13.4: each number, yes or no, of each part: what is turned in one is not the
// same as what is turned in another one, or by another number.
func TestSameOfEachField(t *testing.T) {
	first := busy()
	n := len(plains(partsOf(&first)))
	var l []State
	for i := range n {
		for _, more := range []int64{1, 1 << 32, -1 << 63} {
			s := busy()
			turn(plains(partsOf(&s))[i].v, more)
			if !state.Same(s, kept(s)) || state.Same(s, first) || state.Same(first, s) {
				t.Fatalf("%s, %d more", plains(partsOf(&first))[i].way, more)
			}
			if more == 1 {
				l = append(l, s)
			}
		}
	}
	for i, a := range l {
		for j, b := range l {
			if got := state.Same(a, b); got != (i == j) {
				t.Fatalf("%s and %s: %v", plains(partsOf(&first))[i].way, plains(partsOf(&first))[j].way, got)
			}
		}
	}
}

// P13.4: each list: a shorter one, a longer one, none at all are others.
func TestSameOfEachList(t *testing.T) {
	first := busy()
	for i, x := range lists(partsOf(&first)) {
		for name, by := range map[string]func(v reflect.Value){
			"shorter":         func(v reflect.Value) { v.SetLen(v.Len() - 1) },
			"without a first": func(v reflect.Value) { v.Set(v.Slice(1, v.Len())) },
			"longer":          func(v reflect.Value) { v.Set(reflect.Append(v, reflect.Zero(v.Type().Elem()))) },
			"none":            func(v reflect.Value) { v.SetZero() },
		} {
			s := busy()
			by(lists(partsOf(&s))[i].v)
			if state.Same(s, first) || state.Same(first, s) || !state.Same(s, kept(s)) {
				t.Errorf("%s: %s", x.way, name)
			}
		}
	}
}

// P13.4: states of all kinds, held against one another.
func TestSameOfSome(t *testing.T) {
	l := some()
	var plain []State
	for _, s := range l {
		plain = append(plain, normed(s))
	}
	for i, a := range l {
		for j, b := range l {
			if got := state.Same(a, b); got != reflect.DeepEqual(plain[i], plain[j]) {
				t.Errorf("%d and %d: %v", i, j, got)
			}
		}
	}
}

// P5: a list of nothing may be nil or empty, in a copy and for what is the same.
func TestListOfNothing(t *testing.T) {
	bare, empty := busy(), busy()
	a, b := lists(partsOf(&bare)), lists(partsOf(&empty))
	for i := range slices.Backward(a) {
		a[i].v.SetZero()
		b[i].v.Set(reflect.MakeSlice(b[i].v.Type(), 0, 3))
		if c := state.Copy(empty); !state.Same(bare, empty) || !state.Same(empty, bare) || !state.Same(c, bare) || !state.Same(state.Copy(bare), c) {
			t.Fatal(a[i].way)
		}
	}
	if none := state.Copy(State{}); !reflect.DeepEqual(none, State{}) || !state.Same(none, State{}) {
		t.Errorf("%+v", none)
	}
	one := State{Bins: [][]int{nil}, Ws: make([]state.Worker, 1), Ms: make([]state.Mutator, 1)}
	if state.Same(one, State{}) || state.Same(one, State{Bins: one.Bins, Ws: one.Ws}) || state.Same(one, State{Ws: one.Ws, Ms: one.Ms}) {
		t.Error("a list that has nothing is not like another one")
	}
}

// P3: nothing that is handed in is written into, nor what stands behind it.
func TestStateIsLeft(t *testing.T) {
	whole := busy()
	s := whole
	s.M, s.Acks, s.Ws, s.Ms = whole.M[:3], whole.Acks[:1], whole.Ws[:1], whole.Ms[:1]
	s.Bins, s.H.Objs, s.L.Bal = whole.Bins[:2], whole.H.Objs[:3], whole.L.Bal[:1]
	was, all := kept(s), kept(whole)
	c := state.Copy(s)
	for _, x := range ownLists(&c) {
		x.v.Set(reflect.Append(x.v, reflect.Zero(x.v.Type().Elem())))
	}
	state.Same(s, whole)
	state.Same(whole, s)
	if !alike(s, was) || !alike(whole, all) {
		t.Errorf("%+v", whole)
	}
}

// P4: the same arguments tell the same, again and again.
func TestSameAgain(t *testing.T) {
	for i, s := range some() {
		want := state.Copy(s)
		for range 5 {
			if got := state.Copy(kept(s)); !alike(got, want) || !state.Same(got, want) {
				t.Fatalf("%d: %+v", i, got)
			}
		}
	}
}
