package state_test

import (
	"fmt"
	"math"
	"reflect"
	"slices"

	"besom/code"
	"besom/heap"
	"besom/pick"
	"besom/plan"
	"besom/set"
	"besom/state"
)

// Plan, Op and State are short for the tables.
type (
	Plan  = plan.Plan
	Op    = code.Op
	State = state.State
)

// The numbers that the document names.
const (
	maxObjects  = 64
	maxMachines = 16
	maxRegs     = 4
	maxOps      = 64
	maxPicks    = 100000
	maxCap      = 16
	maxBuf      = 8
	maxPrice    = 1000000
)

// small is a right plan with five grey objects, each time in memory of its own.
func small() Plan {
	return Plan{
		Workers: 2, Mutators: 2, Cap: 3, Buf: 2, Bin: 2, Most: 8, Price: 5, Limit: 7,
		H:     heap.Heap{Slots: 2, Objs: [][]int{{2, 0}, {3, 0}, {0, 0}, {0, 4}, {0, 0}, {6, 1}, {0, 0}}},
		Roots: set.Of([]int{7, 2, 5}),
		Regs:  [][]int{{1, 0, 5}, {4}},
		Progs: [][]Op{{{Kind: code.Load, R: 1}, {Kind: code.Store, R: 1}}, {{Kind: code.Null}}},
		Picks: []pick.Pick{{}, {Kind: pick.Worker, N: 1}, {Kind: pick.Worker, N: 2}, {Kind: pick.Mutator, N: 1}, {Kind: pick.Mutator, N: 2}},
	}
}

// with is the small plan, turned.
func with(turn func(p *Plan)) Plan {
	p := small()
	turn(&p)
	return p
}

// least is a plan that has as little as one may have.
func least() Plan {
	return Plan{Workers: 1, Cap: 1, Buf: 1, Bin: 1, H: heap.Heap{Slots: 1}}
}

// greatest is a plan that has as much as one may have.
func greatest() Plan {
	return Plan{
		Workers: maxMachines, Mutators: maxMachines, Cap: maxCap, Buf: maxBuf, Bin: maxBuf, Most: maxObjects, Price: maxPrice, Limit: maxPrice,
		H:     heap.Heap{Slots: 4, Objs: slices.Repeat([][]int{{64, 1, 0, 64}}, maxObjects)},
		Roots: math.MaxUint64,
		Regs:  slices.Repeat([][]int{{64, 64, 1, 0}}, maxMachines),
		Progs: slices.Repeat([][]Op{slices.Repeat([]Op{{Kind: code.Store, R: 3, A: 3, S: 3}}, maxOps)}, maxMachines),
		Picks: slices.Repeat([]pick.Pick{{Kind: pick.Worker, N: 16}, {Kind: pick.Mutator, N: 16}}, maxPicks/2),
	}
}

// far are numbers at the edges of the limits, and of 64 bits.
func far() []int {
	return []int{math.MinInt, math.MinInt + 1, -1 << 32, -64, -3, -2, -1, 0, 1, 2, 3, 4, 5, 7, 8, 9, 15, 16, 17, 18, 63, 64, 65, 999999, 1000000, 1000001, 1 << 32, 1<<32 + 1, 1 << 62, math.MaxInt - 1, math.MaxInt}
}

// random is a source of numbers by a short rule.
type random uint64

// under tells a number from 0 to n - 1.
func (r *random) under(n int) int {
	*r = *r*6364136223846793005 + 1442695040888963407
	return int(uint64(*r)>>33) % n
}

// edge tells a number from least to most, often one of these.
func (r *random) edge(least, most int) int {
	switch r.under(4) {
	case 0:
		return least
	case 1:
		return most
	}
	return least + r.under(most-least+1)
}

// lists tells n lists, each of least to most numbers up to greatest.
func (r *random) lists(n, least, most, greatest int) [][]int {
	var told [][]int
	for range n {
		l := make([]int, r.edge(least, most))
		for i := range l {
			l[i] = r.edge(0, greatest)
		}
		told = append(told, l)
	}
	return told
}

// plan tells a plan that is right.
func (r *random) plan() Plan {
	n, slots := r.edge(0, maxObjects), 1+r.under(4)
	p := Plan{
		Workers: r.edge(1, maxMachines), Mutators: r.edge(0, maxMachines),
		Cap: r.edge(1, maxCap), Buf: r.edge(1, maxBuf), Bin: r.edge(1, maxBuf), Most: r.edge(n, maxObjects),
		Price: int64(r.edge(0, maxPrice)), Limit: int64(r.edge(0, maxPrice)),
		H: heap.Heap{Slots: slots, Objs: r.lists(n, slots, slots, n)},
	}
	for range r.edge(0, 90) {
		p.Roots |= 1 << r.under(64) & set.First(n)
	}
	p.Regs = r.lists(p.Mutators, 1, maxRegs, n)
	for _, regs := range p.Regs {
		var l []Op
		for range r.edge(0, 5) {
			l = append(l, Op{Kind: code.Store, R: r.under(len(regs)), A: r.under(len(regs)), S: r.under(slots)})
		}
		p.Progs = append(p.Progs, l)
	}
	all := pick.Round(p.Workers, p.Mutators)
	for range r.edge(0, 9) {
		p.Picks = append(p.Picks, all[r.under(len(all))])
	}
	return p
}

// plans are right plans of all sizes.
func plans() []Plan {
	l := []Plan{small(), least(), greatest()}
	r := random(13)
	for range 300 {
		l = append(l, r.plan())
	}
	return l
}

// kept is v, in memory of its own, a nil list being nil still.
func kept[T any](v T) T {
	told := reflect.New(reflect.TypeFor[T]()).Elem()
	keep(told, reflect.ValueOf(v))
	return told.Interface().(T)
}

// keep puts v into told, laying each list anew.
func keep(told, v reflect.Value) {
	switch v.Kind() {
	case reflect.Struct:
		for i := range v.NumField() {
			keep(told.Field(i), v.Field(i))
		}
	case reflect.Slice:
		if v.IsNil() {
			return
		}
		told.Set(reflect.MakeSlice(v.Type(), v.Len(), v.Len()))
		for i := range v.Len() {
			keep(told.Index(i), v.Index(i))
		}
	default:
		told.Set(v)
	}
}

// part is a field, or an item of a list, with the way to it.
type part struct {
	way string
	v   reflect.Value
}

// parts tells all that v has, v too: structs and lists, and what is in these.
func parts(way string, v reflect.Value) []part {
	l := []part{{way, v}}
	switch v.Kind() {
	case reflect.Struct:
		for i := range v.NumField() {
			l = append(l, parts(way+"."+v.Type().Field(i).Name, v.Field(i))...)
		}
	case reflect.Slice:
		for i := range v.Len() {
			l = append(l, parts(fmt.Sprintf("%s[%d]", way, i), v.Index(i))...)
		}
	}
	return l
}

// partsOf tells all that what p points to has, such as can be turned in it.
func partsOf(p any) []part {
	return parts("", reflect.ValueOf(p).Elem())
}

// plains tells those of l that are numbers, or yes or no.
func plains(l []part) []part {
	var told []part
	for _, x := range l {
		if k := x.v.Kind(); k != reflect.Struct && k != reflect.Slice {
			told = append(told, x)
		}
	}
	return told
}

// lists tells those of l that are lists.
func lists(l []part) []part {
	var told []part
	for _, x := range l {
		if x.v.Kind() == reflect.Slice {
			told = append(told, x)
		}
	}
	return told
}

// turn makes another one of a number, n more, or of yes or no.
func turn(v reflect.Value, n int64) {
	switch {
	case v.CanInt():
		v.SetInt(v.Int() + n)
	case v.CanUint():
		v.SetUint(v.Uint() + uint64(n))
	default:
		v.SetBool(!v.Bool())
	}
}

// alike tells whether a and b are the same, without a call to the package's own,
// a list of nothing being nil or empty.
func alike[T any](a, b T) bool {
	return reflect.DeepEqual(normed(a), normed(b))
}

// normed is v with no list that is empty, but not nil.
func normed[T any](v T) T {
	told := kept(v)
	for _, x := range lists(partsOf(&told)) {
		if x.v.Len() == 0 {
			x.v.SetZero()
		}
	}
	return told
}
