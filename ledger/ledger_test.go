package ledger_test

import (
	"math"
	"math/big"
	"slices"
	"strconv"
	"testing"

	"besom/ledger"
)

// The numbers that the chapter names.
const (
	great    = int64(1) << 40
	maxPrice = int64(1000000)
	mutators = 16
)

// Ledger is short for the tables.
type Ledger = ledger.Ledger

// whoms are numbers of which few are mutators, at the edges of these and of 64
// bits.
func whoms() []int {
	return []int{0, 1, 2, 3, 4, 8, 15, 16, 17, 18, -1, -2, -3, -16, 1 << 32, 1<<32 + 1, 1<<32 + 2, -1 << 32, 1 - 1<<32, 1 << 62, 1<<62 + 1, math.MaxInt, math.MaxInt - 1, math.MinInt, math.MinInt + 1, math.MinInt + 2}
}

// amounts are numbers at the edges that the chapter names, and of 64 bits.
func amounts() []int64 {
	return []int64{0, 1, 2, 3, 5, 7, -1, -2, -3, -5, maxPrice - 1, maxPrice, maxPrice + 1, -maxPrice, -maxPrice - 1, great, great + 1, -great, -great - 1, 1 << 32, 1<<32 + 1, 1 << 62, math.MaxInt64, math.MaxInt64 - 1, math.MinInt64, math.MinInt64 + 1, math.MinInt64 + maxPrice}
}

// random is a source of numbers by a short rule.
type random uint64

// under tells a number from 0 to n - 1.
func (r *random) under(n int) int {
	*r = *r*6364136223846793005 + 1442695040888963407
	return int(uint64(*r)>>33) % n
}

// amount tells a small number, or one of those at the edges.
func (r *random) amount() int64 {
	if r.under(3) > 0 {
		return int64(r.under(9) - 3)
	}
	return amounts()[r.under(len(amounts()))]
}

// ledger tells one with n balances, of whatever numbers.
func (r *random) ledger(n int) Ledger {
	l := Ledger{Scanned: r.amount(), Spent: r.amount(), Pool: r.amount()}
	for range n {
		l.Bal = append(l.Bal, r.amount())
	}
	return l
}

// some are ledgers of each kind, some of them with nothing, and some with more
// balances than are right.
func some() []Ledger {
	l := []Ledger{
		{},
		{Bal: []int64{}},
		{Bal: []int64{0}},
		{Bal: []int64{0, 0}},
		{Scanned: 4, Pool: 3, Bal: []int64{1, 0}},
		{Scanned: 3, Spent: 1, Pool: 4, Bal: []int64{-2}},
		{Pool: math.MaxInt64, Bal: []int64{math.MaxInt64, math.MinInt64}},
		{Scanned: math.MaxInt64, Spent: math.MaxInt64, Pool: 1, Bal: []int64{math.MaxInt64 - 1}},
		{Scanned: -1, Spent: -1, Pool: -1, Bal: []int64{-1}},
		{Scanned: 5, Pool: 5, Bal: make([]int64, 16)},
		{Scanned: 5, Pool: 5, Bal: make([]int64, 17)},
	}
	r := random(10)
	for n := range 60 {
		l = append(l, r.ledger(n%18))
	}
	return l
}

// wrapped tells the sum of l modulo 2^64, as a number of 64 bits with a sign.
func wrapped(l ...int64) int64 {
	sum := new(big.Int)
	for _, n := range l {
		sum.Add(sum, big.NewInt(n))
	}
	whole := new(big.Int).Lsh(big.NewInt(1), 64)
	sum.Mod(sum, whole)
	if sum.BitLen() == 64 {
		sum.Sub(sum, whole)
	}
	return sum.Int64()
}

// less tells a less b, modulo 2^64.
func less(a, b int64) int64 {
	return wrapped(a, ^b, 1)
}

// clone tells the same ledger, with balances of its own.
func clone(l Ledger) Ledger {
	l.Bal = append([]int64{}, l.Bal...)
	return l
}

// alike tells whether all fields are the same.
func alike(a, b Ledger) bool {
	return a.Scanned == b.Scanned && a.Spent == b.Spent && a.Pool == b.Pool && slices.Equal(a.Bal, b.Bal)
}

// there tells whether l has a mutator who.
func there(l Ledger, who int) bool {
	return who >= 1 && who <= len(l.Bal)
}

// earned tells what Earn has to, by the chapter's words.
func earned(l Ledger, who int) Ledger {
	told := clone(l)
	told.Scanned = wrapped(l.Scanned, 1)
	if there(l, who) {
		told.Bal[who-1] = wrapped(l.Bal[who-1], 1)
	} else {
		told.Pool = wrapped(l.Pool, 1)
	}
	return told
}

// taken tells what Take has to, by the chapter's words.
func taken(l Ledger, who int, want int64) (Ledger, int64) {
	told := clone(l)
	if !there(l, who) || !(want > 0) || !(l.Pool > 0) {
		return told, 0
	}
	much := want
	if much > l.Pool {
		much = l.Pool
	}
	told.Pool = less(l.Pool, much)
	told.Bal[who-1] = wrapped(l.Bal[who-1], much)
	return told, much
}

// isPrice tells whether n is from 0 to the greatest price.
func isPrice(n int64) bool {
	return n >= 0 && n <= 1000000
}

// may tells what May has to, by the chapter's words.
func may(l Ledger, who int, price, limit int64) bool {
	if !there(l, who) || !isPrice(price) || !isPrice(limit) {
		return false
	}
	return less(l.Bal[who-1], price) >= less(0, limit)
}

// spent tells what Spend has to, by the chapter's words.
func spent(l Ledger, who int, price, limit int64) (Ledger, bool) {
	told := clone(l)
	if !may(l, who, price, limit) {
		return told, false
	}
	told.Bal[who-1] = less(l.Bal[who-1], price)
	told.Spent = wrapped(l.Spent, price)
	return told, true
}

// lacks tells what Lacks has to, by the chapter's words.
func lacks(l Ledger, who int, price, limit int64) int64 {
	switch {
	case !there(l, who) || !isPrice(price) || !isPrice(limit):
		return -1
	case may(l, who, price, limit):
		return 0
	}
	return less(less(0, limit), less(l.Bal[who-1], price))
}

// P10.1: nothing, and as many balances of 0 as there may be.
func TestNew(t *testing.T) {
	for m, want := range map[int]int{0: 0, 1: 1, 2: 2, 15: 15, 16: 16, 17: 16, 18: 16, 1000: 16, 1 << 32: 16, 1<<32 + 1: 16, 1 << 62: 16, math.MaxInt: 16, -1: 0, -2: 0, -16: 0, -1 << 32: 0, 1 - 1<<32: 0, math.MinInt: 0, math.MinInt + 1: 0} {
		l := ledger.New(m)
		if l.Scanned != 0 || l.Spent != 0 || l.Pool != 0 || !slices.Equal(l.Bal, make([]int64, want)) {
			t.Errorf("%d: %+v", m, l)
		}
		if !ledger.Right(l) {
			t.Errorf("%d: not right", m)
		}
	}
}

// P10.1: what is new has balances of its own.
func TestNewIsItsOwn(t *testing.T) {
	a := ledger.New(3)
	a.Bal[1] = 9
	if b := ledger.New(3); !slices.Equal(b.Bal, []int64{0, 0, 0}) {
		t.Error(b)
	}
}

// P10.1: each number within its limits, no more balances than there may be,
// and the sum.
func TestRight(t *testing.T) {
	full := make([]int64, mutators)
	over := make([]int64, mutators+1)
	for i, c := range []struct {
		l    Ledger
		want bool
	}{
		{Ledger{}, true},
		{Ledger{Bal: []int64{}}, true},
		{Ledger{Bal: []int64{0}}, true},
		{Ledger{Bal: full}, true},
		{Ledger{Bal: over}, false},
		{Ledger{Scanned: 1, Pool: 1, Bal: over}, false},
		// The sum of each part, and no other one.
		{Ledger{Scanned: 1}, false},
		{Ledger{Spent: 1}, false},
		{Ledger{Pool: 1}, false},
		{Ledger{Bal: []int64{1}}, false},
		{Ledger{Scanned: 1, Spent: 1}, true},
		{Ledger{Scanned: 1, Pool: 1}, true},
		{Ledger{Scanned: 1, Bal: []int64{1}}, true},
		{Ledger{Scanned: 1, Bal: []int64{0, 1}}, true},
		{Ledger{Scanned: 1, Bal: []int64{0, 0, 1}}, true},
		{Ledger{Scanned: 1, Spent: 1, Pool: 1}, false},
		{Ledger{Scanned: 10, Spent: 1, Pool: 2, Bal: []int64{3, 4}}, true},
		{Ledger{Scanned: 11, Spent: 1, Pool: 2, Bal: []int64{3, 4}}, false},
		{Ledger{Scanned: 9, Spent: 1, Pool: 2, Bal: []int64{3, 4}}, false},
		{Ledger{Scanned: 3, Spent: 1, Pool: 4, Bal: []int64{-2}}, true},
		{Ledger{Scanned: 3, Spent: 1, Pool: 4, Bal: []int64{-1}}, false},
		{Ledger{Scanned: 0, Spent: 5, Bal: []int64{-2, -3}}, true},
		{Ledger{Scanned: 0, Bal: []int64{-2, 2}}, true},
		// Below 0.
		{Ledger{Scanned: -1, Bal: []int64{-1}}, false},
		{Ledger{Spent: -1, Bal: []int64{1}}, false},
		{Ledger{Spent: -1, Pool: 1}, false},
		{Ledger{Pool: -1, Bal: []int64{1}}, false},
		{Ledger{Pool: -1, Spent: 1}, false},
		// The greatest, and one more.
		{Ledger{Scanned: great, Spent: great}, true},
		{Ledger{Scanned: great, Pool: great}, true},
		{Ledger{Scanned: great, Bal: []int64{great}}, true},
		{Ledger{Scanned: great, Spent: great, Pool: great, Bal: []int64{-great}}, true},
		{Ledger{Scanned: great + 1, Spent: great, Pool: 1}, false},
		{Ledger{Scanned: great + 1, Spent: 1, Pool: great}, false},
		{Ledger{Scanned: great, Spent: great + 1, Bal: []int64{-1}}, false},
		{Ledger{Scanned: great, Pool: great + 1, Bal: []int64{-1}}, false},
		{Ledger{Scanned: great, Bal: []int64{great + 1, -1}}, false},
		{Ledger{Scanned: great, Bal: []int64{-1, great + 1}}, false},
		{Ledger{Spent: great, Bal: []int64{-great}}, true},
		{Ledger{Pool: great, Bal: []int64{-great}}, true},
		{Ledger{Pool: great, Spent: 1, Bal: []int64{-great - 1}}, false},
		{Ledger{Bal: []int64{great, -great, great, -great}}, true},
		{Ledger{Bal: []int64{great + 1, -great - 1}}, false},
		// Sums that wrap round are nothing that is right.
		{Ledger{Bal: []int64{math.MinInt64, math.MinInt64}}, false},
		{Ledger{Spent: math.MaxInt64, Pool: math.MaxInt64, Bal: []int64{2}}, false},
		{Ledger{Scanned: math.MinInt64, Spent: math.MaxInt64, Pool: 1}, false},
		{Ledger{Scanned: math.MaxInt64, Spent: math.MaxInt64}, false},
	} {
		if ledger.Right(c.l) != c.want {
			t.Errorf("%d: %+v: not %v", i, c.l, c.want)
		}
	}
}

// P10.1: of all small ledgers, and those at the edges, what the words say.
func TestRightOfEach(t *testing.T) {
	edges := []int64{0, 1, 2, -1, great - 1, great, great + 1, -great, -great - 1}
	rights := 0
	for _, scanned := range edges {
		for _, spent := range edges {
			for _, pool := range edges {
				for _, first := range edges {
					for _, second := range edges {
						want := scanned == spent+pool+first+second
						for _, n := range []int64{scanned, spent, pool} {
							want = want && n >= 0 && n <= great
						}
						for _, n := range []int64{first, second} {
							want = want && n >= -great && n <= great
						}
						if want {
							rights++
						}
						if l := (Ledger{scanned, spent, pool, []int64{first, second}}); ledger.Right(l) != want {
							t.Errorf("%+v: not %v", l, want)
						}
					}
				}
			}
		}
	}
	if rights < 50 {
		t.Error("too few are right:", rights)
	}
}

// P10.1: each balance counts, the last one too.
func TestRightOfEachBalance(t *testing.T) {
	for i := range mutators {
		l := Ledger{Bal: make([]int64, mutators)}
		l.Bal[i] = 1
		if ledger.Right(l) {
			t.Errorf("%d doesn't count", i)
		}
		l.Scanned = 1
		if !ledger.Right(l) {
			t.Errorf("%d isn't summed", i)
		}
		l.Scanned, l.Pool, l.Bal[i] = 0, great, -great
		if !ledger.Right(l) {
			t.Errorf("%d may be so small", i)
		}
		l.Spent, l.Bal[i] = 1, -great-1
		if ledger.Right(l) {
			t.Errorf("%d may not be so small", i)
		}
	}
}

// P10.1: the same is what is the same in each field.
func TestSame(t *testing.T) {
	a := Ledger{1, 2, 3, []int64{4, 5}}
	for i, c := range []struct {
		a, b Ledger
		want bool
	}{
		{a, a, true},
		{a, Ledger{1, 2, 3, []int64{4, 5}}, true},
		{a, Ledger{1, 2, 3, []int64{4, 5, 6}[:2]}, true},
		{a, Ledger{0, 2, 3, []int64{4, 5}}, false},
		{a, Ledger{1, 0, 3, []int64{4, 5}}, false},
		{a, Ledger{1, 2, 0, []int64{4, 5}}, false},
		{a, Ledger{2, 1, 3, []int64{4, 5}}, false},
		{a, Ledger{1, 3, 2, []int64{4, 5}}, false},
		{a, Ledger{3, 2, 1, []int64{4, 5}}, false},
		{a, Ledger{1, 2, 3, []int64{0, 5}}, false},
		{a, Ledger{1, 2, 3, []int64{4, 0}}, false},
		{a, Ledger{1, 2, 3, []int64{5, 4}}, false},
		{a, Ledger{1, 2, 3, []int64{4}}, false},
		{a, Ledger{1, 2, 3, []int64{4, 5, 0}}, false},
		{a, Ledger{1, 2, 3, nil}, false},
		{a, Ledger{}, false},
		{a, Ledger{1 + 1<<32, 2, 3, []int64{4, 5}}, false},
		{a, Ledger{1, 2 + 1<<32, 3, []int64{4, 5}}, false},
		{a, Ledger{1, 2, 3 + 1<<32, []int64{4, 5}}, false},
		{a, Ledger{1, 2, 3, []int64{4, 5 + 1<<32}}, false},
		{a, Ledger{-1, 2, 3, []int64{4, 5}}, false},
		{Ledger{}, Ledger{}, true},
		{Ledger{}, Ledger{Bal: []int64{}}, true},
		{Ledger{Bal: []int64{}}, Ledger{Bal: []int64{}}, true},
		{Ledger{}, Ledger{Bal: []int64{0}}, false},
		{Ledger{Bal: []int64{0, 0}}, Ledger{Bal: []int64{0}}, false},
		{Ledger{Scanned: math.MinInt64}, Ledger{Scanned: math.MaxInt64}, false},
	} {
		if ledger.Same(c.a, c.b) != c.want || ledger.Same(c.b, c.a) != c.want {
			t.Errorf("%d: not %v", i, c.want)
		}
	}
	for i, a := range some() {
		for j, b := range some() {
			if want := alike(a, b); ledger.Same(a, b) != want || i == j && !want {
				t.Errorf("%+v, %+v: not %v", a, b, want)
			}
		}
	}
}

// P10.2: for the mutator that there is, else for the pool.
func TestEarn(t *testing.T) {
	l := Ledger{Scanned: 7, Spent: 2, Pool: 3, Bal: []int64{4, -2}}
	for who, want := range map[int]Ledger{
		1:               {8, 2, 3, []int64{5, -2}},
		2:               {8, 2, 3, []int64{4, -1}},
		0:               {8, 2, 4, []int64{4, -2}},
		3:               {8, 2, 4, []int64{4, -2}},
		-1:              {8, 2, 4, []int64{4, -2}},
		-2:              {8, 2, 4, []int64{4, -2}},
		1<<32 + 1:       {8, 2, 4, []int64{4, -2}},
		math.MaxInt:     {8, 2, 4, []int64{4, -2}},
		math.MinInt:     {8, 2, 4, []int64{4, -2}},
		math.MinInt + 1: {8, 2, 4, []int64{4, -2}},
	} {
		if got := ledger.Earn(l, who); !alike(got, want) {
			t.Errorf("%d: %+v, not %+v", who, got, want)
		}
	}
}

// P10.2: earned by whoever, of whatever there is, as the words say; sums are
// modulo 2^64.
func TestEarnOfEach(t *testing.T) {
	for _, l := range some() {
		for _, who := range whoms() {
			if got, want := ledger.Earn(l, who), earned(l, who); !alike(got, want) {
				t.Errorf("%+v, %d: %+v, not %+v", l, who, got, want)
			}
		}
	}
	top := Ledger{math.MaxInt64, 1, math.MaxInt64, []int64{math.MaxInt64}}
	if got := ledger.Earn(top, 1); !alike(got, Ledger{math.MinInt64, 1, math.MaxInt64, []int64{math.MinInt64}}) {
		t.Error(got)
	}
	if got := ledger.Earn(top, 2); !alike(got, Ledger{math.MinInt64, 1, math.MinInt64, []int64{math.MaxInt64}}) {
		t.Error(got)
	}
}

// P10.2: as much as is wanted, but no more than there is; and nothing, where
// nobody takes, nothing is wanted, or nothing is there.
func TestTake(t *testing.T) {
	l := Ledger{Scanned: 7, Spent: 2, Pool: 3, Bal: []int64{4, -2}}
	empty := Ledger{Scanned: 4, Spent: 2, Bal: []int64{4, -2}}
	below := Ledger{Scanned: 7, Spent: 2, Pool: -3, Bal: []int64{4, -2}}
	for i, c := range []struct {
		l    Ledger
		who  int
		want int64
		told Ledger
		got  int64
	}{
		{l, 1, 1, Ledger{7, 2, 2, []int64{5, -2}}, 1},
		{l, 1, 2, Ledger{7, 2, 1, []int64{6, -2}}, 2},
		{l, 1, 3, Ledger{7, 2, 0, []int64{7, -2}}, 3},
		{l, 1, 4, Ledger{7, 2, 0, []int64{7, -2}}, 3},
		{l, 1, math.MaxInt64, Ledger{7, 2, 0, []int64{7, -2}}, 3},
		{l, 2, 1, Ledger{7, 2, 2, []int64{4, -1}}, 1},
		{l, 2, 3, Ledger{7, 2, 0, []int64{4, 1}}, 3},
		{l, 2, 1 << 32, Ledger{7, 2, 0, []int64{4, 1}}, 3},
		{l, 1, 0, l, 0},
		{l, 2, -1, l, 0},
		{l, 1, math.MinInt64, l, 0},
		{l, 0, 1, l, 0},
		{l, 3, 1, l, 0},
		{l, -1, 1, l, 0},
		{l, 1<<32 + 1, 1, l, 0},
		{l, math.MaxInt, 1, l, 0},
		{l, math.MinInt, 1, l, 0},
		{empty, 1, 1, empty, 0},
		{empty, 2, math.MaxInt64, empty, 0},
		{below, 1, 1, below, 0},
		{below, 1, -1, below, 0},
		{below, 1, -4, below, 0},
		{Ledger{}, 1, 1, Ledger{}, 0},
		{Ledger{Pool: 5}, 1, 1, Ledger{Pool: 5}, 0},
		{Ledger{Pool: 5}, 0, 1, Ledger{Pool: 5}, 0},
		{Ledger{Pool: 5, Bal: []int64{math.MaxInt64}}, 1, 5, Ledger{Bal: []int64{math.MinInt64 + 4}}, 5},
		{Ledger{Pool: math.MaxInt64, Bal: []int64{0}}, 1, math.MaxInt64, Ledger{Bal: []int64{math.MaxInt64}}, math.MaxInt64},
	} {
		told, got := ledger.Take(c.l, c.who, c.want)
		if !alike(told, c.told) || got != c.got {
			t.Errorf("%d: %+v, %d, not %+v, %d", i, told, got, c.told, c.got)
		}
	}
}

// P10.2: taken by whoever, of whatever there is, as the words say.
func TestTakeOfEach(t *testing.T) {
	done, refused := 0, 0
	for _, l := range append(some(), Ledger{Pool: 2, Bal: make([]int64, 17)}) {
		for _, who := range whoms() {
			for _, want := range amounts() {
				wantTold, wantGot := taken(l, who, want)
				if wantGot > 0 {
					done++
				} else {
					refused++
				}
				told, got := ledger.Take(l, who, want)
				if !alike(told, wantTold) || got != wantGot {
					t.Errorf("%+v, %d, %d: %+v, %d, not %+v, %d", l, who, want, told, got, wantTold, wantGot)
				}
			}
		}
	}
	if done == 0 || refused == 0 {
		t.Error(done, refused)
	}
}

// P10.3: what may be spent, what comes of it, and what is lacked.
func TestSpend(t *testing.T) {
	l := Ledger{Scanned: 7, Spent: 2, Pool: 3, Bal: []int64{4, -2}}
	for i, c := range []struct {
		who          int
		price, limit int64
		may          bool
		bal          []int64
		lacks        int64
	}{
		{1, 0, 0, true, []int64{4, -2}, 0},
		{1, 1, 0, true, []int64{3, -2}, 0},
		{1, 4, 0, true, []int64{0, -2}, 0},
		{1, 5, 0, false, nil, 1},
		{1, 5, 1, true, []int64{-1, -2}, 0},
		{1, 5, 2, true, []int64{-1, -2}, 0},
		{1, 6, 1, false, nil, 1},
		{1, 9, 1, false, nil, 4},
		{1, 1000000, 1000000, true, []int64{-999996, -2}, 0},
		{1, 1000000, 999996, true, []int64{-999996, -2}, 0},
		{1, 1000000, 999995, false, nil, 1},
		{1, 1000000, 0, false, nil, 999996},
		{1, 0, 1000000, true, []int64{4, -2}, 0},
		{2, 0, 0, false, nil, 2},
		{2, 0, 1, false, nil, 1},
		{2, 0, 2, true, []int64{4, -2}, 0},
		{2, 1, 2, false, nil, 1},
		{2, 1, 3, true, []int64{4, -3}, 0},
		{2, 7, 3, false, nil, 6},
		{2, 1000000, 0, false, nil, 1000002},
		{2, 1000000, 1000000, false, nil, 2},
		// No mutator, no price, no limit.
		{0, 0, 0, false, nil, -1},
		{3, 0, 0, false, nil, -1},
		{-1, 0, 0, false, nil, -1},
		{-2, 1, 1, false, nil, -1},
		{1<<32 + 1, 0, 0, false, nil, -1},
		{math.MaxInt, 0, 0, false, nil, -1},
		{math.MinInt, 0, 0, false, nil, -1},
		{1, -1, 0, false, nil, -1},
		{1, 0, -1, false, nil, -1},
		{1, 1, -1, false, nil, -1},
		{1, -5, 5, false, nil, -1},
		{1, 1000001, 0, false, nil, -1},
		{1, 1000001, 1000000, false, nil, -1},
		{1, 0, 1000001, false, nil, -1},
		{1, 1000000, 1000001, false, nil, -1},
		{1, math.MaxInt64, math.MaxInt64, false, nil, -1},
		{1, math.MinInt64, math.MinInt64, false, nil, -1},
		{2, math.MinInt64, 0, false, nil, -1},
		{2, 0, math.MaxInt64, false, nil, -1},
		{2, 0, math.MinInt64, false, nil, -1},
		{1, 1 << 32, 0, false, nil, -1},
		{1, 0, 1 << 32, false, nil, -1},
	} {
		if ledger.May(l, c.who, c.price, c.limit) != c.may {
			t.Errorf("%d: may is not %v", i, c.may)
		}
		if got := ledger.Lacks(l, c.who, c.price, c.limit); got != c.lacks {
			t.Errorf("%d: lacks %d, not %d", i, got, c.lacks)
		}
		want := l
		if c.may {
			want = Ledger{7, 2 + c.price, 3, c.bal}
		}
		if told, ok := ledger.Spend(l, c.who, c.price, c.limit); ok != c.may || !alike(told, want) {
			t.Errorf("%d: %+v, %v, not %+v, %v", i, told, ok, want, c.may)
		}
	}
}

// P10.3: the chapter's example.
func TestLacksExample(t *testing.T) {
	if got := ledger.Lacks(ledger.New(1), 1, 5, 3); got != 2 {
		t.Error(got)
	}
}

// P10.3: sums are modulo 2^64: a balance at the edge is greater, less a price.
func TestSumsWrap(t *testing.T) {
	for i, c := range []struct {
		bal          int64
		price, limit int64
		may          bool
		left         int64
		lacks        int64
	}{
		{math.MinInt64, 1, 0, true, math.MaxInt64, 0},
		{math.MinInt64 + 4, 5, 3, true, math.MaxInt64, 0},
		{math.MinInt64 + 5, 5, 3, false, 0, math.MaxInt64 - 2},
		{math.MinInt64, 0, 1, false, 0, math.MaxInt64},
		{math.MinInt64, 0, 0, false, 0, math.MinInt64},
		{math.MinInt64 + 1, 0, 0, false, 0, math.MaxInt64},
		{math.MaxInt64, 0, 0, true, math.MaxInt64, 0},
		{math.MaxInt64, 5, 1000000, true, math.MaxInt64 - 5, 0},
	} {
		l := Ledger{Spent: math.MaxInt64, Bal: []int64{0, c.bal}}
		want := l
		if c.may {
			want = Ledger{Spent: wrapped(math.MaxInt64, c.price), Bal: []int64{0, c.left}}
		}
		told, ok := ledger.Spend(l, 2, c.price, c.limit)
		if ok != c.may || !alike(told, want) || ledger.May(l, 2, c.price, c.limit) != c.may {
			t.Errorf("%d: %+v, %v, not %+v, %v", i, told, ok, want, c.may)
		}
		if got := ledger.Lacks(l, 2, c.price, c.limit); got != c.lacks {
			t.Errorf("%d: lacks %d, not %d", i, got, c.lacks)
		}
	}
}

// P10.3: of whatever there is, whoever asks, as the words say.
func TestSpendOfEach(t *testing.T) {
	met := map[string]int{}
	for _, l := range some() {
		for _, who := range whoms() {
			for _, price := range amounts() {
				for _, limit := range amounts() {
					wantTold, wantOk := spent(l, who, price, limit)
					wantLacks := lacks(l, who, price, limit)
					met[strconv.FormatBool(wantOk)+strconv.Itoa(int(min(wantLacks, 1)))]++
					told, ok := ledger.Spend(l, who, price, limit)
					if !alike(told, wantTold) || ok != wantOk {
						t.Fatalf("%+v, %d, %d, %d: %+v, %v, not %+v, %v", l, who, price, limit, told, ok, wantTold, wantOk)
					}
					if got := ledger.May(l, who, price, limit); got != wantOk {
						t.Fatalf("%+v, %d, %d, %d: may is %v", l, who, price, limit, got)
					}
					if got := ledger.Lacks(l, who, price, limit); got != wantLacks {
						t.Fatalf("%+v, %d, %d, %d: lacks %d, not %d", l, who, price, limit, got, wantLacks)
					}
				}
			}
		}
	}
	for _, key := range []string{"true0", "false1", "false-1"} {
		if met[key] == 0 {
			t.Error("not met:", key, met)
		}
	}
}

// P10.3: who has what was lacked may, and who has one less may not.
func TestWhatIsLackedIsEnough(t *testing.T) {
	for balance := int64(-12); balance <= 12; balance++ {
		for price := int64(0); price <= 9; price++ {
			for limit := int64(0); limit <= 9; limit++ {
				l := Ledger{Bal: []int64{99, balance, -99}}
				lacks := ledger.Lacks(l, 2, price, limit)
				if lacks < 0 || (lacks == 0) != ledger.May(l, 2, price, limit) {
					t.Fatalf("%d, %d, %d: lacks %d", balance, price, limit, lacks)
				}
				if lacks == 0 {
					continue
				}
				l.Bal[1] = balance + lacks
				if !ledger.May(l, 2, price, limit) || ledger.Lacks(l, 2, price, limit) != 0 {
					t.Fatalf("%d, %d, %d: %d is not enough", balance, price, limit, lacks)
				}
				l.Bal[1]--
				if ledger.May(l, 2, price, limit) || ledger.Lacks(l, 2, price, limit) != 1 {
					t.Fatalf("%d, %d, %d: %d is too much", balance, price, limit, lacks)
				}
			}
		}
	}
}

// P10.4: what is right stays so, whatever is done: the pool is never below 0,
// and nobody's balance is below -limit by spending.
func TestStaysRight(t *testing.T) {
	r := random(104)
	for m := range mutators + 1 {
		l := ledger.New(m)
		for range 3000 {
			who := r.under(m+3) - 1
			was := l
			switch r.under(3) {
			case 0:
				l = ledger.Earn(l, who)
			case 1:
				l, _ = ledger.Take(l, who, int64(r.under(6)-1))
			case 2:
				limit := int64(r.under(7) - 1)
				var ok bool
				l, ok = ledger.Spend(l, who, int64(r.under(7)-1), limit)
				if ok && l.Bal[who-1] < -limit {
					t.Fatalf("%+v: %d is below %d", l, who, -limit)
				}
			}
			if !ledger.Right(l) || l.Pool < 0 {
				t.Fatalf("%+v, from %+v: not right", l, was)
			}
		}
		if l.Scanned == 0 || m > 0 && l.Spent == 0 {
			t.Errorf("%d: nothing was done: %+v", m, l)
		}
	}
}

// P10.4: credit neither comes from nothing nor is lost: what is not right does
// not get so, and what is so stays so, at the edges too.
func TestCreditIsKept(t *testing.T) {
	owed := func(l Ledger) int64 {
		sum := wrapped(l.Spent, l.Pool)
		for _, balance := range l.Bal {
			sum = wrapped(sum, balance)
		}
		return less(l.Scanned, sum)
	}
	r := random(1040)
	for n := range 4000 {
		l := r.ledger(n % 18)
		who := r.under(20) - 1
		want := owed(l)
		taken, _ := ledger.Take(l, who, r.amount())
		spent, _ := ledger.Spend(l, who, r.amount(), r.amount())
		for i, told := range []Ledger{ledger.Earn(l, who), taken, spent} {
			if owed(told) != want {
				t.Fatalf("%d of %+v, %d: %+v", i, l, who, told)
			}
		}
	}
}

// P10.4: one below 2^40 all is right yet; at 2^40 the next one is not.
func TestRightUpToTheEdge(t *testing.T) {
	l := Ledger{Scanned: great - 1, Pool: great - 1, Bal: []int64{0}}
	l = ledger.Earn(l, 0)
	if !ledger.Right(l) || l.Pool != great {
		t.Error(l)
	}
	if l = ledger.Earn(l, 1); ledger.Right(l) || l.Scanned != great+1 {
		t.Error(l)
	}
}

// told tells what all calls that tell a ledger make of l and who: what was
// done, and what was refused.
func told(l Ledger, who int) []Ledger {
	taken, _ := ledger.Take(l, who, 2)
	refused, _ := ledger.Take(l, who, 0)
	spent, _ := ledger.Spend(l, who, 1, 1000)
	denied, _ := ledger.Spend(l, who, -1, 1000)
	return []Ledger{ledger.Earn(l, who), taken, refused, spent, denied}
}

// P3: nothing that is handed in is written into, nor what stands behind it;
// and what is told goes its own way.
func TestNothingIsWrittenInto(t *testing.T) {
	whole := []int64{1, 2, 3, 4, 5}
	kept := slices.Clone(whole)
	l := Ledger{Scanned: 9, Spent: 3, Pool: 3, Bal: whole[1:3]}
	for _, who := range whoms() {
		for i, n := range told(l, who) {
			if !slices.Equal(whole, kept) || l.Scanned != 9 || l.Spent != 3 || l.Pool != 3 || len(l.Bal) != 2 {
				t.Fatalf("%d of %d: %+v, %v", i, who, l, whole)
			}
			for j := range n.Bal {
				n.Bal[j] = 77
			}
			n.Bal = append(n.Bal, 78)
			if !slices.Equal(whole, kept) {
				t.Fatalf("%d of %d is shared: %v", i, who, whole)
			}
		}
		ledger.Right(l)
		ledger.May(l, who, 1, 1)
		ledger.Lacks(l, who, 9, 1)
		ledger.Same(l, ledger.New(2))
		if !slices.Equal(whole, kept) {
			t.Fatalf("%d: %v", who, whole)
		}
	}
}

// P3: what was told stays as it was, whatever comes of it.
func TestWhatWasToldStays(t *testing.T) {
	first := ledger.Earn(ledger.Earn(ledger.New(2), 1), 0)
	kept := clone(first)
	second, _ := ledger.Take(first, 2, 1)
	third, _ := ledger.Spend(first, 1, 1, 0)
	if !alike(first, kept) || !alike(second, Ledger{2, 0, 0, []int64{1, 1}}) || !alike(third, Ledger{2, 1, 1, []int64{0, 0}}) {
		t.Error(first, second, third)
	}
}

// P4: the same arguments tell the same, again and again.
func TestSameAgain(t *testing.T) {
	r := random(4)
	for n := range 60 {
		l, who := r.ledger(n%18), r.under(20)-1
		want := told(l, who)
		for range 20 {
			if !slices.EqualFunc(told(clone(l), who), want, ledger.Same) {
				t.Fatalf("%+v, %d", l, who)
			}
		}
	}
}
