package plan_test

import (
	"regexp"
	"slices"
	"strconv"
	"strings"
	"testing"

	"besom/api"
	"besom/code"
	"besom/heap"
	"besom/pick"
	"besom/plan"
	"besom/set"
)

// smallText is the small plan's text.
const smallText = "engine 2 2 4 2 3 8 5 7\n" +
	"heap 2|2,0|3,0|0,0|0,4|0,0\n" +
	"roots 1\n" +
	"mutator 1,0 B=A.0;A.0=B\n" +
	"mutator 4 -\n" +
	"picks .abαβ\n"

// turned is the small plan's text with another text in place of one that it has.
func turned(t *testing.T, old, new string) string {
	t.Helper()
	if strings.Count(smallText, old) == 0 {
		t.Fatalf("there is no %q", old)
	}
	return strings.Replace(smallText, old, new, 1)
}

// check parses s, and holds the error against want; with an error there is no
// plan, without one a right one.
func check(t *testing.T, s string, want api.Errno) {
	t.Helper()
	p, e := plan.Parse(s)
	if e != want {
		t.Errorf("%.80q: %v, not %v", s, e, want)
	}
	if e == api.OK && !plan.Right(p) || e != api.OK && !alike(p, Plan{}) {
		t.Errorf("%.80q: %+v", s, p)
	}
}

// engine is a text with this first line, and as many mutators' lines as handed
// in, in which all else is right.
func engine(first string, mutators int) string {
	return first + "\nheap 1\nroots -\n" + strings.Repeat("mutator 0 -\n", mutators) + "picks \n"
}

// plainly parses s by the chapter's words.
func plainly(s string) (Plan, api.Errno) {
	const number = `(0|[1-9][0-9]{0,5}|1000000)`
	l := strings.SplitAfter(s, "\n")
	m := regexp.MustCompile(`^engine` + strings.Repeat(" "+number, 8) + "\n$").FindStringSubmatch(l[0])
	if m == nil {
		return Plan{}, api.ErrParse
	}
	var n []int
	for _, text := range m[1:] {
		v, _ := strconv.Atoi(text)
		n = append(n, v)
	}
	p := Plan{Workers: n[0], Mutators: n[1], Cap: n[2], Buf: n[3], Bin: n[4], Most: n[5], Price: int64(n[6]), Limit: int64(n[7])}
	if len(l) != n[1]+5 || l[n[1]+4] != "" {
		return Plan{}, api.ErrParse
	}
	var errors [4]api.Errno
	p.H, errors[0] = plainPart(l[1], `^heap (.*)\n$`, heap.Parse)
	p.Roots, errors[1] = plainPart(l[2], `^roots (.*)\n$`, set.Parse)
	for _, line := range l[3 : n[1]+3] {
		ops, e := plainPart(line, `^mutator `+number+`(?:,`+number+`)* (.*)\n$`, code.Parse)
		if errors[2] == api.OK {
			errors[2] = e
		}
		var regs []int
		if e == api.OK {
			for _, text := range strings.Split(strings.Fields(line)[1], ",") {
				v, _ := strconv.Atoi(text)
				regs = append(regs, v)
			}
		}
		p.Regs, p.Progs = append(p.Regs, regs), append(p.Progs, ops)
	}
	p.Picks, errors[3] = plainPart(l[n[1]+3], `^picks (.*)\n$`, pick.Parse)
	for _, e := range errors {
		if e != api.OK {
			return Plan{}, e
		}
	}
	if !plan.Right(p) {
		return Plan{}, api.ErrArg
	}
	return p, api.OK
}

// plainPart parses what of a line of some form stands in its last parentheses.
func plainPart[T any](line, form string, parse func(string) (T, api.Errno)) (T, api.Errno) {
	m := regexp.MustCompile("(?s)" + form).FindStringSubmatch(line)
	if m == nil {
		var none T
		return none, api.ErrParse
	}
	return parse(m[len(m)-1])
}

// P12.3: right plans by their lines; of what is not right nothing is told.
func TestText(t *testing.T) {
	least := Plan{Workers: 1, Cap: 1, Buf: 1, Bin: 1, H: heap.Heap{Slots: 1}}
	for i, c := range []struct {
		p    Plan
		want string
	}{
		{small(), smallText},
		{least, "engine 1 0 1 1 1 0 0 0\nheap 1\nroots -\npicks \n"},
		{
			Plan{
				Workers: 16, Mutators: 3, Cap: 15, Buf: 8, Bin: 7, Most: 64, Price: 1000000, Limit: 999999,
				H:     heap.Heap{Slots: 1, Objs: [][]int{{2}, {1}, {0}}},
				Roots: 0b110,
				Regs:  [][]int{{0}, {3, 2, 1, 0}, {2, 2}},
				Progs: [][]Op{{{Kind: code.New}}, {{Kind: code.Move, R: 3, A: 2}, {Kind: code.Null, R: 2}, {Kind: code.Load, R: 1, A: 3}}, nil},
				Picks: []pick.Pick{{Kind: pick.Worker, N: 16}, {Kind: pick.Mutator, N: 3}, {}, {}},
			},
			"engine 16 3 15 8 7 64 1000000 999999\nheap 1|2|1|0\nroots 2,3\nmutator 0 A=new\nmutator 3,2,1,0 D=C;C=0;B=D.0\nmutator 2,2 -\npicks pγ..\n",
		},
		{Plan{}, ""},
		{with(func(p *Plan) { p.Workers = 0 }), ""},
		{with(func(p *Plan) { p.Regs[1][0] = 6 }), ""},
		{with(func(p *Plan) { p.Picks = make([]pick.Pick, maxPicks+1) }), ""},
	} {
		if got := plan.Text(c.p); got != c.want {
			t.Errorf("%d: %q, not %q", i, got, c.want)
		}
		if p, e := plan.Parse(c.want); c.want != "" && (e != api.OK || !alike(p, c.p)) {
			t.Errorf("%d: %+v, %v", i, p, e)
		}
	}
}

// P12.3: a number is digits, from 0 to 1000000, with no sign, and a nought ahead
// of none but 0 itself; so is what a register has.
func TestParseNumbers(t *testing.T) {
	wrong := []string{
		"1000001", "1000010", "9999999", "10000000", "4294967297", "9223372036854775807", "9223372036854775808", "18446744073709551617", strings.Repeat("1", 100000),
		"", "00", "01", "08", "0000001", "01000000", strings.Repeat("0", 100000), "-0", "-1", "+0", "+1", "--1", "1.0", "1e0", "0x1", "0b1", "1_0", "a", "?", "-", "\u0661", "\uff11",
		"1\x00", "\xff", " 1", "1 ", "1 1", "1\t", "1\r", "\n1", "1\n",
	}
	for at := range 8 {
		for _, text := range wrong {
			l := strings.Fields("1 0 1 1 1 0 0 0")
			l[at] = text
			check(t, engine("engine "+strings.Join(l, " "), 0), api.ErrParse)
		}
		for _, text := range []string{"0", "1000000", "999999", "100000"} {
			l := strings.Fields("1 0 1 1 1 0 0 0")
			l[at] = text
			want := api.ErrArg
			switch {
			case at >= 6 || text == "0" && at == 5 || text == "0" && at == 1:
				want = api.OK
			case at == 1:
				want = api.ErrParse // there are not as many lines
			}
			check(t, engine("engine "+strings.Join(l, " "), 0), want)
		}
	}
	for _, text := range wrong {
		check(t, turned(t, "mutator 4 -", "mutator "+text+" -"), api.ErrParse)
		check(t, turned(t, "mutator 4 -", "mutator 4,"+text+" -"), api.ErrParse)
		check(t, turned(t, "mutator 4 -", "mutator "+text+",4 -"), api.ErrParse)
	}
	check(t, turned(t, "mutator 4 -", "mutator 0,4 -"), api.OK)
	check(t, turned(t, "mutator 4 -", "mutator 1000000 -"), api.ErrArg)
}

// P12.3: each number of the first line goes into its own field.
func TestParseFields(t *testing.T) {
	for i, f := range fields() {
		for _, n := range []int{f.least, f.least + 1, f.most - 1, f.most} {
			want := Plan{Workers: 1, Cap: 1, Buf: 1, Bin: 1, Most: 5, H: heap.Heap{Slots: 1}}
			f.put(&want, n)
			l := strings.Fields("1 0 1 1 1 5 0 0")
			at := i
			if i > 0 {
				at++
			}
			l[at] = strconv.Itoa(n)
			if p, e := plan.Parse(engine("engine "+strings.Join(l, " "), 0)); e != api.OK || !alike(p, want) {
				t.Errorf("%s %d: %+v, %v", f.name, n, p, e)
			}
		}
	}
	for n := range maxMachines + 1 {
		p, e := plan.Parse(engine("engine 1 "+strconv.Itoa(n)+" 1 1 1 0 0 0", n))
		if e != api.OK || p.Mutators != n || len(p.Regs) != n || len(p.Progs) != n {
			t.Errorf("%d mutators: %+v, %v", n, p, e)
		}
	}
}

// P12.3: the first line has its word, and eight numbers.
func TestParseFirstLine(t *testing.T) {
	for _, first := range []string{
		"", " ", "engine", "engine ", "engine 1", "engine 1 0 1 1 1 0 0", "engine 1 0 1 1 1 0 0 0 0", "engine 1 0 1 1 1 0 0 ", "engine  1 0 1 1 1 0 0 0", "engine 1 0 1 1 1 0 0 0 ", " engine 1 0 1 1 1 0 0 0",
		"Engine 1 0 1 1 1 0 0 0", "engin 1 0 1 1 1 0 0 0", "engines 1 0 1 1 1 0 0 0", "engine1 0 1 1 1 0 0 0", "engine\t1 0 1 1 1 0 0 0", "engine 1,0,1,1,1,0,0,0", "engine 1 0 1 1 1 0 0 0\r", "1 0 1 1 1 0 0 0", "heap 1", "heap 1 0 1 1 1 0 0 0", "\nengine 1 0 1 1 1 0 0 0",
	} {
		check(t, engine(first, 0), api.ErrParse)
	}
	check(t, engine("engine 1 0 1 1 1 0 0 0", 0), api.OK)
}

// P12.3: there are as many lines as Mutators asks for, each with its line feed,
// and nothing behind.
func TestParseCountOfLines(t *testing.T) {
	for n := range 20 {
		for m := range 20 {
			want := api.OK
			if n != m {
				want = api.ErrParse
			} else if n > maxMachines {
				want = api.ErrArg
			}
			check(t, engine("engine 1 "+strconv.Itoa(n)+" 1 1 1 0 0 0", m), want)
		}
	}
	check(t, engine("engine 1 20000 1 1 1 0 0 0", 20000), api.ErrArg)
	check(t, engine("engine 1 20000 1 1 1 0 0 0", 19999), api.ErrParse)
	check(t, engine("engine 1 1000000 1 1 1 0 0 0", 0), api.ErrParse)
	for at := range len(smallText) {
		check(t, smallText[:at], api.ErrParse)
	}
	lines := strings.SplitAfter(strings.TrimSuffix(smallText, "\n"), "\n")
	lines[5] += "\n"
	for at := range lines {
		check(t, strings.Join(slices.Delete(slices.Clone(lines), at, at+1), ""), api.ErrParse)
		for _, more := range append(slices.Clone(lines), "\n", " \n", "x\n") {
			check(t, strings.Join(slices.Insert(slices.Clone(lines), at, more), ""), api.ErrParse)
		}
	}
	for _, behind := range []string{"\n", " ", "x", ".", "picks", "picks \n", smallText, "\r", "\x00"} {
		check(t, smallText+behind, api.ErrParse)
	}
	for _, s := range []string{"", "\n", "\n\n\n\n\n\n", "engine 1 0 1 1 1 0 0 0", "engine 1 0 1 1 1 0 0 0\n", strings.Repeat("\n", 100000), strings.Repeat("engine 1 0 1 1 1 0 0 0\n", 4)} {
		check(t, s, api.ErrParse)
	}
}

// P12.3, P2: lines that are not such as have to be there, or have another
// part's error.
func TestParseLines(t *testing.T) {
	ops := strings.Repeat("A=0;", maxOps)
	for _, c := range []struct {
		old, new string
		want     api.Errno
	}{
		{"heap 2|", "heap 2|", api.OK},
		{"heap ", "hoap ", api.ErrParse},
		{"heap ", "heap", api.ErrParse},
		{"heap ", "heap  ", api.ErrParse},
		{"heap ", " heap ", api.ErrParse},
		{"heap ", "roots ", api.ErrParse},
		{"heap 2|2,0|3,0|0,0|0,4|0,0", "heap", api.ErrParse},
		{"heap 2|2,0|3,0|0,0|0,4|0,0", "heap ", api.ErrParse},
		{"heap 2|2,0|3,0|0,0|0,4|0,0", "heap ?", api.ErrParse},
		{"heap 2|2,0", "heap 2|6,0", api.ErrParse},
		{"heap 2|2,0", "heap 2|02,0", api.ErrParse},
		{"heap 2|2,0", "heap 1|2,0", api.ErrParse},
		{"0,4|0,0\n", "0,4|0,0 \n", api.ErrParse},
		{"roots ", "root ", api.ErrParse},
		{"roots 1", "roots", api.ErrParse},
		{"roots 1", "roots ", api.ErrParse},
		{"roots 1", "roots  1", api.ErrParse},
		{"roots 1", "roots 1 ", api.ErrParse},
		{"roots 1", "roots 0", api.ErrParse},
		{"roots 1", "roots 65", api.ErrParse},
		{"roots 1", "roots 2,1", api.ErrParse},
		{"roots 1", "roots 1,", api.ErrParse},
		{"roots 1", "roots -", api.OK},
		{"roots 1", "roots 1,2,3,4,5", api.OK},
		{"mutator 1", "Mutator 1", api.ErrParse},
		{"mutator 1", "mutators 1", api.ErrParse},
		{"mutator 1", "mutator  1", api.ErrParse},
		{"mutator 1", "mutator1", api.ErrParse},
		{"mutator 1", " mutator 1", api.ErrParse},
		{"mutator 1,0 B", "mutator 1,0  B", api.ErrParse},
		{"mutator 1,0 B", "mutator 1,0B", api.ErrParse},
		{"mutator 1,0 B", "mutator 1,0, B", api.ErrParse},
		{"mutator 1,0 B", "mutator ,1,0 B", api.ErrParse},
		{"mutator 1,0 B", "mutator 1,,0 B", api.ErrParse},
		{"mutator 1,0 B", "mutator 1 0 B", api.ErrParse},
		{"mutator 1,0 B", "mutator 1;0 B", api.ErrParse},
		{"mutator 1,0 B", "mutator 1,00 B", api.ErrParse},
		{"mutator 1,0 B", "mutator 01,0 B", api.ErrParse},
		{"mutator 1,0 B", "mutator 1,-0 B", api.ErrParse},
		{"mutator 1,0 B", "mutator 1,-1 B", api.ErrParse},
		{"mutator 1,0 B", "mutator +1,0 B", api.ErrParse},
		{"mutator 1,0 B", "mutator 1,1000001 B", api.ErrParse},
		{"mutator 1,0 B", "mutator 1,18446744073709551616 B", api.ErrParse},
		{"mutator 1,0 B", "mutator - B", api.ErrParse},
		{"mutator 1,0 B", "mutator B", api.ErrParse},
		{"mutator 1,0 B", "mutator  B", api.ErrParse},
		{"mutator 1,0 B", "mutator 1,0 B=0;B", api.OK},
		{"mutator 1,0 B=A.0;A.0=B", "mutator 1,0", api.ErrParse},
		{"mutator 1,0 B=A.0;A.0=B", "mutator 1,0 ", api.ErrParse},
		{"mutator 1,0 B=A.0;A.0=B", "mutator 1,0 - ", api.ErrParse},
		{"mutator 1,0 B=A.0;A.0=B", "mutator 1,0 ?", api.ErrParse},
		{"mutator 1,0 B=A.0;A.0=B", "mutator ", api.ErrParse},
		{"mutator 1,0 B=A.0;A.0=B", "mutator", api.ErrParse},
		{"mutator 4 -", "mutator 4 - -", api.ErrParse},
		{"mutator 4 -", "mutator  -", api.ErrParse},
		{"mutator 4 -", "mutator -", api.ErrParse},
		{"mutator 4 -", "mutator 4 " + ops[:len(ops)-1], api.OK},
		{"mutator 4 -", "mutator 4 " + ops + "A=0", api.ErrLimit},
		{"mutator 4 -", "mutator 4 " + ops + "A=E", api.ErrParse},
		{"mutator 4 -", "mutator 4 A=A.4", api.ErrParse},
		{"picks .abαβ", "pick .abαβ", api.ErrParse},
		{"picks .abαβ", "picks.abαβ", api.ErrParse},
		{"picks .abαβ", " picks .abαβ", api.ErrParse},
		{"picks .abαβ", "picks", api.ErrParse},
		{"picks .abαβ", "picks ", api.OK},
		{"picks .abαβ", "picks   . a b ", api.OK},
		{"picks .abαβ", "picks .?", api.ErrParse},
		{"picks .abαβ", "picks .\t", api.ErrParse},
		{"picks .abαβ", "picks .\r", api.ErrParse},
		{"picks .abαβ", "picks q", api.ErrParse},
		{"picks .abαβ", "picks \xce", api.ErrParse},
		{"picks .abαβ", "picks " + strings.Repeat("α", maxPicks), api.OK},
		{"picks .abαβ", "picks " + strings.Repeat("α", maxPicks+1), api.ErrLimit},
		{"picks .abαβ", "picks " + strings.Repeat("α", maxPicks+1) + "?", api.ErrParse},
	} {
		check(t, turned(t, c.old, c.new), c.want)
	}
}

// P12.3: what is read well, but is not right.
func TestParseNotRight(t *testing.T) {
	for _, c := range [][2]string{
		{"engine 2", "engine 0"}, {"engine 2", "engine 17"}, {"engine 2", "engine 1000000"}, {"engine 2", "engine 1"},
		{" 4 2 3 8", " 0 2 3 8"}, {" 4 2 3 8", " 17 2 3 8"}, {" 4 2 3 8", " 4 0 3 8"}, {" 4 2 3 8", " 4 9 3 8"}, {" 4 2 3 8", " 4 2 0 8"}, {" 4 2 3 8", " 4 2 9 8"}, {" 4 2 3 8", " 4 2 3 4"}, {" 4 2 3 8", " 4 2 3 0"}, {" 4 2 3 8", " 4 2 3 65"}, {" 4 2 3 8", " 1000000 1000000 1000000 1000000"},
		{"roots 1", "roots 6"}, {"roots 1", "roots 1,2,3,4,5,6"}, {"roots 1", "roots 64"},
		{"mutator 1,0", "mutator 1"}, {"mutator 1,0", "mutator 6,0"}, {"mutator 1,0", "mutator 1,6"}, {"mutator 1,0", "mutator 1,1000000"}, {"mutator 1,0", "mutator 1,0,0,0,0"}, {"mutator 4", "mutator 0" + strings.Repeat(",0", 100000)},
		{"mutator 4 -", "mutator 4 B=0"}, {"B=A.0", "C=A.0"}, {"B=A.0", "B=A.2"}, {"A.0=B", "A.3=B"}, {"4 -", "4 A=D"},
		{"picks .ab", "picks .abc"}, {"αβ\n", "αβγ\n"}, {"picks .abαβ", "picks π"},
		{"heap 2|2,0|3,0|0,0|0,4|0,0", "heap 2"}, {"heap 2|2,0|3,0|0,0|0,4|0,0", "heap 2|0,0|0,0|0,0"}, {"heap 2|2,0|3,0|0,0|0,4|0,0", "heap 2" + strings.Repeat("|0,0", 9)},
	} {
		check(t, turned(t, c[0], c[1]), api.ErrArg)
	}
}

// P12.3, P2: of several errors the first line's is told; the lines' count goes
// ahead of them, and what is not right comes behind.
func TestParseFirstError(t *testing.T) {
	ops := strings.Repeat("A=0;", maxOps) + "A=0"
	picks := strings.Repeat(".", maxPicks+1)
	text := func(first, h, roots, one, two, l string) string {
		return "engine " + first + "\nheap " + h + "\nroots " + roots + "\nmutator " + one + "\nmutator " + two + "\npicks " + l + "\n"
	}
	const fine, h = "2 2 4 2 3 8 5 7", "1|0"
	for i, c := range []struct {
		s    string
		want api.Errno
	}{
		{text(fine, h, "1", "1 -", "1 -", ".a"), api.OK},
		{text(fine, h, "1", "1 "+ops, "1 -", ".a"), api.ErrLimit},
		{text(fine, h, "1", "1 "+ops, "1 ?", ".a"), api.ErrLimit},
		{text(fine, h, "1", "1 "+ops, "x -", ".a"), api.ErrLimit},
		{text(fine, h, "1", "1 "+ops, "1 -", "?"), api.ErrLimit},
		{text(fine, h, "1", "1 ?", "1 "+ops, picks), api.ErrParse},
		{text(fine, h, "1", "x "+ops, "1 -", ".a"), api.ErrParse},
		{text(fine, h, "1", "1,1000001 "+ops, "1 -", ".a"), api.ErrParse},
		{text(fine, h, "x", "1 "+ops, "1 -", ".a"), api.ErrParse},
		{text(fine, "x", "1", "1 "+ops, "1 -", picks), api.ErrParse},
		{text(fine, h, "1", "1 -", "1 -", picks), api.ErrLimit},
		{text(fine, h, "1", "1 -", "1 -", picks+"?"), api.ErrParse},
		{text(fine, h, "1", "1 -", "1 ?", picks), api.ErrParse},
		{text(fine, h, "9", "9 -", "9,9,9,9,9 B=0", picks), api.ErrLimit},
		{text("0 2 4 2 3 8 5 7", h, "1", "1 "+ops, "1 -", ".a"), api.ErrLimit},
		{text("0 2 4 2 3 8 5 7", h, "1", "1 -", "1 -", "?"), api.ErrParse},
		{text("0 2 4 2 3 8 5 7", h, "1", "1 -", "1 -", ".a"), api.ErrArg},
		{text("2 1 4 2 3 8 5 7", h, "1", "1 "+ops, "1 -", picks), api.ErrParse},
		{text("2 3 4 2 3 8 5 7", h, "1", "1 "+ops, "1 -", picks), api.ErrParse},
		{text(fine, h, "1", "1 "+ops, "1 -", ".a") + "\n", api.ErrParse},
		{text(fine, h, "1", "1 "+ops, "1 -", ".a") + "x", api.ErrParse},
		{strings.TrimSuffix(text(fine, h, "1", "1 "+ops, "1 -", ".a"), "\n"), api.ErrParse},
	} {
		if p, e := plan.Parse(c.s); e != c.want || e != api.OK && !alike(p, Plan{}) {
			t.Errorf("%d: %v, not %v", i, e, c.want)
		}
	}
}

// checkPlainly holds what s is parsed as against the chapter's words.
func checkPlainly(t *testing.T, s string) api.Errno {
	t.Helper()
	want, e := plainly(s)
	if got, errno := plan.Parse(s); errno != e || !alike(got, want) {
		t.Fatalf("%.200q: %+v, %v, not %v", s, got, errno, e)
	}
	return e
}

// P12.3: each byte of a text taken out, or another one in its place or ahead.
func TestParseOtherBytes(t *testing.T) {
	const others = "019-+ ,.;|=?\n\r\t\x00\xceaAeEmprsβ"
	met := map[api.Errno]int{}
	for at := range len(smallText) {
		met[checkPlainly(t, smallText[:at]+smallText[at+1:])]++
		for i := range len(others) {
			met[checkPlainly(t, smallText[:at]+others[i:i+1]+smallText[at+1:])]++
			met[checkPlainly(t, smallText[:at]+others[i:i+1]+smallText[at:])]++
		}
	}
	if met[api.OK] == 0 || met[api.ErrArg] == 0 || met[api.ErrParse] == 0 {
		t.Error(met)
	}
}

// P12.3, P1: texts that are mixed of the lines of right plans, and then turned
// here and there.
func TestParseMixed(t *testing.T) {
	r := random(123)
	var lines []string
	met := map[api.Errno]int{}
	for range 3000 {
		p := r.plan()
		p.Mutators = min(p.Mutators, 3)
		p.Regs, p.Progs, p.Picks = p.Regs[:p.Mutators], p.Progs[:p.Mutators], nil
		own := strings.SplitAfter(plan.Text(p), "\n")
		lines = append(lines, own...)
		for range r.under(3) {
			own[r.under(len(own))] = lines[r.under(len(lines))]
		}
		s := []byte(strings.Join(own, ""))
		for range r.under(3) {
			s[r.under(len(s))] = "0123456789 ,;\n"[r.under(14)]
		}
		met[checkPlainly(t, string(s))]++
	}
	if met[api.OK] == 0 || met[api.ErrArg] == 0 || met[api.ErrParse] == 0 {
		t.Error(met)
	}
}

// P12.4: what is shown of a right plan is parsed as it.
func TestTextIsParsed(t *testing.T) {
	r := random(124)
	shown := map[string]Plan{}
	for range 1000 {
		p := r.plan()
		s := plan.Text(p)
		got, e := plan.Parse(s)
		if s == "" || e != api.OK || !alike(got, p) || plan.Text(got) != s {
			t.Fatalf("%q: %+v, %v", s, got, e)
		}
		if other, ok := shown[s]; ok && !alike(other, p) {
			t.Fatalf("%q is of %+v and %+v", s, p, other)
		}
		shown[s] = p
	}
}

// P12.4: all that is grey at the start is live.
func TestGreyIsLive(t *testing.T) {
	r := random(125)
	for range 1000 {
		p := r.plan()
		if !set.Under(plan.Greys(p), plan.Live(p)) || !set.Under(plan.Live(p), set.First(len(p.H.Objs))) {
			t.Fatalf("%+v", p)
		}
	}
}
