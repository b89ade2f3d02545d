// Package pick is layer 1: see shared/doc/01-pick.md.
package pick

import (
	"strings"

	"besom/api"
)

// The kinds of machines that may be picked.
const (
	Detector = 0
	Worker   = 1
	Mutator  = 2
)

// The runes that picks are written with: the Detector's, those of the first
// Worker and the first Mutator, and what stands for a pick that is not right.
const (
	detectorRune = '.'
	firstWorker  = 'a'
	firstMutator = '\u03b1'
	wrongRune    = '?'
)

// Pick says whose step is next: a Kind of machine, and which one of that Kind.
type Pick struct{ Kind, N int }

// Right tells whether p is of a machine that there may be.
func Right(p Pick) bool {
	switch p.Kind {
	case Detector:
		return p.N == 0
	case Worker:
		return 1 <= p.N && p.N <= api.MaxWorkers
	case Mutator:
		return 1 <= p.N && p.N <= api.MaxMutators
	}
	return false
}

// Parse reads the picks of a text, of which spaces and line feeds are no part.
func Parse(s string) ([]Pick, api.Errno) {
	var l []Pick
	over := false
	for _, r := range s {
		if r == ' ' || r == '\n' {
			continue
		}
		p, ok := read(r)
		if !ok {
			return nil, api.ErrParse
		}
		// The text is read to its end all the same: ErrParse goes ahead of ErrLimit.
		if len(l) == api.MaxPicks {
			over = true
			continue
		}
		l = append(l, p)
	}
	if over {
		return nil, api.ErrLimit
	}
	return l, api.OK
}

// read tells the pick whose text r is. Bytes that are no rune's come as
// U+FFFD, which is no pick's text either.
func read(r rune) (Pick, bool) {
	switch {
	case r == detectorRune:
		return Pick{Kind: Detector}, true
	case firstWorker <= r && r < firstWorker+api.MaxWorkers:
		return Pick{Kind: Worker, N: int(r-firstWorker) + 1}, true
	case firstMutator <= r && r < firstMutator+api.MaxMutators:
		return Pick{Kind: Mutator, N: int(r-firstMutator) + 1}, true
	}
	return Pick{}, false
}

// Print writes the picks of l one behind another.
func Print(l []Pick) string {
	var b strings.Builder
	for _, p := range l {
		b.WriteRune(write(p))
	}
	return b.String()
}

// write tells p's text.
func write(p Pick) rune {
	switch {
	case !Right(p):
		return wrongRune
	case p.Kind == Worker:
		return firstWorker + rune(p.N-1)
	case p.Kind == Mutator:
		return firstMutator + rune(p.N-1)
	}
	return detectorRune
}

// Known tells whether each of l is of a machine that there is, where there
// are n workers and m mutators.
func Known(l []Pick, n, m int) bool {
	for _, p := range l {
		if !isThere(p, n, m) {
			return false
		}
	}
	return true
}

// isThere tells whether p is of one of n workers, of m mutators, or of the
// detector.
func isThere(p Pick, n, m int) bool {
	switch p.Kind {
	case Worker:
		return Right(p) && p.N <= n
	case Mutator:
		return Right(p) && p.N <= m
	}
	return Right(p)
}

// Fair tells whether each k picks of l, one behind another, have each machine
// that there is, where there are n workers and m mutators.
func Fair(l []Pick, n, m, k int) bool {
	if k < 1 {
		return false
	}
	if len(l) < k {
		return true
	}
	if n > api.MaxWorkers || m > api.MaxMutators {
		return false
	}
	all := len(Round(n, m))
	met := map[Pick]int{}
	for i, p := range l {
		if isThere(p, n, m) {
			met[p]++
		}
		if i >= k {
			forget(met, l[i-k])
		}
		if i >= k-1 && len(met) < all {
			return false
		}
	}
	return true
}

// forget counts one p less; met keeps just what is in the picks looked at, so
// that its length is how many machines they have.
func forget(met map[Pick]int, p Pick) {
	switch met[p] {
	case 0:
	case 1:
		delete(met, p)
	default:
		met[p]--
	}
}

// Round tells the picks that pick each of the detector, n workers and m
// mutators once, in this order. (A range over a number below 0 has nothing,
// as the chapter asks.)
func Round(n, m int) []Pick {
	l := []Pick{{Kind: Detector}}
	for i := range min(n, api.MaxWorkers) {
		l = append(l, Pick{Kind: Worker, N: i + 1})
	}
	for i := range min(m, api.MaxMutators) {
		l = append(l, Pick{Kind: Mutator, N: i + 1})
	}
	return l
}
