package code

import (
	"strconv"
	"strings"

	"besom/api"
)

// The texts that ops are written with: of the first register and the first
// slot, of a new object and of none, what stands between a register and a slot,
// and between the two sides of an op.
const (
	firstReg  = 'A'
	firstSlot = '0'
	newText   = "new"
	nullText  = "0"
	ofSlot    = '.'
	becomes   = "="
)

// piece is what a piece of a program's text is read as: an op, or one of its
// sides. What is neither is read as nil.
type piece interface{ text() string }

// register is a side of an op: what is in a register.
type register int

// place is a side of an op: what is in a slot of the object in a register.
type place struct {
	of   register
	slot int
}

// fresh is a side of an op: a new object.
type fresh struct{}

// none is a side of an op: no object.
type none struct{}

func (r register) text() string { return string(rune(firstReg + r)) }

func (p place) text() string { return p.of.text() + string(ofSlot) + strconv.Itoa(p.slot) }

func (fresh) text() string { return newText }

func (none) text() string { return nullText }

func (o Op) text() string {
	if !Right(o, api.MaxRegs, api.MaxSlots) {
		return wrongText
	}
	to, from := sides(o)
	return to.text() + becomes + from.text()
}

// sides tells what o, which is right, turns, and what that becomes.
func sides(o Op) (to, from piece) {
	r, at := register(o.R), place{register(o.A), o.S}
	switch o.Kind {
	case Load:
		return r, at
	case Store:
		return at, r
	case New:
		return r, fresh{}
	case Move:
		return r, at.of
	}
	return r, none{}
}

// read tells what s is read as: an op, if s is the text of one.
func read(s string) piece {
	to, from, _ := strings.Cut(s, becomes)
	o := opOf(side(to), side(from))
	// An op has one text only, and one that is not right has none that has sides:
	// so this finds registers and slots that there are not.
	if o.text() != s {
		return nil
	}
	return o
}

// opOf tells the op that turns to into from. It panics, if there is none.
func opOf(to, from piece) Op {
	if at, ok := to.(place); ok {
		return Op{Kind: Store, R: int(from.(register)), A: int(at.of), S: at.slot}
	}
	r := int(to.(register))
	switch from := from.(type) {
	case place:
		return Op{Kind: Load, R: r, A: int(from.of), S: from.slot}
	case fresh:
		return Op{Kind: New, R: r}
	case none:
		return Op{Kind: Null, R: r}
	}
	return Op{Kind: Move, R: r, A: int(from.(register))}
}

// side tells what a side of an op is read as. Each register and each slot that
// there is has a text of one byte.
func side(s string) piece {
	switch {
	case s == newText:
		return fresh{}
	case s == nullText:
		return none{}
	case len(s) == 1:
		return register(s[0]) - firstReg
	case len(s) == 3 && s[1] == ofSlot:
		return place{register(s[0]) - firstReg, int(s[2]) - firstSlot}
	}
	return nil
}
