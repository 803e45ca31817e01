package tests

import (
	"slices"

	"loop.example/g00286/impl"
)

// withReads is a place with other registers in the stead of those that it reads.
func withReads(x impl.Tac, by func(r int) int) impl.Tac {
	f, _ := tacFormOf(x.Op)
	x.Args = slices.Clone(x.Args)
	for _, name := range f.reads {
		switch name {
		case 'V':
			for i, r := range x.Args {
				x.Args[i] = by(r)
			}
		case 'C':
			for i, r := range x.Args {
				if i%3 == 1 || i%3 == 2 && x.Args[i-2] == 2 {
					x.Args[i] = by(r)
				}
			}
		default:
			field := tacField(&x, name)
			*field = by(*field)
		}
	}
	return x
}

// lineage is places from each of which one looks back for where the words of registers come from.
type lineage struct {
	code []impl.Tac
	// from is by place, of a TcCopy, the register that it sets D from.
	from map[int]int
}

// setAt is the last place ahead of i that sets a register; -1 where a label, or the beginning, is met first.
func (l *lineage) setAt(i, r int) int {
	for i--; i >= 0 && l.code[i].Op != impl.TcLabel; i-- {
		if slices.Contains(wantSets(l.code[i]), r) {
			return i
		}
	}
	return -1
}

// of is the register of which r is a copy ahead of place i, if it was copied last and the other one was not set again; else r.
func (l *lineage) of(i, r int) int {
	at := l.setAt(i, r)
	if at < 0 || l.code[at].Op != impl.TcCopy {
		return r
	}
	from, there := l.from[at]
	if !there {
		from = l.of(at, l.code[at].A)
		l.from[at] = from
	}
	if l.setAt(i, from) > at {
		return r
	}
	return from
}

// wantForward is the document's words of Forward.
func wantForward(u impl.Unit) impl.Unit {
	if !wantUnitOk(u) {
		return u
	}
	l := &lineage{u.Code, map[int]int{}}
	u.Code = nil
	for i, x := range l.code {
		u.Code = append(u.Code, withReads(x, func(r int) int { return l.of(i, r) }))
	}
	return u
}

// setsAlone are the ops that do nothing but set a register to a word that they make.
var setsAlone = []int{impl.TcNum, impl.TcCopy, impl.TcAdd, impl.TcSub, impl.TcMul, impl.TcLess, impl.TcSame, impl.TcCore, impl.TcAddr}

// wantDead is the document's words of Dead: one place after the other is left out, the first one that may be.
func wantDead(u impl.Unit) impl.Unit {
	if !wantUnitOk(u) {
		return u
	}
	var next [][]int
	for i := range u.Code {
		next = append(next, nextOf(u, i))
	}
	registers := map[int]later{}
	for _, x := range u.Code {
		if _, there := registers[x.D]; !there {
			registers[x.D] = laterOf(u, next, x.D)
		}
	}
	gone := make([]bool, len(u.Code))
	for again := true; again; {
		again = false
		for i, x := range u.Code {
			if gone[i] || !slices.Contains(setsAlone, x.Op) || registers[x.D].from(next[i]...) {
				continue
			}
			gone[i], again = true, true
			for _, l := range registers {
				l.reads[i], l.sets[i] = false, false
			}
		}
	}
	var left []impl.Tac
	for i, x := range u.Code {
		if !gone[i] {
			left = append(left, x)
		}
	}
	u.Code = left
	return u
}

// deed is a place at which a unit does more than set a register to a word that it makes: what it is, with the words that it reads, and all words that the registers have by then.
type deed struct {
	at    int
	told  string
	words []int
}

// deedsOf are those of a unit by itself, one behind the other. What others would tell (who is called, who sends, what lies in memory) are some words, the same ones each time. They end behind so many places, and are whole where the unit came to an end.
func deedsOf(u impl.Unit, regs []int, most int) (deeds []deed, whole bool) {
	regs = slices.Clone(regs)
	for pc := 0; most > 0; most-- {
		at, x := pc, u.Code[pc]
		pc++
		if x.Op == impl.TcJump || x.Op == impl.TcZero && regs[x.A] == 0 {
			pc = placeOfLabel(u, x.N)
		}
		if goesTo(x) || x.Op == impl.TcLabel {
			continue
		}
		var read []int
		for _, r := range wantUses(x) {
			read = append(read, regs[r])
		}
		if slices.Contains(setsAlone, x.Op) {
			regs[x.D] = wordAlone(x, read)
			continue
		}
		told := tacText(withReads(x, func(int) int { return 0 }))
		for _, n := range read {
			told += " " + impl.Digits(n)
		}
		deeds = append(deeds, deed{at, told, slices.Clone(regs)})
		for i, r := range wantSets(x) {
			regs[r] = []int{0, 1, 7, 0, -1, greatest, 2, least}[(3*len(deeds)+5*i)%8]
		}
		if x.Op == impl.TcRet || x.Op == impl.TcHalt {
			return deeds, true
		}
	}
	return deeds, false
}

// wordAlone is what a place sets its register to, of the words that it reads.
func wordAlone(x impl.Tac, read []int) int {
	switch x.Op {
	case impl.TcCore:
		return 3
	case impl.TcAddr:
		return 100 + len(x.S)
	}
	return madeWords[x.Op](x.N, read)
}

// readFrom are the registers that are read from a place on, that place too, before they are set.
func readFrom(u impl.Unit, live [][]int, at int) []int {
	x := u.Code[at]
	ahead := slices.DeleteFunc(slices.Clone(live[at]), func(r int) bool { return slices.Contains(wantSets(x), r) })
	return append(ahead, wantUses(x)...)
}
