package tests

import (
	"slices"

	"loop.example/g00286/impl"
)

// onWays say of an op where one goes on behind it: at its label (N), at the next place (+), or both. Of all others it is the next place.
var onWays = map[int]string{
	impl.TcRet:  "",
	impl.TcHalt: "",
	impl.TcJump: "N",
	impl.TcZero: "+N",
}

func wantNext(u impl.Unit, i int) []int {
	if !wantUnitOk(u) || i < 0 || i >= len(u.Code) {
		return nil
	}
	return nextOf(u, i)
}

// nextOf is of a place of a unit that is right.
func nextOf(u impl.Unit, i int) []int {
	goes, ok := onWays[u.Code[i].Op]
	if !ok {
		goes = "+"
	}
	var out []int
	for place := range u.Code {
		for _, way := range goes {
			if way == '+' && place == i+1 || way == 'N' && place == placeOfLabel(u, u.Code[i].N) {
				out = append(out, place)
			}
		}
	}
	return slices.Compact(out)
}

// later is a unit that is right, and one register of it: whether each place reads or sets that one, and where one goes on behind it.
type later struct {
	reads, sets []bool
	next        [][]int
}

func laterOf(u impl.Unit, next [][]int, r int) later {
	l := later{next: next}
	for _, x := range u.Code {
		l.reads = append(l.reads, slices.Contains(wantUses(x), r))
		l.sets = append(l.sets, slices.Contains(wantSets(x), r))
	}
	return l
}

// from is whether by some way on from one of these places the register is read before it is set.
func (l later) from(places ...int) bool {
	met := make([]bool, len(l.next))
	todo := slices.Clone(places)
	for len(todo) > 0 {
		p := todo[len(todo)-1]
		todo = todo[:len(todo)-1]
		switch {
		case met[p]:
		case l.reads[p]:
			return true
		case !l.sets[p]:
			todo = append(todo, l.next[p]...)
		}
		met[p] = true
	}
	return false
}

// readLater is what is read later behind each place, and at the beginning, counted by going all ways on from each of them.
func readLater(u impl.Unit) (behind [][]int, first []int) {
	if !wantUnitOk(u) {
		return nil, nil
	}
	var next [][]int
	for i := range u.Code {
		next = append(next, nextOf(u, i))
	}
	behind = make([][]int, len(u.Code))
	for r := range u.Regs {
		l := laterOf(u, next, r)
		for i := range u.Code {
			if l.from(next[i]...) {
				behind[i] = append(behind[i], r)
			}
		}
		if l.from(0) {
			first = append(first, r)
		}
	}
	return behind, first
}
