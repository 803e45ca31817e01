package tests

import (
	"slices"

	"loop.example/g00286/impl"
)

// madeWords say of each op that makes a word of others which one: of its number, and of the words that it reads.
var madeWords = map[int]func(n int, read []int) int{
	impl.TcNum:  func(n int, _ []int) int { return n },
	impl.TcCopy: func(_ int, read []int) int { return read[0] },
	impl.TcAdd:  func(_ int, read []int) int { return wrap(read[0] + read[1]) },
	impl.TcSub:  func(_ int, read []int) int { return wrap(read[0] - read[1]) },
	impl.TcMul:  func(_ int, read []int) int { return wrap(read[0] * read[1]) },
	impl.TcLess: func(_ int, read []int) int { return flag(read[0] < read[1]) },
	impl.TcSame: func(_ int, read []int) int { return flag(read[0] == read[1]) },
}

// hindsight is places of which, for each word that is asked for, one looks back.
type hindsight struct {
	code []impl.Tac
	// made are the words that places make, empty where they make none that is known.
	made map[int][]int
}

// ahead is the word of a register ahead of a place, in a list: that of the last place that sets it. Where a label, or the beginning, is met first, or that place makes none, the list is empty.
func (h *hindsight) ahead(i, r int) []int {
	for i--; i >= 0 && h.code[i].Op != impl.TcLabel; i-- {
		if slices.Contains(wantSets(h.code[i]), r) {
			return h.madeAt(i)
		}
	}
	return nil
}

func (h *hindsight) madeAt(i int) []int {
	made, there := h.made[i]
	if !there {
		made = h.make(i)
		h.made[i] = made
	}
	return made
}

func (h *hindsight) make(i int) []int {
	x := h.code[i]
	makes := madeWords[x.Op]
	if makes == nil {
		return nil
	}
	var read []int
	for _, r := range wantUses(x) {
		read = append(read, h.ahead(i, r)...)
	}
	if len(read) < len(wantUses(x)) {
		return nil
	}
	return []int{makes(x.N, read)}
}

// wantFold is the document's words of Fold.
func wantFold(u impl.Unit) impl.Unit {
	if !wantUnitOk(u) {
		return u
	}
	h := &hindsight{u.Code, map[int][]int{}}
	u.Code = nil
	for i, x := range h.code {
		if made := h.madeAt(i); len(made) == 1 {
			x = number(x.D, made[0])
		}
		if x.Op == impl.TcZero {
			switch word := h.ahead(i, x.A); {
			case slices.Equal(word, []int{0}):
				x = jump(x.N)
			case len(word) == 1:
				continue
			}
		}
		u.Code = append(u.Code, x)
	}
	return u
}

// diary is what a unit does by itself, one thing behind the other, and with which words: what is set, and what is met that stands for itself. Where one goes is seen by what comes next. What others would tell (who is called, who sends, what lies in memory) are some words, the same ones each time. It ends behind so many places, and is whole where it came to an end.
func diary(u impl.Unit, regs []int, most int) (out []string, whole bool) {
	regs = slices.Clone(regs)
	for pc := 0; most > 0; most-- {
		x := u.Code[pc]
		pc++
		if x.Op == impl.TcJump || x.Op == impl.TcZero && regs[x.A] == 0 {
			pc = placeOfLabel(u, x.N)
		}
		if goesTo(x) {
			continue
		}
		var read []int
		for _, r := range wantUses(x) {
			read = append(read, regs[r])
		}
		if makes := madeWords[x.Op]; makes != nil {
			regs[x.D] = makes(x.N, read)
			out = append(out, tacText(number(x.D, regs[x.D])))
			continue
		}
		line := tacText(x)
		for _, n := range read {
			line += " " + impl.Digits(n)
		}
		out = append(out, line)
		for i, r := range wantSets(x) {
			regs[r] = []int{0, 1, 7, 0, -1, greatest, 2, least}[(3*len(out)+5*i)%8]
		}
		if x.Op == impl.TcRet || x.Op == impl.TcHalt {
			return out, true
		}
	}
	return out, false
}
