package tests

import (
	"slices"

	"loop.example/g00286/impl"
)

const mostLocal = 4000

// stack is a frame at work, upon the one below it. Registers stand by their numbers: one that is not there is 0, and one that the unit has not is not told again.
type stack struct {
	unit, pc, dst int
	regs          map[int]int
	below         *stack
}

func stackOf(frames []impl.Frame) *stack {
	var top *stack
	for _, f := range frames {
		top = &stack{f.Unit, f.Pc, f.Dst, map[int]int{}, top}
		for r, n := range f.Regs {
			top.regs[r] = n
		}
	}
	return top
}

func (s *stack) high() int {
	if s == nil {
		return 0
	}
	return 1 + s.below.high()
}

func (s *stack) frames(units []impl.Unit) []impl.Frame {
	if s == nil {
		return nil
	}
	f := impl.Frame{Unit: s.unit, Pc: s.pc, Regs: make([]int, units[s.unit].Regs), Dst: s.dst}
	for r := range f.Regs {
		f.Regs[r] = s.regs[r]
	}
	return append(s.below.frames(units), f)
}

// goTo is at that label, where it is so, and else at the next place.
func (s *stack) goTo(n int, so bool, units []impl.Unit) *stack {
	s.pc++
	if so {
		s.pc = placeOfLabel(units[s.unit], n)
	}
	return s
}

// localWays say of each place that nobody sees which stack there is behind it.
var localWays = map[int]func(s *stack, t impl.Tac, units []impl.Unit) *stack{
	impl.TcNum:   setBy(func(t impl.Tac, _, _ int) int { return t.N }),
	impl.TcCopy:  setBy(func(_ impl.Tac, a, _ int) int { return a }),
	impl.TcAdd:   setBy(func(_ impl.Tac, a, b int) int { return wrap(a + b) }),
	impl.TcSub:   setBy(func(_ impl.Tac, a, b int) int { return wrap(a - b) }),
	impl.TcMul:   setBy(func(_ impl.Tac, a, b int) int { return wrap(a * b) }),
	impl.TcLess:  setBy(func(_ impl.Tac, a, b int) int { return flag(a < b) }),
	impl.TcSame:  setBy(func(_ impl.Tac, a, b int) int { return flag(a == b) }),
	impl.TcLabel: func(s *stack, _ impl.Tac, units []impl.Unit) *stack { return s.goTo(0, false, units) },
	impl.TcJump:  func(s *stack, t impl.Tac, units []impl.Unit) *stack { return s.goTo(t.N, true, units) },
	impl.TcZero:  func(s *stack, t impl.Tac, units []impl.Unit) *stack { return s.goTo(t.N, s.regs[t.A] == 0, units) },
	impl.TcCall: func(s *stack, t impl.Tac, units []impl.Unit) *stack {
		s.pc++
		args := map[int]int{}
		for i, r := range t.Args {
			args[i] = s.regs[r]
		}
		return &stack{slices.IndexFunc(units, func(u impl.Unit) bool { return u.Name == t.S }), 0, t.D, args, s}
	},
	impl.TcRet: func(s *stack, t impl.Tac, _ []impl.Unit) *stack {
		s.below.regs[s.dst] = s.regs[t.A]
		return s.below
	},
}

func setBy(value func(t impl.Tac, a, b int) int) func(s *stack, t impl.Tac, units []impl.Unit) *stack {
	return func(s *stack, t impl.Tac, _ []impl.Unit) *stack {
		s.regs[t.D] = value(t, s.regs[t.A], s.regs[t.B])
		s.pc++
		return s
	}
}

// wantAhead is the document's words of Ahead. No place is counted against what is told itself, which may be the first one.
func wantAhead(w impl.World, id int) (impl.World, impl.Tac, bool) {
	if len(worldFaults(w)) > 0 || !slices.Contains(wantOpen(w), id) {
		return w, impl.Tac{}, false
	}
	s := stackOf(w.Bodies[id].Frames)
	for ahead := 0; ahead < mostLocal; ahead++ {
		t := w.Units[s.unit].Code[s.pc]
		if t.Op >= 13 && t.Op <= 19 || t.Op == 12 && s.below == nil {
			told := w
			told.Bodies = slices.Clone(w.Bodies)
			told.Bodies[id].Frames = s.frames(w.Units)
			return told, t, true
		}
		if t.Op >= 20 || t.Op == 11 && s.high() == mostFrames {
			break
		}
		s = localWays[t.Op](s, t, w.Units)
	}
	return w, impl.Tac{}, false
}
