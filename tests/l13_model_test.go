package tests

import (
	"slices"

	"loop.example/g00286/impl"
)

const (
	mostFrames = 12
	mostSteps  = 100000
)

// worldRules are what is asked of a world, each by itself, so that a test can say that just one of them is broken. Which place of a unit it is, and how many registers it has, is asked only where there is that unit.
var worldRules = map[string]func(w impl.World) bool{
	"units":  func(w impl.World) bool { return wantUnitsOk(w.Units) },
	"bodies": func(w impl.World) bool { return len(w.Bodies) > 0 && len(w.Bodies) <= mostBodies },
	"frames": eachBody(func(b impl.Body) bool { return len(b.Frames) <= mostFrames }),
	"bare":   eachBody(func(b impl.Body) bool { return b.Ended || len(b.Frames) > 0 }),
	"unit":   eachFrame(func(w impl.World, f impl.Frame) bool { return hasUnit(w, f.Unit) }),
	"pc": eachFrame(func(w impl.World, f impl.Frame) bool {
		return !hasUnit(w, f.Unit) || f.Pc >= 0 && f.Pc < len(w.Units[f.Unit].Code)
	}),
	"regs": eachFrame(func(w impl.World, f impl.Frame) bool {
		return !hasUnit(w, f.Unit) || len(f.Regs) == w.Units[f.Unit].Regs
	}),
	"reg":    eachFrame(func(_ impl.World, f impl.Frame) bool { return wordsOk(f.Regs...) }),
	"below":  eachFrame(func(_ impl.World, f impl.Frame) bool { return targetOk(f.Dst) }),
	"ticket": eachBody(func(b impl.Body) bool { return b.Ticket >= 0 && b.Ticket <= mostSteps }),
	"case":   eachBody(func(b impl.Body) bool { return b.Case >= 0 && b.Case <= mostSteps }),
	"value":  eachBody(func(b impl.Body) bool { return wordsOk(b.Value) }),
	"dst":    eachBody(func(b impl.Body) bool { return targetOk(b.Dst) }),
	"two":    eachBody(func(b impl.Body) bool { return targetOk(b.Two) }),
	"chans":  func(w impl.World) bool { return len(w.Chans) <= mostChans },
	"chan": func(w impl.World) bool {
		return !slices.ContainsFunc(w.Chans, func(c impl.Chan) bool { return len(chanFaults(c)) > 0 })
	},
	"out":  func(w impl.World) bool { return wordsOk(w.Out...) },
	"code": func(w impl.World) bool { return wordsOk(w.Code) },
}

func eachBody(ok func(b impl.Body) bool) func(w impl.World) bool {
	return func(w impl.World) bool {
		return !slices.ContainsFunc(w.Bodies, func(b impl.Body) bool { return !ok(b) })
	}
}

func eachFrame(ok func(w impl.World, f impl.Frame) bool) func(w impl.World) bool {
	return func(w impl.World) bool {
		return eachBody(func(b impl.Body) bool {
			return !slices.ContainsFunc(b.Frames, func(f impl.Frame) bool { return !ok(w, f) })
		})(w)
	}
}

func hasUnit(w impl.World, unit int) bool { return unit >= 0 && unit < len(w.Units) }

func targetOk(r int) bool { return r >= -1 && r < mostRegs }

// worldFaults are the names of the rules that are broken, sorted.
func worldFaults(w impl.World) []string {
	var out []string
	for name, ok := range worldRules {
		if !ok(w) {
			out = append(out, name)
		}
	}
	slices.Sort(out)
	return out
}

// wantOpen takes away from all bodies those that are not open.
func wantOpen(w impl.World) []int {
	var all []int
	for id := range w.Bodies {
		all = append(all, id)
	}
	return slices.DeleteFunc(all, func(id int) bool { return w.Over || w.Bodies[id].Ended || w.Bodies[id].Waits })
}

func wantStuck(w impl.World) bool {
	return !w.Over && len(wantOpen(w)) == 0 && len(worldFaults(w)) == 0
}

// wantNew goes over the units from the last one on: no two are of one name.
func wantNew(list []impl.Unit) (impl.World, bool) {
	ok := wantUnitsOk(list)
	for i := len(list) - 1; ok && i >= 0; i-- {
		if list[i].Name == "main" && list[i].Params == 0 {
			return worldAt(list, i), true
		}
	}
	return impl.World{}, false
}

// worldAt is a world of these units with one body, at the beginning of one of them.
func worldAt(list []impl.Unit, unit int) impl.World {
	return impl.World{
		Units: cloneUnits(list),
		Bodies: []impl.Body{{
			Frames: []impl.Frame{{Unit: unit, Pc: 0, Regs: slices.Repeat([]int{0}, list[unit].Regs), Dst: -1}},
			Ended:  false,
			Waits:  false,
			Ticket: 1,
			Value:  0,
			Case:   0,
			Dst:    -1,
			Two:    -1,
		}},
	}
}

func sameChan(a, b impl.Chan) bool {
	return a.Cap == b.Cap && a.Closed == b.Closed && slices.Equal(a.Buf, b.Buf) &&
		slices.Equal(a.Takes, b.Takes) && slices.Equal(a.Gives, b.Gives)
}

func sameFrame(a, b impl.Frame) bool {
	return a.Unit == b.Unit && a.Pc == b.Pc && slices.Equal(a.Regs, b.Regs) && a.Dst == b.Dst
}

func sameBody(a, b impl.Body) bool {
	return slices.EqualFunc(a.Frames, b.Frames, sameFrame) && a.Ended == b.Ended && a.Waits == b.Waits &&
		a.Ticket == b.Ticket && a.Value == b.Value && a.Case == b.Case && a.Dst == b.Dst && a.Two == b.Two
}

func sameWorld(a, b impl.World) bool {
	return slices.EqualFunc(a.Units, b.Units, sameUnit) && slices.EqualFunc(a.Bodies, b.Bodies, sameBody) &&
		slices.EqualFunc(a.Chans, b.Chans, sameChan) && slices.Equal(a.Out, b.Out) && a.Over == b.Over && a.Code == b.Code
}
