package tests

import (
	"math"
	"slices"
	"strings"
	"sync"
	"testing"

	"loop.example/g00286/impl"
)

func cloneFrames(list []impl.Frame) []impl.Frame {
	out := slices.Clone(list)
	for i := range out {
		out[i].Regs = slices.Clone(out[i].Regs)
	}
	return out
}

func cloneWorld(w impl.World) impl.World {
	w.Units, w.Bodies, w.Chans, w.Out = cloneUnits(w.Units), slices.Clone(w.Bodies), slices.Clone(w.Chans), slices.Clone(w.Out)
	for i := range w.Bodies {
		w.Bodies[i].Frames = cloneFrames(w.Bodies[i].Frames)
	}
	for i := range w.Chans {
		w.Chans[i] = cloneChan(w.Chans[i])
	}
	return w
}

// checkWorld asks of the world as it is, and with Over turned, which does not count for WorldOk.
func checkWorld(t *testing.T, w impl.World) []string {
	t.Helper()
	faults := worldFaults(w)
	for range 2 {
		w.Over = !w.Over
		if got := impl.WorldOk(w); got != (len(faults) == 0) {
			t.Errorf("WorldOk(%s) = %v: what is amiss is %v", clip(w), got, faults)
		}
		open := wantOpen(w)
		if got := impl.Open(w); !slices.Equal(got, open) {
			t.Errorf("Open(%s) = %s, not %s", clip(w), clip(got), clip(open))
		}
		stuck := len(faults) == 0 && !w.Over && len(open) == 0
		if got := impl.Stuck(w); got != stuck {
			t.Errorf("Stuck(%s) = %v: what is amiss is %v, Over is %v, open are %s", clip(w), got, faults, w.Over, clip(open))
		}
	}
	return faults
}

// wantWorld is of a world with which just that is amiss (words; nothing where it is right).
func wantWorld(t *testing.T, w impl.World, amiss string) {
	t.Helper()
	if faults := checkWorld(t, w); !slices.Equal(faults, strings.Fields(amiss)) {
		t.Errorf("of %s there is amiss %v, not %q", clip(w), faults, amiss)
	}
}

// threeUnits have 7, 4 and 2 places, and 3, 250 and 1 registers.
func threeUnits() []impl.Unit {
	return []impl.Unit{
		{Name: "f", Params: 2, Regs: 3, Code: []impl.Tac{label(0), unless(1, 0), call("g"), begin("f", 0, 2), {Op: impl.TcPrint, A: 2}, jump(0), ret(0)}},
		{Name: "main", Regs: 250, Code: []impl.Tac{choose(1, 2, 0, 1, 3, 0, 2, 4, 5), {Op: impl.TcRecv, D: 249, A: 7}, call("f", 8, 9), ret(249)}},
		{Name: "g", Regs: 1, Code: []impl.Tac{{Op: impl.TcNum, N: greatest}, ret(0)}},
	}
}

// framesOf are so many frames of threeUnits, each of another unit than the one below.
func framesOf(count, first int) []impl.Frame {
	var list []impl.Frame
	for i := range count {
		unit := (first + i) % 3
		list = append(list, impl.Frame{Unit: unit, Pc: []int{6, 3, 1}[unit], Regs: ownRegisters(unit), Dst: i*17 - 1})
	}
	return list
}

// ownRegisters are those of a frame of one of threeUnits; of a number that is none of them, which has none that are right, some.
func ownRegisters(unit int) []int {
	if unit < 0 || unit > 2 {
		return ramp(3)
	}
	return ramp([]int{3, 250, 1}[unit])
}

// wholeWorld has bodies of which one is open, one waits, one has ended, and one both; its channels are 4.
func wholeWorld() impl.World {
	return impl.World{
		Units: threeUnits(),
		Bodies: []impl.Body{
			{Frames: framesOf(3, 1), Ticket: 4, Value: -7, Case: 1, Dst: 249, Two: 3},
			{Frames: framesOf(5, 0), Waits: true, Ticket: 9, Value: 8, Case: 2, Dst: 5, Two: -1},
			{Frames: framesOf(4, 2), Ended: true, Ticket: 1, Dst: -1, Two: -1},
			{Frames: framesOf(3, 0), Ended: true, Waits: true, Ticket: 7, Value: least, Case: 3, Dst: 0, Two: 0},
		},
		Chans: []impl.Chan{{Cap: 2, Buf: []int{4}}, {Takes: bodies(1, 3)}, {Cap: 1, Closed: true}, {Cap: 1, Buf: []int{6}, Gives: bodies(1)}},
		Out:   []int{5, -6, 7},
		Code:  3,
	}
}

// smallWorld has one body with one frame, and nothing else. Its unit has as many registers as the first one of threeUnits.
func smallWorld() impl.World {
	return impl.World{
		Units:  []impl.Unit{{Name: "main", Regs: 3, Code: []impl.Tac{ret(0)}}},
		Bodies: []impl.Body{{Frames: []impl.Frame{{Regs: make([]int, 3), Dst: -1}}, Ticket: 1, Dst: -1, Two: -1}},
	}
}

// wantEachFrame turns each frame of each body of a whole world by itself, and then all at once.
func wantEachFrame(t *testing.T, amiss string, turn func(f *impl.Frame)) {
	t.Helper()
	all := wholeWorld()
	for i, b := range all.Bodies {
		for k := range b.Frames {
			w := wholeWorld()
			turn(&w.Bodies[i].Frames[k])
			wantWorld(t, w, amiss)
			turn(&b.Frames[k])
		}
	}
	wantWorld(t, all, amiss)
	one := smallWorld()
	one.Units = all.Units
	turn(&one.Bodies[0].Frames[0])
	wantWorld(t, one, amiss)
}

// wantEachBody turns each body of a whole world by itself, and then all at once.
func wantEachBody(t *testing.T, amiss string, turn func(b *impl.Body)) {
	t.Helper()
	all, one := wholeWorld(), smallWorld()
	for i := range all.Bodies {
		w := wholeWorld()
		turn(&w.Bodies[i])
		wantWorld(t, w, amiss)
		turn(&all.Bodies[i])
	}
	wantWorld(t, all, amiss)
	turn(&one.Bodies[0])
	wantWorld(t, one, amiss)
}

// amissIf is the name where it is so.
func amissIf(so bool, name string) string {
	if so {
		return name
	}
	return ""
}

// targets are numbers about those of the registers.
func targets() []int {
	return []int{math.MinInt, least - 1, least, -251, -250, -3, -2, -1, 0, 1, 2, 3, 100, 248, 249, 250, 251, 256, 1 << 32, 1<<32 + 5, 1<<32 - 1, greatest, greatest + 1, math.MaxInt}
}

// steps are numbers about those of the steps.
func steps() []int {
	return []int{math.MinInt, least, -mostSteps, -2, -1, 0, 1, 2, 5, 99999, 100000, 100001, 100002, 1 << 32, 1<<32 + 1, greatest, greatest + 1, math.MaxInt}
}

// words are numbers about those of the words.
func words() []int {
	return []int{math.MinInt, -turn, least - 2, least - 1, least, least + 1, -1, 0, 1, greatest - 1, greatest, greatest + 1, greatest + 2, turn, turn + 1, math.MaxInt}
}

func TestWorldConstants(t *testing.T) {
	if impl.MaxFrames != mostFrames || impl.MaxSteps != mostSteps {
		t.Error(impl.MaxFrames, impl.MaxSteps)
	}
}

func TestOrdinaryWorlds(t *testing.T) {
	wantWorld(t, wholeWorld(), "")
	wantWorld(t, smallWorld(), "")
	w := wholeWorld()
	if got := impl.Open(w); !slices.Equal(got, []int{0}) || impl.Stuck(w) {
		t.Errorf("open are %v, stuck is %v", got, impl.Stuck(w))
	}
	w.Bodies[0].Waits = true
	if got := impl.Open(w); len(got) > 0 || !impl.Stuck(w) {
		t.Errorf("open are %v, stuck is %v", got, impl.Stuck(w))
	}
	wantWorld(t, impl.World{}, "bodies")
}

func TestUnitsOfAWorld(t *testing.T) {
	d := newUnitDrawer(131)
	bad := []impl.Unit{
		{}, unit(0, 1), unit(0, 251, ret(0)), unit(5, 5, ret(0)), unit(2, 1, ret(0)), unit(0, 1, ret(1)), unit(0, 1, label(0)), unit(0, 1, jump(0)),
		namedUnit("f", 0), namedUnit("main", 1), namedUnit("bad", 0, call("nowhere")), namedUnit("bad", 0, call("f", 1)), namedUnit("bad", 0, addr("")),
	}
	for range 300 {
		u := d.turnUnit(d.unit())
		if !impl.UnitOk(u) {
			bad = append(bad, u)
		}
	}
	for _, u := range bad {
		w := wholeWorld()
		w.Units = append(w.Units, u)
		wantWorld(t, w, "units")
		w.Bodies = []impl.Body{{Ended: true, Dst: -1, Two: -1}}
		wantWorld(t, w, "units")
	}
	for at := range 3 {
		w := wholeWorld()
		w.Units[at].Params = 5
		wantWorld(t, w, "units")
		w = wholeWorld()
		w.Units[at].Code[0].S = "x"
		wantWorld(t, w, "units")
	}
	for _, count := range []int{1, 2, 79, 80} {
		w := smallWorld()
		w.Units, w.Bodies[0].Frames[0].Regs = manyUnits(count), make([]int, 5)
		wantWorld(t, w, "")
		w.Bodies[0].Frames[0].Unit = count - 1
		wantWorld(t, w, "")
	}
	for _, count := range []int{81, 82, 500} {
		w := smallWorld()
		w.Units, w.Bodies[0].Frames[0].Regs = manyUnits(count), make([]int, 5)
		wantWorld(t, w, "units")
		w.Bodies[0].Frames[0].Unit = count - 1
		wantWorld(t, w, "units")
	}
}

// A world needs no `main`, and no unit at all where each body has ended and has no frame.
func TestWorldsWithoutMain(t *testing.T) {
	w := smallWorld()
	w.Units[0].Name = "f"
	wantWorld(t, w, "")
	w.Units[0].Params = 3
	wantWorld(t, w, "")
	w.Units = nil
	wantWorld(t, w, "unit")
	w.Bodies[0].Ended = true
	wantWorld(t, w, "unit")
	w.Bodies[0].Frames = nil
	wantWorld(t, w, "")
	w.Bodies[0].Ended = false
	wantWorld(t, w, "bare")
}

func TestHowManyBodies(t *testing.T) {
	whole := wholeWorld()
	for count := range 12 {
		w := wholeWorld()
		w.Bodies = slices.Repeat(whole.Bodies, 3)[:count]
		wantWorld(t, w, amissIf(count < 1 || count > 6, "bodies"))
		w = smallWorld()
		w.Bodies = slices.Repeat(w.Bodies, count)
		wantWorld(t, w, amissIf(count < 1 || count > 6, "bodies"))
		if count > 0 {
			w.Bodies[count-1].Ticket = -1
			wantWorld(t, w, strings.TrimSpace(amissIf(count > 6, "bodies")+" ticket"))
		}
	}
	w := smallWorld()
	w.Bodies = slices.Repeat([]impl.Body{{Ended: true}}, 7)
	wantWorld(t, w, "bodies")
	w.Bodies = w.Bodies[:6]
	wantWorld(t, w, "")
}

func TestHowManyFrames(t *testing.T) {
	for _, count := range []int{0, 1, 2, 11, 12, 13, 14, 24, 100, 1000} {
		for _, ended := range []bool{false, true} {
			for _, waits := range []bool{false, true} {
				amiss := amissIf(count == 0 && !ended, "bare") + amissIf(count > 12, "frames")
				wantEachBody(t, amiss, func(b *impl.Body) {
					b.Ended, b.Waits = ended, waits
					b.Frames = slices.Repeat([]impl.Frame{{Regs: []int{4, 5, 6}, Dst: -1}}, count)
				})
			}
		}
	}
}

func TestUnitsOfFrames(t *testing.T) {
	for _, n := range []int{math.MinInt, least, -4, -3, -2, -1, 0, 1, 2, 3, 4, 80, 256, 1 << 32, 1<<32 + 1, greatest, math.MaxInt} {
		amiss := amissIf(n < 0 || n > 2, "unit")
		wantEachFrame(t, amiss, func(f *impl.Frame) { f.Unit, f.Pc, f.Regs = n, 0, ownRegisters(n) })
		wantEachFrame(t, amiss, func(f *impl.Frame) { f.Unit, f.Pc, f.Regs = n, 1, ownRegisters(n) })
	}
	// A number that is no unit has no places either, whatever Pc is, and no registers, however many there are.
	for _, n := range []int{-1, 3} {
		for _, pc := range words() {
			wantEachFrame(t, "unit", func(f *impl.Frame) { f.Unit, f.Pc = n, pc })
		}
		for _, count := range []int{0, 1, 3, 250, 251} {
			wantEachFrame(t, "unit", func(f *impl.Frame) { f.Unit, f.Regs = n, ramp(count) })
		}
	}
}

func TestPlacesOfFrames(t *testing.T) {
	for unit, count := range []int{7, 4, 2} {
		for _, pc := range []int{math.MinInt, least, -8, -2, -1, 0, 1, 2, 3, 4, 5, 6, 7, 8, 899, 900, 1 << 32, 1<<32 + 1, greatest, math.MaxInt} {
			wantEachFrame(t, amissIf(pc < 0 || pc >= count, "pc"), func(f *impl.Frame) {
				f.Unit, f.Pc, f.Regs = unit, pc, ownRegisters(unit)
			})
		}
	}
	for count := 1; count <= mostPlaces; count += 31 {
		w := smallWorld()
		w.Units[0].Code = append(slices.Repeat([]impl.Tac{{Op: impl.TcNum}}, count-1), ret(0))
		for _, pc := range []int{-1, 0, count / 2, count - 1, count, count + 1} {
			w.Bodies[0].Frames[0].Pc = pc
			wantWorld(t, w, amissIf(pc < 0 || pc >= count, "pc"))
		}
	}
	w := smallWorld()
	w.Units[0].Code = append(slices.Repeat([]impl.Tac{{Op: impl.TcNum}}, mostPlaces-1), ret(0))
	w.Bodies[0].Frames[0].Pc = mostPlaces - 1
	wantWorld(t, w, "")
	w.Bodies[0].Frames[0].Pc = mostPlaces
	wantWorld(t, w, "pc")
}

func TestRegistersOfFrames(t *testing.T) {
	for _, n := range words() {
		amiss := amissIf(n < least || n > greatest, "reg")
		wantEachFrame(t, amiss, func(f *impl.Frame) { f.Regs[0] = n })
		wantEachFrame(t, amiss, func(f *impl.Frame) { f.Regs[len(f.Regs)/2] = n })
		wantEachFrame(t, amiss, func(f *impl.Frame) { f.Regs[len(f.Regs)-1] = n })
		wantEachFrame(t, amiss, func(f *impl.Frame) { f.Regs = slices.Repeat([]int{n}, len(f.Regs)) })
		wantEachFrame(t, amiss, func(f *impl.Frame) { f.Unit, f.Pc, f.Regs = 2, 0, []int{n} })
	}
}

// A frame has the registers of its unit: not fewer, and not more.
func TestHowManyRegistersAFrameHas(t *testing.T) {
	for unit, regs := range []int{3, 250, 1} {
		for _, count := range []int{0, 1, 2, 3, 4, 249, 250, 251, 256, 1000} {
			amiss := amissIf(count != regs, "regs")
			wantEachFrame(t, amiss, func(f *impl.Frame) { f.Unit, f.Pc, f.Regs = unit, 0, ramp(count) })
			wantEachFrame(t, amiss, func(f *impl.Frame) { f.Unit, f.Pc, f.Regs = unit, 1, make([]int, count, 2000) })
			if count > 0 {
				wantEachFrame(t, strings.TrimSpace("reg "+amiss), func(f *impl.Frame) {
					f.Unit, f.Pc, f.Regs = unit, 0, put(ramp(count), count-1, greatest+1)
				})
			}
		}
	}
	for _, more := range []int{1, 2, 300} {
		wantEachFrame(t, "regs", func(f *impl.Frame) { f.Regs = append(f.Regs, make([]int, more)...) })
		wantEachFrame(t, "regs", func(f *impl.Frame) { f.Regs = f.Regs[min(more, len(f.Regs)):] })
		wantEachFrame(t, "regs", func(f *impl.Frame) { f.Regs = f.Regs[:max(len(f.Regs)-more, 0)] })
	}
}

// fullWorld has as many bodies and frames as there may be, all of one unit of so many registers, and each body waits.
func fullWorld(regs int) impl.World {
	w := impl.World{Units: []impl.Unit{{Name: "f", Regs: regs, Code: []impl.Tac{label(0), jump(0)}}}}
	for range mostBodies {
		b := impl.Body{Waits: true, Ticket: 1, Dst: -1, Two: -1}
		for range mostFrames {
			b.Frames = append(b.Frames, impl.Frame{Regs: make([]int, regs), Dst: -1})
		}
		w.Bodies = append(w.Bodies, b)
	}
	return w
}

// wantRegistersAmiss is of a world of which no body is open, and of the same with each one open.
func wantRegistersAmiss(t *testing.T, w impl.World, so bool) {
	t.Helper()
	wantWorld(t, w, amissIf(so, "regs"))
	wantOpenAndStuck(t, w, nil, !so)
	if impl.WorldOk(w) == so {
		t.Errorf("WorldOk(%s) = %v", clip(w), !so)
	}
	var all []int
	for id := range w.Bodies {
		w.Bodies[id].Waits = false
		all = append(all, id)
	}
	wantWorld(t, w, amissIf(so, "regs"))
	wantOpenAndStuck(t, w, all, false)
	for id := range w.Bodies {
		w.Bodies[id].Waits = true
	}
}

// One frame alone has another number of registers, at each place among the frames of a body and among the bodies.
func TestWhereARegisterIsMissingOrTooMuch(t *testing.T) {
	for _, regs := range []int{0, 1, 2, 3, 249, 250} {
		w := fullWorld(regs)
		wantRegistersAmiss(t, w, false)
		for _, b := range w.Bodies {
			for k := range b.Frames {
				kept := b.Frames[k].Regs
				for _, count := range []int{0, regs - 1, regs, regs + 1, regs + 256} {
					if count < 0 {
						continue
					}
					b.Frames[k].Regs = make([]int, count)
					wantRegistersAmiss(t, w, count != regs)
				}
				b.Frames[k].Regs = kept
			}
		}
		wantRegistersAmiss(t, w, false)
	}
}

// One frame of each unit, whose registers go to another one: how many there are in all is as it was.
func TestRegistersOfAnotherUnit(t *testing.T) {
	w := fullWorld(0)
	for _, regs := range []int{1, 2, 250} {
		w.Units = append(w.Units, impl.Unit{Name: "u" + impl.Digits(regs), Regs: regs, Code: []impl.Tac{ret(regs - 1)}})
	}
	counts := []int{0, 1, 2, 250}
	for unit := range counts {
		for other, count := range counts {
			for _, b := range w.Bodies {
				for k := range b.Frames {
					b.Frames[k].Unit, b.Frames[k].Regs = (unit+k)%4, ramp(counts[(unit+k)%4])
				}
			}
			wantRegistersAmiss(t, w, false)
			frames := w.Bodies[unit].Frames
			at := slices.IndexFunc(frames, func(f impl.Frame) bool { return f.Unit == other })
			frames[0].Regs, frames[at].Regs = ramp(count), ramp(counts[unit])
			wantRegistersAmiss(t, w, unit != other)
		}
	}
}

// How many registers there are goes with the unit: one that has others makes each frame of it amiss, and no other one.
func TestUnitsWhoseRegistersAreOthers(t *testing.T) {
	for _, regs := range []int{250, 100, 2, 1} {
		w := fullWorld(regs)
		w.Units[0].Code = []impl.Tac{ret(0)}
		for _, count := range []int{1, 2, 3, 99, 100, 101, 249, 250} {
			w.Units[0].Regs = count
			wantRegistersAmiss(t, w, count != regs)
		}
		w.Units[0].Regs = regs
		for _, count := range []int{1, regs, 250} {
			w.Units = append(w.Units[:1], impl.Unit{Name: "g", Regs: count, Code: []impl.Tac{ret(count - 1)}})
			wantRegistersAmiss(t, w, false)
		}
	}
}

// Frames of a body that has ended are asked like others; one that has no frame lacks no register.
func TestRegistersOfBodiesThatHaveEnded(t *testing.T) {
	for _, count := range []int{2, 3, 4} {
		w := fullWorld(3)
		for id := range w.Bodies {
			w.Bodies[id].Ended = true
		}
		w.Bodies[5].Frames[11].Regs = make([]int, count)
		wantWorld(t, w, amissIf(count != 3, "regs"))
		wantOpenAndStuck(t, w, nil, count == 3)
		w.Bodies[5].Frames = nil
		wantWorld(t, w, "")
		wantOpenAndStuck(t, w, nil, true)
	}
}

func TestWhereAFramesValueGoes(t *testing.T) {
	for _, n := range targets() {
		wantEachFrame(t, amissIf(n < -1 || n > 249, "below"), func(f *impl.Frame) { f.Dst = n })
	}
}

func TestNumbersOfBodies(t *testing.T) {
	for _, n := range steps() {
		wantEachBody(t, amissIf(n < 0 || n > 100000, "ticket"), func(b *impl.Body) { b.Ticket = n })
		wantEachBody(t, amissIf(n < 0 || n > 100000, "case"), func(b *impl.Body) { b.Case = n })
		wantEachBody(t, amissIf(n < 0 || n > 100000, "case ticket"), func(b *impl.Body) { b.Ticket, b.Case = n, n })
	}
	for _, n := range words() {
		wantEachBody(t, amissIf(n < least || n > greatest, "value"), func(b *impl.Body) { b.Value = n })
	}
	for _, n := range targets() {
		wantEachBody(t, amissIf(n < -1 || n > 249, "dst"), func(b *impl.Body) { b.Dst = n })
		wantEachBody(t, amissIf(n < -1 || n > 249, "two"), func(b *impl.Body) { b.Two = n })
		wantEachBody(t, amissIf(n < -1 || n > 249, "dst two"), func(b *impl.Body) { b.Dst, b.Two = n, n })
	}
}

// A body that has ended, or waits, is asked like each other one.
func TestBodiesThatHaveEndedOrWait(t *testing.T) {
	faults := map[string]func(b *impl.Body){
		"":       func(*impl.Body) {},
		"frames": func(b *impl.Body) { b.Frames = slices.Repeat(b.Frames, 13) },
		"unit":   func(b *impl.Body) { b.Frames[0].Unit = 3 },
		"pc":     func(b *impl.Body) { b.Frames[0].Pc = 7 },
		"regs":   func(b *impl.Body) { b.Frames[0].Regs = append(b.Frames[0].Regs, 0) },
		"reg":    func(b *impl.Body) { b.Frames[0].Regs[0] = least - 1 },
		"below":  func(b *impl.Body) { b.Frames[0].Dst = 250 },
		"ticket": func(b *impl.Body) { b.Ticket = -1 },
		"case":   func(b *impl.Body) { b.Case = 100001 },
		"value":  func(b *impl.Body) { b.Value = greatest + 1 },
		"dst":    func(b *impl.Body) { b.Dst = -2 },
		"two":    func(b *impl.Body) { b.Two = 250 },
	}
	for amiss, fault := range faults {
		for flags := range 4 {
			wantEachBody(t, amiss, func(b *impl.Body) {
				b.Ended, b.Waits = flags&1 != 0, flags&2 != 0
				fault(b)
			})
		}
	}
}

func TestHowManyChannels(t *testing.T) {
	whole := wholeWorld()
	for count := range 20 {
		for _, w := range []impl.World{wholeWorld(), smallWorld()} {
			w.Chans = slices.Repeat(whole.Chans, 5)[:count]
			wantWorld(t, w, amissIf(count > 8, "chans"))
			w.Chans = make([]impl.Chan, count)
			wantWorld(t, w, amissIf(count > 8, "chans"))
		}
	}
}

func TestChannelsOfAWorld(t *testing.T) {
	bad := []impl.Chan{
		{Cap: -1}, {Cap: 9}, {Buf: []int{1}}, {Cap: 8, Buf: make([]int, 9)}, {Cap: 1, Buf: []int{least - 1}}, {Closed: true, Cap: 1, Buf: []int{greatest + 1}},
		{Takes: bodies(6)}, {Takes: bodies(-1)}, {Takes: bodies(1, 1)}, {Takes: []impl.Wait{wt(0, -1, 0, 0)}}, {Takes: []impl.Wait{wt(0, 0, turn, 0)}}, {Takes: []impl.Wait{wt(0, 0, 0, -1)}},
		{Gives: bodies(6)}, {Gives: bodies(-1)}, {Gives: bodies(1, 1)}, {Gives: []impl.Wait{wt(0, -1, 0, 0)}}, {Gives: []impl.Wait{wt(0, 0, turn, 0)}}, {Gives: []impl.Wait{wt(0, 0, 0, -1)}},
	}
	for _, c := range bad {
		for count := 1; count <= mostChans; count++ {
			for at := range count {
				for _, w := range []impl.World{wholeWorld(), smallWorld()} {
					w.Chans = make([]impl.Chan, count)
					w.Chans[at] = c
					wantWorld(t, w, "chan")
				}
			}
		}
	}
	// Waits of bodies that a world has not are such as a channel takes them, and so are tickets beyond MaxSteps.
	w := smallWorld()
	w.Chans = []impl.Chan{{Takes: bodies(5, 0), Gives: []impl.Wait{wt(4, math.MaxInt, 1, math.MaxInt)}}}
	wantWorld(t, w, "")
}

func TestOutAndCodeOfAWorld(t *testing.T) {
	for _, n := range words() {
		for _, w := range []impl.World{wholeWorld(), smallWorld()} {
			w.Code = n
			wantWorld(t, w, amissIf(n < least || n > greatest, "code"))
			w.Code = 0
			for _, count := range []int{1, 2, 3, 50} {
				for _, at := range []int{0, count / 2, count - 1} {
					w.Out = put(ramp(count), at, n)
					wantWorld(t, w, amissIf(n < least || n > greatest, "out"))
				}
			}
			w.Out = slices.Repeat([]int{n}, 4)
			wantWorld(t, w, amissIf(n < least || n > greatest, "out"))
		}
	}
	for _, count := range []int{0, 1, 6, 8, 1000, 100001} {
		w := wholeWorld()
		w.Out = ramp(count)
		wantWorld(t, w, "")
	}
}

// numbersOf are where all numbers of a world lie, but for those of its units.
func numbersOf(w *impl.World) []*int {
	list := []*int{&w.Code}
	for i := range w.Bodies {
		b := &w.Bodies[i]
		list = append(list, &b.Ticket, &b.Value, &b.Case, &b.Dst, &b.Two)
		for k := range b.Frames {
			f := &b.Frames[k]
			list = append(list, &f.Unit, &f.Pc, &f.Dst, &f.Regs[0], &f.Regs[len(f.Regs)-1])
		}
	}
	for i := range w.Chans {
		c := &w.Chans[i]
		list = append(list, &c.Cap)
		for k := range c.Takes {
			list = append(list, &c.Takes[k].Body, &c.Takes[k].Ticket, &c.Takes[k].Value, &c.Takes[k].Case)
		}
	}
	for i := range w.Out {
		list = append(list, &w.Out[i])
	}
	return list
}

// Each number of a whole world is put to each edge by itself.
func TestEachNumberOfAWorld(t *testing.T) {
	w := wholeWorld()
	w.Units = []impl.Unit{w.Units[2], namedUnit("f", 1, label(0))}
	for _, b := range w.Bodies {
		for k := range b.Frames {
			b.Frames[k].Unit, b.Frames[k].Pc, b.Frames[k].Regs = k%2, k/2%2, ramp([]int{1, 5}[k%2])
		}
	}
	met := map[string]int{}
	for _, to := range numbersOf(&w) {
		kept := *to
		for _, n := range append(edges(), 2, 4, 5, 6, 249, 250, 99999, 100000, 100001) {
			*to = n
			met[strings.Join(checkWorld(t, w), " ")]++
		}
		*to = kept
	}
	wantWorld(t, w, "")
	for _, name := range []string{"", "unit", "pc", "regs", "reg", "below", "ticket", "case", "value", "dst", "two", "chan", "out", "code"} {
		if met[name] == 0 {
			t.Errorf("%q is not met: %v", name, met)
		}
	}
}

// worldTurns each make one thing amiss with a whole world, by its name.
func worldTurns() map[string]func(w *impl.World) {
	return map[string]func(w *impl.World){
		"units":  func(w *impl.World) { w.Units = append(w.Units, namedUnit("bad", 6)) },
		"bodies": func(w *impl.World) { w.Bodies = append(w.Bodies, slices.Repeat([]impl.Body{{Ended: true}}, 7)...) },
		"frames": func(w *impl.World) { w.Bodies[1].Frames = append(w.Bodies[1].Frames, framesOf(12, 1)...) },
		"bare":   func(w *impl.World) { w.Bodies[0] = impl.Body{Dst: w.Bodies[0].Dst} },
		"unit":   func(w *impl.World) { w.Bodies[1].Frames[4].Unit = -1 },
		"pc":     func(w *impl.World) { w.Bodies[1].Frames[2].Pc = -1 },
		"regs":   func(w *impl.World) { w.Bodies[2].Frames[1].Regs = w.Bodies[2].Frames[1].Regs[:2] },
		"reg":    func(w *impl.World) { w.Bodies[2].Frames[3].Regs[0] = turn },
		"below":  func(w *impl.World) { w.Bodies[3].Frames[1].Dst = -2 },
		"ticket": func(w *impl.World) { w.Bodies[3].Ticket = 100001 },
		"case":   func(w *impl.World) { w.Bodies[2].Case = -1 },
		"value":  func(w *impl.World) { w.Bodies[1].Value = least - 1 },
		"dst":    func(w *impl.World) { w.Bodies[0].Dst = 250 },
		"two":    func(w *impl.World) { w.Bodies[1].Two = -2 },
		"chans":  func(w *impl.World) { w.Chans = append(w.Chans, make([]impl.Chan, 8)...) },
		"chan":   func(w *impl.World) { w.Chans[3].Cap = 0 },
		"out":    func(w *impl.World) { w.Out[2] = greatest + 1 },
		"code":   func(w *impl.World) { w.Code = least - 1 },
	}
}

// Two things that are amiss do not make one right.
func TestTwoFaultsOfAWorld(t *testing.T) {
	turns := worldTurns()
	if len(turns) != len(worldRules) {
		t.Errorf("there are %d turns for %d rules", len(turns), len(worldRules))
	}
	for one, turn := range turns {
		w := wholeWorld()
		turn(&w)
		wantWorld(t, w, one)
		for other, again := range turns {
			if other == one {
				continue
			}
			w := wholeWorld()
			turn(&w)
			again(&w)
			both := []string{one, other}
			slices.Sort(both)
			wantWorld(t, w, strings.Join(both, " "))
		}
	}
}

// checkNew holds what is told against the model, and tells whether there is a world.
func checkNew(t *testing.T, list []impl.Unit) bool {
	t.Helper()
	got, ok := impl.WorldNew(list)
	want, wantOk := wantNew(list)
	if ok != wantOk || !sameWorld(got, want) {
		t.Errorf("WorldNew(%s) = %s, %v, not %s, %v", clip(list), clip(got), ok, clip(want), wantOk)
	}
	if ok {
		wantNewIsOpen(t, got)
	}
	return ok
}

func wantNewIsOpen(t *testing.T, w impl.World) {
	t.Helper()
	wantWorld(t, w, "")
	if open := impl.Open(w); !slices.Equal(open, []int{0}) || impl.Stuck(w) || !impl.WorldOk(w) || w.Over {
		t.Errorf("of the new world %s open are %v, stuck is %v", clip(w), open, impl.Stuck(w))
	}
}

func wantNewAt(t *testing.T, list []impl.Unit, unit int) {
	t.Helper()
	got, ok := impl.WorldNew(list)
	if !checkNew(t, list) || !ok || !sameWorld(got, worldAt(list, unit)) {
		t.Errorf("WorldNew(%s) = %s, %v, not at unit %d", clip(list), clip(got), ok, unit)
	}
}

func wantNoWorld(t *testing.T, list []impl.Unit) {
	t.Helper()
	got, ok := impl.WorldNew(list)
	if checkNew(t, list) || ok || !sameWorld(got, impl.World{}) {
		t.Errorf("WorldNew(%s) = %s, %v", clip(list), clip(got), ok)
	}
}

func TestANewWorld(t *testing.T) {
	list := threeUnits()
	w, ok := impl.WorldNew(list)
	if !ok || !slices.EqualFunc(w.Units, threeUnits(), sameUnit) || len(w.Bodies) != 1 || len(w.Chans) != 0 || len(w.Out) != 0 || w.Over || w.Code != 0 {
		t.Fatalf("%v, %s", ok, clip(w))
	}
	b := w.Bodies[0]
	if len(b.Frames) != 1 || b.Ended || b.Waits || b.Ticket != 1 || b.Value != 0 || b.Case != 0 || b.Dst != -1 || b.Two != -1 {
		t.Fatalf("%s", clip(b))
	}
	f := b.Frames[0]
	if f.Unit != 1 || f.Pc != 0 || !slices.Equal(f.Regs, make([]int, 250)) || f.Dst != -1 {
		t.Errorf("%s", clip(f))
	}
	wantNewAt(t, list, 1)
}

func TestWhereMainStands(t *testing.T) {
	for _, count := range []int{1, 2, 3, 4, 79, 80} {
		for _, at := range []int{0, 1, count / 2, count - 2, count - 1} {
			if at < 0 || at >= count {
				continue
			}
			list := manyUnits(count)
			list[at] = impl.Unit{Name: "main", Regs: 3 + at, Code: []impl.Tac{{Op: impl.TcNum, D: 2 + at, N: at}, ret(2 + at)}}
			wantNewAt(t, list, at)
			list[at].Params = 1
			wantNoWorld(t, list)
		}
	}
}

func TestRegistersOfANewWorld(t *testing.T) {
	for _, regs := range []int{1, 2, 3, 6, 100, 249, 250} {
		wantNewAt(t, []impl.Unit{{Name: "main", Regs: regs, Code: []impl.Tac{ret(regs - 1)}}}, 0)
		wantNewAt(t, []impl.Unit{namedUnit("f", 4), {Name: "main", Regs: regs, Code: []impl.Tac{ret(regs - 1)}}}, 1)
	}
	wantNewAt(t, []impl.Unit{{Name: "main", Code: []impl.Tac{label(7), jump(7)}}}, 0)
	wantNoWorld(t, []impl.Unit{{Name: "main", Regs: 251, Code: []impl.Tac{ret(0)}}})
	wantNoWorld(t, []impl.Unit{{Name: "main", Regs: -1, Code: []impl.Tac{label(7), jump(7)}}})
	for _, count := range []int{1, 2, 899, 900} {
		wantNewAt(t, []impl.Unit{{Name: "main", Regs: 1, Code: slices.Repeat([]impl.Tac{ret(0)}, count)}}, 0)
	}
	wantNoWorld(t, []impl.Unit{{Name: "main", Regs: 1, Code: slices.Repeat([]impl.Tac{ret(0)}, 901)}})
	wantNoWorld(t, []impl.Unit{{Name: "main", Regs: 1}})
}

func TestUnitsWithoutMain(t *testing.T) {
	wantNoWorld(t, nil)
	wantNoWorld(t, []impl.Unit{})
	for _, name := range []string{"", "f", "Main", "MAIN", "mai", "ain", "mainx", "main ", " main", "main\x00", "man", "m"} {
		wantNoWorld(t, []impl.Unit{namedUnit(name, 0)})
		wantNoWorld(t, []impl.Unit{namedUnit("g", 0), namedUnit(name, 0), namedUnit("h", 0)})
		wantNewAt(t, []impl.Unit{namedUnit(name, 0), namedUnit("main", 0)}, 1)
	}
	for _, count := range []int{1, 5, 80, 81} {
		wantNoWorld(t, manyUnits(count))
	}
	wantNoWorld(t, make([]impl.Unit, 3))
}

func TestMainWithParams(t *testing.T) {
	for params := -1; params <= 5; params++ {
		list := []impl.Unit{namedUnit("f", 0), namedUnit("main", params), namedUnit("g", 2)}
		if params == 0 {
			wantNewAt(t, list, 1)
			continue
		}
		wantNoWorld(t, list)
		wantNoWorld(t, []impl.Unit{namedUnit("main", params)})
		// One with Params keeps another from being of its Name.
		wantNoWorld(t, append(list, namedUnit("main", 0)))
		wantNoWorld(t, append([]impl.Unit{namedUnit("main", 0)}, list...))
	}
	wantNoWorld(t, []impl.Unit{namedUnit("main", 0), namedUnit("main", 0)})
}

func TestNewWorldsOfUnitsThatAreNotRight(t *testing.T) {
	bad := []impl.Unit{
		{}, unit(0, 1), unit(0, 251, ret(0)), unit(2, 1, ret(0)), unit(0, 1, ret(1)), unit(0, 1, label(0)), unit(0, 1, jump(0)), namedUnit("main", 0), namedUnit("main", 2),
		namedUnit("bad", 5), namedUnit("bad", 0, call("nowhere")), namedUnit("bad", 0, call("main", 1)), namedUnit("bad", 1, begin("bad")), namedUnit("bad", 0, addr("Main")), namedUnit("bad", 0, label(1), label(1)),
	}
	for _, u := range bad {
		for _, list := range [][]impl.Unit{{u, namedUnit("main", 0)}, {namedUnit("main", 0), u}, {namedUnit("f", 0), namedUnit("main", 0), u, namedUnit("g", 4)}} {
			wantNoWorld(t, list)
		}
	}
	for count := 79; count <= 83; count++ {
		for _, at := range []int{0, 40, count - 1} {
			list := manyUnits(count)
			list[at].Name, list[at].Params = "main", 0
			if got := checkNew(t, list); got != (count <= 80) {
				t.Errorf("WorldNew of %d units is %v", count, got)
			}
		}
	}
}

func TestNewWorldsOfManyLists(t *testing.T) {
	met := map[bool]int{}
	for _, list := range listsOfUnits() {
		met[checkNew(t, list)]++
		list = slices.Clone(list)
		for i := range list {
			if list[i].Name == "main" {
				list[i].Params = 0
			}
		}
		met[checkNew(t, list)]++
	}
	d := newUnitDrawer(132)
	for range 1500 {
		list := d.units()
		met[checkNew(t, list)]++
		at := d.IntN(len(list))
		list[at] = d.turnUnit(list[at])
		met[checkNew(t, list)]++
	}
	if met[true] < 300 || met[false] < 300 {
		t.Errorf("met %v", met)
	}
}

// A new world is open: that of each program that is checked.
func TestNewWorldsOfPrograms(t *testing.T) {
	for _, src := range []string{
		"func main() { }", "func main() { return 0; }", "func main() { let c = make(0); send c, 1; }", "func main() { while 1 { } }",
		"func f(a, c chan) { send c, a; } func g() { return 7; } func main() { let c = make(2); go f(1, c); let x = 0; recv x, c; print x; return g(); }",
	} {
		units := impl.Lower(parsed(t, src), false)
		w, ok := impl.WorldNew(units)
		if !ok || !sameWorld(w, worldAt(units, len(units)-1)) {
			t.Errorf("%q: %v, %s", src, ok, clip(w))
		}
		wantNewIsOpen(t, w)
	}
	met := map[bool]int{}
	for _, list := range listsForLower() {
		for _, low := range []bool{false, true} {
			ok := checkNew(t, impl.Lower(list, low))
			if !low && ok != (impl.Check(list, low) == impl.CkDone) {
				t.Errorf("%.300q: %v", impl.Write(list), ok)
			}
			met[ok]++
		}
	}
	for _, low := range []bool{false, true} {
		d := &rightDrawer{drawer: newDrawer(133), low: low}
		for range 400 {
			list := d.program()
			ok := checkNew(t, impl.Lower(list, low))
			if !low && !ok {
				t.Errorf("%.300q has no new world", impl.Write(list))
			}
			met[ok]++
		}
	}
	if met[true] < 400 || met[false] < 100 {
		t.Errorf("met %v", met)
	}
}

// Programs one storey below need no `main`, and may have one with Params, which no world begins with.
func TestNewWorldsOfProgramsBelow(t *testing.T) {
	for src, ok := range map[string]bool{
		"func f() { halt 1; }":                   false,
		"func main(a) { halt a; }":               false,
		"func main() { halt 1; }":                true,
		"func main() { halt 1; } func f(a) { }":  true,
		"func f(main) { } func g() { main(1); }": false,
	} {
		list, _ := impl.Parse(src)
		if got := checkNew(t, impl.Lower(list, true)); got != ok {
			t.Errorf("%q: %v", src, got)
		}
	}
}

// All flags of up to six bodies, which are right, and which are not.
func TestWhichBodiesAreOpen(t *testing.T) {
	whole := smallWorld()
	for count := range mostBodies + 1 {
		for flags := range 1 << (2 * count) {
			w := whole
			w.Bodies = nil
			var open []int
			for id := range count {
				b := whole.Bodies[0]
				b.Ended, b.Waits = flags>>(2*id)&1 != 0, flags>>(2*id+1)&1 != 0
				w.Bodies = append(w.Bodies, b)
				if !b.Ended && !b.Waits {
					open = append(open, id)
				}
			}
			wantOpenAndStuck(t, w, open, count > 0 && open == nil)
			w.Over = true
			wantOpenAndStuck(t, w, nil, false)
			w.Over, w.Code = false, turn
			wantOpenAndStuck(t, w, open, false)
			w.Code, w.Units = 0, nil
			wantOpenAndStuck(t, w, open, false)
			w.Over = true
			wantOpenAndStuck(t, w, nil, false)
		}
	}
}

func wantOpenAndStuck(t *testing.T, w impl.World, open []int, stuck bool) {
	t.Helper()
	if got := impl.Open(w); !slices.Equal(got, open) {
		t.Errorf("Open(%s) = %v, not %v", clip(w), got, open)
	}
	if got := impl.Stuck(w); got != stuck {
		t.Errorf("Stuck(%s) = %v", clip(w), got)
	}
}

func TestOpenOfWorldsThatAreNotRight(t *testing.T) {
	wantOpenAndStuck(t, impl.World{}, nil, false)
	wantOpenAndStuck(t, impl.World{Bodies: make([]impl.Body, 3)}, []int{0, 1, 2}, false)
	wantOpenAndStuck(t, impl.World{Over: true, Bodies: make([]impl.Body, 3)}, nil, false)
	wantOpenAndStuck(t, impl.World{Bodies: []impl.Body{{Waits: true}, {}, {Ended: true}, {}, {Ended: true, Waits: true}, {}, {}, {Waits: true}}}, []int{1, 3, 5, 6}, false)
	for name, turn := range worldTurns() {
		w := wholeWorld()
		w.Bodies = slices.Concat(w.Bodies, w.Bodies[:2])
		turn(&w)
		if got := impl.Open(w); !slices.Equal(got, []int{0, 4}) || impl.Stuck(w) {
			t.Errorf("%s: open are %v, stuck is %v", name, got, impl.Stuck(w))
		}
		for i := range w.Bodies {
			w.Bodies[i].Waits = true
		}
		wantOpenAndStuck(t, w, nil, false)
	}
}

// What stands on channels, in Out and in Code does not open a body, nor keep a world from being stuck.
func TestWorldsThatAreStuck(t *testing.T) {
	for flags := 1; flags < 4; flags++ {
		for _, w := range []impl.World{wholeWorld(), smallWorld()} {
			for i := range w.Bodies {
				w.Bodies[i].Ended, w.Bodies[i].Waits = flags&1 != 0, flags&2 != 0
			}
			wantOpenAndStuck(t, w, nil, true)
			for i := range w.Bodies {
				w.Bodies[i].Ended, w.Bodies[i].Waits = false, false
				wantOpenAndStuck(t, w, []int{i}, false)
				w.Bodies[i].Ended, w.Bodies[i].Waits = flags&1 != 0, flags&2 != 0
			}
			w.Over = true
			wantOpenAndStuck(t, w, nil, false)
		}
	}
	w := smallWorld()
	w.Bodies = []impl.Body{{Ended: true}}
	wantOpenAndStuck(t, w, nil, true)
	w.Units = nil
	wantOpenAndStuck(t, w, nil, true)
	w.Bodies[0] = impl.Body{Waits: true}
	wantOpenAndStuck(t, w, nil, false)
}

type worldDrawer struct {
	*unitDrawer
	waits *waitDrawer
}

func newWorldDrawer(seed uint64) *worldDrawer {
	return &worldDrawer{unitDrawer: newUnitDrawer(seed), waits: newWaitDrawer(seed)}
}

func (d *worldDrawer) word() int {
	return []int{least, -1, 0, 1, 7, greatest, d.IntN(1000)}[d.IntN(7)]
}

func (d *worldDrawer) words(most int) []int { return d.wordsOf(d.IntN(most + 1)) }

func (d *worldDrawer) wordsOf(count int) []int {
	list := make([]int, count)
	for i := range list {
		list[i] = d.word()
	}
	return list
}

func (d *worldDrawer) target() int { return d.IntN(mostRegs+1) - 1 }

func (d *worldDrawer) step() int {
	return []int{0, 1, d.IntN(50), d.IntN(mostSteps), mostSteps}[d.IntN(5)]
}

func (d *worldDrawer) body(units []impl.Unit) impl.Body {
	b := impl.Body{Ended: d.IntN(4) == 0, Waits: d.IntN(2) == 0, Ticket: d.step(), Value: d.word(), Case: d.step(), Dst: d.target(), Two: d.target()}
	for range max(d.IntN(mostFrames+1), 1-flag(b.Ended)) {
		unit := d.IntN(len(units))
		b.Frames = append(b.Frames, impl.Frame{Unit: unit, Pc: d.IntN(len(units[unit].Code)), Regs: d.wordsOf(units[unit].Regs), Dst: d.target()})
	}
	return b
}

func (d *worldDrawer) channel() impl.Chan {
	c := impl.Chan{Cap: d.IntN(mostCap + 1), Closed: d.IntN(2) == 0}
	c.Buf = d.words(c.Cap)
	c.Takes = bodies(d.Perm(mostBodies)[:d.IntN(mostBodies)]...)
	c.Gives = bodies(d.Perm(mostBodies)[:d.IntN(mostBodies)]...)
	return c
}

// world draws one that is right.
func (d *worldDrawer) world() impl.World {
	w := impl.World{Units: d.units(), Out: d.words(8), Over: d.IntN(5) == 0, Code: d.word()}
	for range 1 + d.IntN(mostBodies) {
		w.Bodies = append(w.Bodies, d.body(w.Units))
	}
	for range d.IntN(mostChans + 1) {
		w.Chans = append(w.Chans, d.channel())
	}
	return w
}

// turn makes one thing another in a world, which may be amiss then.
func (d *worldDrawer) turn(w *impl.World) {
	n := []int{-2, -1, 0, 2, 249, 250, 100000, 100001, least - 1, greatest + 1, math.MinInt, math.MaxInt}[d.IntN(12)]
	b := &w.Bodies[d.IntN(len(w.Bodies))]
	frames := b.Frames
	if len(frames) == 0 {
		frames = make([]impl.Frame, 1)
	}
	f := &frames[d.IntN(len(frames))]
	switch d.IntN(18) {
	case 0:
		b.Ticket = n
	case 1:
		b.Value = n
	case 2:
		b.Case = n
	case 3:
		b.Dst = n
	case 4:
		b.Two = n
	case 5:
		b.Frames = nil
	case 6:
		b.Frames = append(b.Frames, make([]impl.Frame, d.IntN(9))...)
	case 7:
		f.Unit = n
	case 8:
		f.Pc = n
	case 9:
		f.Dst = n
	case 10:
		f.Regs = append(f.Regs, n)
	case 11:
		w.Out = append(w.Out, n)
	case 12:
		w.Code = n
	case 13:
		w.Chans = append(w.Chans, impl.Chan{Takes: d.waits.odd(3)})
	case 14:
		w.Bodies = append(w.Bodies, d.body(w.Units))
	case 15:
		at := d.IntN(len(w.Units))
		w.Units[at] = d.turnUnit(w.Units[at])
	case 16:
		f.Regs = f.Regs[:d.IntN(len(f.Regs)+1)]
	case 17:
		if len(f.Regs) > 0 {
			f.Regs[d.IntN(len(f.Regs))] = n
		}
	}
}

func TestDrawnWorlds(t *testing.T) {
	d := newWorldDrawer(134)
	met := map[string]int{}
	for range 1500 {
		w := d.world()
		wantWorld(t, w, "")
		met["stuck"] += flag(impl.Stuck(w))
		met["many open"] += flag(len(impl.Open(w)) > 1)
		for range 4 {
			turned := cloneWorld(w)
			for range 1 + d.IntN(2) {
				d.turn(&turned)
			}
			for _, name := range checkWorld(t, turned) {
				met[name]++
			}
		}
	}
	for name := range worldRules {
		if name == "chans" {
			continue
		}
		if met[name] < 20 {
			t.Errorf("%q is drawn %d times: %v", name, met[name], met)
		}
	}
	if met["stuck"] < 100 || met["many open"] < 100 {
		t.Errorf("met %v", met)
	}
}

func TestWorldsWithListsThatAreEmptyAndNil(t *testing.T) {
	someNumbers, someBodies, someFrames, someChans, someWaits, someUnits := []int{turn}, make([]impl.Body, 2), make([]impl.Frame, 2), []impl.Chan{{Cap: -1}}, bodies(7), make([]impl.Unit, 2)
	numbers := [][]int{nil, {}, make([]int, 0, 5), someNumbers[:0], someNumbers[1:]}
	for _, empty := range numbers {
		w := smallWorld()
		w.Out, w.Bodies[0].Frames[0].Regs = empty, empty
		w.Chans = []impl.Chan{{Buf: empty}}
		wantWorld(t, w, "regs")
		w.Units[0].Regs, w.Units[0].Code = 0, []impl.Tac{label(0), jump(0)}
		wantWorld(t, w, "")
		w.Units[0].Code[0].Args = empty
		wantWorld(t, w, "")
		wantNewAt(t, w.Units, 0)
	}
	for _, empty := range [][]impl.Body{nil, {}, make([]impl.Body, 0, 5), someBodies[:0], someBodies[2:]} {
		w := wholeWorld()
		w.Bodies = empty
		wantWorld(t, w, "bodies")
		wantOpenAndStuck(t, w, nil, false)
	}
	for _, empty := range [][]impl.Frame{nil, {}, make([]impl.Frame, 0, 5), someFrames[:0], someFrames[2:]} {
		for flags := range 4 {
			wantEachBody(t, amissIf(flags&1 == 0, "bare"), func(b *impl.Body) {
				b.Frames, b.Ended, b.Waits = empty, flags&1 != 0, flags&2 != 0
			})
		}
	}
	for _, empty := range [][]impl.Chan{nil, {}, make([]impl.Chan, 0, 5), someChans[:0], someChans[1:]} {
		w := wholeWorld()
		w.Chans = empty
		wantWorld(t, w, "")
	}
	for _, empty := range [][]impl.Wait{nil, {}, make([]impl.Wait, 0, 5), someWaits[:0], someWaits[1:]} {
		w := wholeWorld()
		w.Chans[1].Takes, w.Chans[0].Gives = empty, empty
		wantWorld(t, w, "")
	}
	for _, empty := range [][]impl.Unit{nil, {}, make([]impl.Unit, 0, 5), someUnits[:0], someUnits[2:]} {
		w := wholeWorld()
		w.Units = empty
		wantWorld(t, w, "unit")
		w.Bodies = []impl.Body{{Ended: true}}
		wantWorld(t, w, "")
		wantNoWorld(t, empty)
	}
	for _, empty := range [][]impl.Tac{nil, {}, make([]impl.Tac, 0, 5)} {
		w := smallWorld()
		w.Units[0].Code = empty
		wantWorld(t, w, "pc units")
		wantNoWorld(t, w.Units)
	}
}

func TestVeryLongWorlds(t *testing.T) {
	const far = 250000
	long := func(amiss string, turn func(w *impl.World)) {
		t.Helper()
		for _, w := range []impl.World{wholeWorld(), smallWorld()} {
			turn(&w)
			wantWorld(t, w, amiss)
		}
	}
	long("bodies", func(w *impl.World) { w.Bodies = slices.Repeat(w.Bodies, far) })
	long("bodies", func(w *impl.World) { w.Bodies = slices.Repeat([]impl.Body{{Ended: true}}, far) })
	long("bare bodies", func(w *impl.World) { w.Bodies = make([]impl.Body, far) })
	long("frames", func(w *impl.World) { w.Bodies[0].Frames = slices.Repeat(w.Bodies[0].Frames, far) })
	long("regs", func(w *impl.World) { w.Bodies[0].Frames[0].Regs = make([]int, far) })
	long("reg regs", func(w *impl.World) { w.Bodies[0].Frames[0].Regs = append(make([]int, far), turn) })
	long("", func(w *impl.World) { w.Out = make([]int, far) })
	long("out", func(w *impl.World) { w.Out = append(make([]int, far), turn) })
	long("chans", func(w *impl.World) { w.Chans = make([]impl.Chan, far) })
	long("chan", func(w *impl.World) { w.Chans = []impl.Chan{{Cap: 8, Buf: make([]int, far)}} })
	long("chan", func(w *impl.World) { w.Chans = []impl.Chan{{Takes: make([]impl.Wait, far)}} })
	long("units", func(w *impl.World) {
		w.Units[0].Code = append(w.Units[0].Code, slices.Repeat([]impl.Tac{ret(0)}, far)...)
	})
	long("units", func(w *impl.World) { w.Units[0].Code[0].Args = make([]int, far) })
	long("units", func(w *impl.World) {
		w.Units = append(w.Units, namedUnit(strings.Repeat("m", far), 0, addr(strings.Repeat("n", far))))
	})
	long("", func(w *impl.World) {
		w.Units = append(w.Units, namedUnit(strings.Repeat("m", far), 0, addr(strings.Repeat("m", far))))
	})
	wantNoWorld(t, []impl.Unit{{Name: "main", Regs: 1, Code: slices.Repeat([]impl.Tac{ret(0)}, far)}})
	wantNoWorld(t, []impl.Unit{{Name: "main", Regs: math.MaxInt, Code: []impl.Tac{ret(0)}}})
	wantNoWorld(t, []impl.Unit{namedUnit(strings.Repeat("main", far), 0)})
	wantNewAt(t, []impl.Unit{namedUnit(strings.Repeat("main", far), 0), namedUnit("main", 0)}, 1)
}

// The model would be long about so many units, so that what is told is held against what it must be.
func TestWorldsOfVeryManyUnits(t *testing.T) {
	many := manyUnits(250000)
	for _, list := range [][]impl.Unit{
		append(slices.Clone(many), namedUnit("main", 0)), append([]impl.Unit{namedUnit("main", 0)}, many...), make([]impl.Unit, 250000), slices.Repeat(many[:1], 250000),
	} {
		if w, ok := impl.WorldNew(list); ok || !sameWorld(w, impl.World{}) {
			t.Errorf("WorldNew(%.200s) = %s, %v", list[0].Name, clip(w), ok)
		}
		w := wholeWorld()
		w.Units = list
		w.Bodies[0].Ended = true
		if impl.WorldOk(w) || impl.Stuck(w) || len(impl.Open(w)) > 0 {
			t.Errorf("a world of %d units is right", len(list))
		}
	}
}

// The largest units that are right.
func TestTheLargestNewWorld(t *testing.T) {
	var list []impl.Unit
	code := append(slices.Repeat([]impl.Tac{choose(249, 248, 1, 1, 247, 0, 2, 246, 245, 2, 244, 243)}, 899), ret(249))
	for i := range 80 {
		list = append(list, impl.Unit{Name: "u" + impl.Digits(i), Params: 4, Regs: 250, Code: slices.Clone(code)})
	}
	list[79].Name, list[79].Params = "main", 0
	wantNewAt(t, list, 79)
}

// wholeOf is a copy of a world with all of its spare room, so that what is written there is seen.
func wholeOf(w impl.World) impl.World {
	out := w
	out.Units = slices.Clone(w.Units[:cap(w.Units)])
	for i, u := range out.Units {
		out.Units[i].Code = slices.Clone(u.Code[:cap(u.Code)])
		for k, x := range out.Units[i].Code {
			out.Units[i].Code[k].Args = slices.Clone(x.Args[:cap(x.Args)])
		}
	}
	out.Bodies = slices.Clone(w.Bodies[:cap(w.Bodies)])
	for i, b := range out.Bodies {
		out.Bodies[i].Frames = slices.Clone(b.Frames[:cap(b.Frames)])
		for k, f := range out.Bodies[i].Frames {
			out.Bodies[i].Frames[k].Regs = slices.Clone(f.Regs[:cap(f.Regs)])
		}
	}
	out.Chans = slices.Clone(w.Chans[:cap(w.Chans)])
	for i, c := range out.Chans {
		out.Chans[i].Buf = slices.Clone(c.Buf[:cap(c.Buf)])
		out.Chans[i].Takes = slices.Clone(c.Takes[:cap(c.Takes)])
		out.Chans[i].Gives = slices.Clone(c.Gives[:cap(c.Gives)])
	}
	out.Out = slices.Clone(w.Out[:cap(w.Out)])
	return out
}

// roomyWorld is the world with spare room behind each of its lists, in which right things lie.
func roomyWorld(w impl.World) impl.World {
	other := wholeWorld()
	w = cloneWorld(w)
	w.Units, _ = roomyUnits(w.Units)
	for i, b := range w.Bodies {
		for k, f := range b.Frames {
			b.Frames[k].Regs, _ = withRoom(f.Regs)
		}
		w.Bodies[i].Frames = append(b.Frames, framesOf(3, 1)...)[:len(b.Frames)]
	}
	w.Bodies = append(w.Bodies, other.Bodies...)[:len(w.Bodies)]
	for i, c := range w.Chans {
		w.Chans[i].Buf, _ = withRoom(c.Buf)
		w.Chans[i].Takes, _ = roomyWaits(c.Takes)
		w.Chans[i].Gives, _ = roomyWaits(c.Gives)
	}
	w.Chans = append(w.Chans, other.Chans...)[:len(w.Chans)]
	w.Out, _ = withRoom(w.Out)
	return w
}

// someWorlds are some that are right, and some of which something is amiss.
func someWorlds() []impl.World {
	d := newWorldDrawer(135)
	out := []impl.World{{}, wholeWorld(), smallWorld(), {Bodies: make([]impl.Body, 9)}}
	for _, turn := range worldTurns() {
		w := wholeWorld()
		turn(&w)
		out = append(out, w)
	}
	for range 150 {
		w := d.world()
		turned := cloneWorld(w)
		d.turn(&turned)
		out = append(out, w, turned)
	}
	return out
}

func TestWorldsAreNotWrittenInto(t *testing.T) {
	for _, w := range someWorlds() {
		given := roomyWorld(w)
		if !sameWorld(given, w) {
			t.Fatalf("%s is another with room behind its lists", clip(w))
		}
		kept := wholeOf(given)
		if impl.WorldOk(given) != impl.WorldOk(w) || impl.Stuck(given) != impl.Stuck(w) || !slices.Equal(impl.Open(given), impl.Open(w)) {
			t.Errorf("%s is answered otherwise with room behind its lists", clip(w))
		}
		one, ok := impl.WorldNew(given.Units)
		other, otherOk := impl.WorldNew(w.Units)
		if ok != otherOk || !sameWorld(one, other) {
			t.Errorf("the new world of %s is another with room behind its lists", clip(w.Units))
		}
		spoilWorld(one)
		spoil(impl.Open(given))
		if !sameWorld(wholeOf(given), kept) {
			t.Errorf("%s is written into", clip(w))
		}
	}
}

// spoilWorld writes over all lists of a world and the room behind them.
func spoilWorld(w impl.World) {
	for _, u := range w.Units[:cap(w.Units)] {
		for k, x := range u.Code[:cap(u.Code)] {
			spoil(x.Args)
			u.Code[:cap(u.Code)][k] = impl.Tac{Op: -99, S: "spoiled"}
		}
	}
	for i := range w.Units[:cap(w.Units)] {
		w.Units[:cap(w.Units)][i] = impl.Unit{Name: "spoiled"}
	}
	for _, b := range w.Bodies[:cap(w.Bodies)] {
		for k, f := range b.Frames[:cap(b.Frames)] {
			spoil(f.Regs)
			b.Frames[:cap(b.Frames)][k] = impl.Frame{Unit: -99}
		}
	}
	for i := range w.Bodies[:cap(w.Bodies)] {
		w.Bodies[:cap(w.Bodies)][i] = impl.Body{Ticket: -99}
	}
	for i, c := range w.Chans[:cap(w.Chans)] {
		spoil(c.Buf)
		spoilWaits(c.Takes)
		spoilWaits(c.Gives)
		w.Chans[:cap(w.Chans)][i] = impl.Chan{Cap: -99}
	}
	spoil(w.Out)
}

// piecesOf are where all lists of a world lie.
func piecesOf(w impl.World) []piece {
	out := append(listsOf(w.Units), pieceOf(w.Bodies), pieceOf(w.Chans), pieceOf(w.Out))
	for _, b := range w.Bodies {
		out = append(out, pieceOf(b.Frames))
		for _, f := range b.Frames {
			out = append(out, pieceOf(f.Regs))
		}
	}
	for _, c := range w.Chans {
		out = append(out, pieceOf(c.Buf), pieceOf(c.Takes), pieceOf(c.Gives))
	}
	return out
}

// What one answer holds is its own: no two of its lists share any memory, nor with another answer or with what was given, and its texts do not lie in what was given.
func TestEachNewWorldIsItsOwn(t *testing.T) {
	met := 0
	for _, list := range listsOfUnits() {
		list = cloneUnits(list)
		for i := range list {
			if list[i].Name == "main" {
				list[i].Params = 0
			}
			list[i].Name = strings.Clone(list[i].Name)
			for k := range list[i].Code {
				list[i].Code[k].S = strings.Clone(list[i].Code[k].S)
			}
		}
		one, ok := impl.WorldNew(list)
		other, _ := impl.WorldNew(list)
		if !ok {
			continue
		}
		met++
		if !apart(slices.Concat(piecesOf(one), piecesOf(other), listsOf(list))) {
			t.Errorf("lists of the new world of %s share memory", clip(list))
		}
		if !apart(slices.Concat(textsOfUnits(one.Units), textsOfUnits(list))) {
			t.Errorf("texts of the new world of %s lie in what was given", clip(list))
		}
		kept, keptList := cloneWorld(other), cloneUnits(list)
		spoilWorld(one)
		again, _ := impl.WorldNew(list)
		if !sameWorld(other, kept) || !sameWorld(again, kept) || !slices.EqualFunc(list, keptList, sameUnit) {
			t.Errorf("the new world of %s is not its own", clip(list))
		}
		spoilWorld(impl.World{Units: list})
		if !sameWorld(other, kept) {
			t.Errorf("the new world is turned with what it was made of: %s", clip(other))
		}
	}
	if met < 100 {
		t.Errorf("%d new worlds are met", met)
	}
}

func TestEachListOfOpenBodiesIsItsOwn(t *testing.T) {
	for _, w := range someWorlds() {
		one, other := impl.Open(w), impl.Open(w)
		if !apart(append(piecesOf(w), pieceOf(one), pieceOf(other))) {
			t.Errorf("what is open in %s shares memory", clip(w))
		}
		spoil(one)
		if want := wantOpen(w); !slices.Equal(other, want) || !slices.Equal(impl.Open(w), want) {
			t.Errorf("what is open in %s is not its own", clip(w))
		}
	}
}

func TestWorldsAnswerTheSameAgain(t *testing.T) {
	list := someWorlds()
	for i, w := range list {
		other := list[(i+1)%len(list)]
		ok, open, stuck := impl.WorldOk(w), impl.Open(w), impl.Stuck(w)
		begun, has := impl.WorldNew(w.Units)
		impl.WorldOk(other)
		impl.Open(other)
		impl.Stuck(other)
		impl.WorldNew(other.Units)
		again, hasAgain := impl.WorldNew(w.Units)
		if impl.WorldOk(w) != ok || !slices.Equal(impl.Open(w), open) || impl.Stuck(w) != stuck || has != hasAgain || !sameWorld(begun, again) {
			t.Errorf("%s is not answered the same again", clip(w))
		}
	}
}

func TestWorldsSideBySide(t *testing.T) {
	list := someWorlds()
	var group sync.WaitGroup
	wrong := make([]int, 8)
	for worker := range wrong {
		group.Go(func() {
			for _, w := range list {
				begun, ok := impl.WorldNew(w.Units)
				want, wantOk := wantNew(w.Units)
				wrong[worker] += flag(ok != wantOk || !sameWorld(begun, want))
				wrong[worker] += flag(impl.WorldOk(w) != (len(worldFaults(w)) == 0))
				wrong[worker] += flag(!slices.Equal(impl.Open(w), wantOpen(w)))
				wrong[worker] += flag(impl.Stuck(w) != wantStuck(w))
			}
		})
	}
	group.Wait()
	if !slices.Equal(wrong, make([]int, 8)) {
		t.Errorf("answers side by side are others: %v", wrong)
	}
}
