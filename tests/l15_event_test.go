package tests

import (
	"math"
	"slices"
	"strings"
	"sync"
	"testing"

	"loop.example/g00286/impl"
)

// checkStep holds what is told against the model, and asks what holds of each answer.
func checkStep(t *testing.T, w impl.World, id int) (impl.World, int) {
	t.Helper()
	kept := cloneWorld(w)
	got, kind := impl.Step(w, id)
	want, wantKind := wantStep(kept, id)
	if kind != wantKind || !sameWorld(got, want) {
		t.Errorf("Step(%s, %d) is of kind %d, not %d:\n%s", clip(w), id, kind, wantKind, unlikeWorlds(got, want))
	}
	if !sameWorld(w, kept) {
		t.Errorf("Step(%s, %d) writes into what it was given", clip(kept), id)
	}
	switch {
	case !impl.WorldOk(kept):
		if kind != impl.KdNone || !sameWorld(got, impl.World{}) {
			t.Errorf("Step(%s, %d) = %s, %d, of what is not right", clip(w), id, clip(got), kind)
		}
	case kind == impl.KdNone:
		if !sameWorld(got, kept) {
			t.Errorf("Step(%s, %d) does nothing, and turns\n%s", clip(w), id, unlikeWorlds(got, kept))
		}
	default:
		wantLittleTurned(t, kept, got, id, kind)
	}
	return got, kind
}

// unlikeWorlds are the parts in which two worlds differ.
func unlikeWorlds(a, b impl.World) string {
	var out []string
	differ := func(name string, same bool, x, y any) {
		if !same {
			out = append(out, name+": "+clip(x)+", not "+clip(y))
		}
	}
	differ("units", slices.EqualFunc(a.Units, b.Units, sameUnit), a.Units, b.Units)
	differ("how many bodies", len(a.Bodies) == len(b.Bodies), len(a.Bodies), len(b.Bodies))
	for id := range min(len(a.Bodies), len(b.Bodies)) {
		differ("body "+impl.Digits(id), sameBody(a.Bodies[id], b.Bodies[id]), a.Bodies[id], b.Bodies[id])
	}
	differ("channels", slices.EqualFunc(a.Chans, b.Chans, sameChan), a.Chans, b.Chans)
	differ("out", slices.Equal(a.Out, b.Out), a.Out, b.Out)
	differ("over", a.Over == b.Over && a.Code == b.Code, [2]any{a.Over, a.Code}, [2]any{b.Over, b.Code})
	return strings.Join(out, "\n")
}

// wantLittleTurned is what holds of each step that does something, whatever it is.
func wantLittleTurned(t *testing.T, was, now impl.World, id, kind int) {
	t.Helper()
	more := map[int][3]int{impl.KdPrint: {1, 0, 0}, impl.KdGo: {0, 1, 0}, impl.KdMake: {0, 0, 1}}[kind]
	if now.Over {
		more[1], more[2] = 0, 0
	}
	if !slices.EqualFunc(was.Units, now.Units, sameUnit) || !slices.Equal(was.Out, now.Out[:min(len(was.Out), len(now.Out))]) ||
		len(now.Out) != len(was.Out)+more[0] || len(now.Bodies) != len(was.Bodies)+more[1] || len(now.Chans) != len(was.Chans)+more[2] {
		t.Errorf("a step of kind %d of %s turns\n%s", kind, clip(was), unlikeWorlds(now, was))
		return
	}
	if !now.Over && now.Code != was.Code || was.Over {
		t.Errorf("a step of kind %d of %s: Over is %v, Code is %d", kind, clip(was), now.Over, now.Code)
	}
	for other := range was.Bodies {
		a, b := was.Bodies[other], now.Bodies[other]
		if other == id || sameBody(a, b) {
			continue
		}
		// Another body is turned only where it is woken, and of its frames the last one at most.
		if now.Over || b.Waits || b.Ended != a.Ended || b.Ticket != a.Ticket+1 || b.Dst != a.Dst || b.Two != a.Two || len(a.Frames) != len(b.Frames) ||
			len(a.Frames) > 0 && !slices.EqualFunc(a.Frames[:len(a.Frames)-1], b.Frames[:len(a.Frames)-1], sameFrame) {
			t.Errorf("a step of kind %d of body %d of %s turns body %d: %s, not %s", kind, id, clip(was), other, clip(b), clip(a))
		}
	}
	if !impl.WorldOk(now) && !slices.ContainsFunc(now.Bodies, func(b impl.Body) bool { return b.Ticket > mostSteps || b.Case > mostSteps }) {
		t.Errorf("a step of kind %d of %s is not right: %v", kind, clip(was), worldFaults(now))
	}
}

// checkSteps is Steps as Step by Step, and as the model has it.
func checkSteps(t *testing.T, w impl.World, order ...int) (impl.World, []int) {
	t.Helper()
	kept, keptOrder := cloneWorld(w), slices.Clone(order)
	got, kinds := impl.Steps(w, order)
	if !sameWorld(w, kept) || !slices.Equal(order, keptOrder) {
		t.Errorf("Steps(%s, %s) writes into what it was given", clip(kept), clip(keptOrder))
	}
	var want []int
	for _, id := range order {
		next, kind := checkStep(t, kept, id)
		kept, want = next, append(want, kind)
	}
	if !slices.Equal(kinds, want) || !sameWorld(got, kept) {
		t.Errorf("Steps(%s, %s) = %s, not %s:\n%s", clip(w), clip(order), clip(kinds), clip(want), unlikeWorlds(got, kept))
	}
	return got, kinds
}

func topOf(w *impl.World, id int) *impl.Frame {
	frames := w.Bodies[id].Frames
	return &frames[len(frames)-1]
}

// wantActs is of a body that does something of that kind, behind which the world is what turn makes of it, and the body at the next place, unless it has come to its end.
func wantActs(t *testing.T, w impl.World, id, kind int, turn func(w *impl.World)) impl.World {
	t.Helper()
	want := cloneWorld(w)
	if kind != impl.KdEnd && kind != impl.KdExit {
		topOf(&want, id).Pc++
	}
	turn(&want)
	got, gotKind := checkStep(t, w, id)
	if gotKind != kind || !sameWorld(got, want) {
		t.Errorf("Step(%s, %d) is of kind %d, not %d:\n%s", clip(w), id, gotKind, kind, unlikeWorlds(got, want))
	}
	if one, kinds := impl.Steps(w, []int{id}); !sameWorld(one, want) || !slices.Equal(kinds, []int{kind}) {
		t.Errorf("Steps(%s, [%d]) is of kinds %v, not %d:\n%s", clip(w), id, kinds, kind, unlikeWorlds(one, want))
	}
	return got
}

func wantOverWith(t *testing.T, w impl.World, id, kind, code int) {
	t.Helper()
	wantLast(t, w, id, kind, func(w *impl.World) { w.Over, w.Code = true, code })
}

// wantOverByCase is of a body 0 at a select whose case of that number ends the world: D is that number, and all else as with other places that end it.
func wantOverByCase(t *testing.T, w impl.World, code, number int) {
	t.Helper()
	top := topOf(&w, 0)
	d := w.Units[top.Unit].Code[top.Pc].D
	wantLast(t, w, 0, impl.KdSelect, func(w *impl.World) {
		w.Over, w.Code = true, code
		set(w, 0, d, number)
	})
}

// wantLast is of what is done last in a world.
func wantLast(t *testing.T, w impl.World, id, kind int, turn func(w *impl.World)) {
	t.Helper()
	got := wantActs(t, w, id, kind, turn)
	for other := range got.Bodies {
		wantIdle(t, got, other)
	}
}

// wantIdle is of a body that does nothing, in a world that is right.
func wantIdle(t *testing.T, w impl.World, id int) {
	t.Helper()
	got, kind := checkStep(t, w, id)
	if kind != impl.KdNone || !sameWorld(got, w) {
		t.Errorf("Step(%s, %d) is of kind %d:\n%s", clip(w), id, kind, unlikeWorlds(got, w))
	}
}

func gives(a, b int) impl.Tac { return place(impl.TcSend, 0, a, b) }

func takes(d, a int) impl.Tac { return place(impl.TcRecv, d, a, 0) }

func shuts(a int) impl.Tac { return place(impl.TcClose, 0, a, 0) }

func makes(d, a int) impl.Tac { return place(impl.TcMake, d, a, 0) }

// talkRegs are registers of which 1 to 8 are the numbers of channels, 9 to 11 are values, and 0 is neither.
func talkRegs() []int { return []int{0, 1, 2, 3, 4, 5, 6, 7, 8, 70, 71, -72} }

// parley is a world with these channels: of body 0, which is at that place of a unit of twelve registers, and of five others that wait in the upper one of two frames, which has four registers. The Ticket of body 1 is 6, that of body 5 is 10.
func parley(x impl.Tac, chans ...impl.Chan) impl.World {
	w := aloneIn(beside(x, show(0), ret(0)), frame(1, 0, -1, talkRegs()...))
	w.Bodies[0].Ticket = 5
	for id := 1; id < mostBodies; id++ {
		frames := []impl.Frame{frame(1, 2, -1, ramp(12)...), frame(0, 0, 3, 10*id, 10*id+1, 10*id+2, 10*id+3)}
		w.Bodies = append(w.Bodies, impl.Body{Frames: frames, Waits: true, Ticket: 5 + id, Value: -id, Case: 40 + id, Dst: -1, Two: -1})
	}
	w.Chans = chans
	w.Out = []int{8, -9}
	return cloneWorld(w)
}

// still is a wait of one of the bodies of a parley, with its own Ticket; gone is one of an earlier one.
func still(body, value, which int) impl.Wait { return wt(body, 5+body, value, which) }

func gone(body, value, which int) impl.Wait { return wt(body, 4+body, value, which) }

// given is what becomes of a body of a parley that is given something, or gives.
func given(w *impl.World, body, value, which int) {
	b := &w.Bodies[body]
	b.Waits, b.Ticket, b.Value, b.Case = false, b.Ticket+1, value, which
}

// set puts a word into a register of the last frame.
func set(w *impl.World, body, register, value int) { topOf(w, body).Regs[register] = value }

func TestKindConstants(t *testing.T) {
	got := []int{impl.KdNone, impl.KdPrint, impl.KdGo, impl.KdMake, impl.KdSend, impl.KdRecv, impl.KdClose, impl.KdSelect, impl.KdEnd, impl.KdExit, impl.KdStuck}
	for i, kind := range got {
		if i != kind {
			t.Errorf("kind %d is %d", i, kind)
		}
	}
}

// worldOf is the new world of a program.
func worldOf(t *testing.T, src string) impl.World {
	t.Helper()
	w, ok := impl.WorldNew(impl.Lower(parsed(t, src), false))
	if !ok {
		t.Fatalf("there is no world of %q", src)
	}
	return w
}

// wantRun is of a program whose bodies go on in that order: the kinds, what is printed, and the Code with which it is over (-1: it is not).
func wantRun(t *testing.T, src string, order, kinds, out []int, code int) impl.World {
	t.Helper()
	w, got := checkSteps(t, worldOf(t, src), order...)
	if !slices.Equal(got, kinds) || !slices.Equal(w.Out, out) || w.Over != (code >= 0) || w.Over && w.Code != code {
		t.Errorf("%q by %v: kinds %v, not %v; out %v, not %v; over %v with %d, not %d", src, order, got, kinds, w.Out, out, w.Over, w.Code, code)
	}
	return w
}

func TestProgramsStepByStep(t *testing.T) {
	const pair = "func f(c chan) { send c, 7; send c, 8; } func main() { let c = make(0); let x = 0; go f(c); recv x, c; print x; recv x, c; print x; }"
	// Who gives comes first, and then who takes.
	w := wantRun(t, pair, []int{0, 0, 1, 1, 0, 0, 1, 0, 0, 1, 0}, []int{3, 2, 4, 0, 5, 1, 4, 5, 1, 8, 9}, []int{7, 8}, 0)
	if !w.Bodies[1].Ended || w.Bodies[0].Ended || len(w.Chans) != 1 {
		t.Errorf("%s", clip(w))
	}
	// Who takes comes first.
	w = wantRun(t, pair, []int{0, 0, 0, 0, 1, 0, 0, 0, 1, 0}, []int{3, 2, 5, 0, 4, 1, 5, 0, 4, 1}, []int{7, 8}, -1)
	if !slices.Equal(impl.Open(w), []int{0, 1}) {
		t.Errorf("open are %v", impl.Open(w))
	}
	// With room who gives does not wait.
	room := strings.Replace(pair, "make(0)", "make(2)", 1)
	wantRun(t, room, []int{0, 0, 1, 1, 1, 1, 0, 0, 0, 0, 0, 0}, []int{3, 2, 4, 4, 8, 0, 5, 1, 5, 1, 9, 0}, []int{7, 8}, 0)
	// Nobody gives: it is stuck.
	w = wantRun(t, "func main() { let c = make(3); let x = 0; recv x, c; print x; }", []int{0, 0, 0, 0}, []int{3, 5, 0, 0}, nil, -1)
	if !impl.Stuck(w) {
		t.Error("it is not stuck")
	}
	// A loop that is closed from without.
	const drain = "func f(c chan, d chan) { let x = 1; while x { recv x, c; print x; } send d, 5; } func main() { let c = make(1); let d = make(0); let x = 0; go f(c, d); send c, 4; send c, 3; close c; recv x, d; return 0; }"
	wantRun(t, drain, []int{0, 0, 0, 0, 1, 1, 0, 0, 1, 1, 0, 1, 1, 1, 1, 0}, []int{3, 3, 2, 4, 5, 1, 4, 6, 5, 1, 5, 5, 1, 4, 8, 9}, []int{4, 3, 0}, 0)
	// A select by which one goes the way that can be gone.
	const pick = "func f(c chan, v) { send c, v; } func main() { let c = make(0); let d = make(0); let x = 0; go f(d, 6); select { case recv x, c { print 100; } case recv x, d { print x; } default { print 200; } } return 0; }"
	wantRun(t, pick, []int{0, 0, 0, 0, 0, 0}, []int{3, 3, 2, 7, 1, 9}, []int{200}, 0)
	wantRun(t, pick, []int{0, 0, 0, 1, 0, 0, 0}, []int{3, 3, 2, 4, 7, 1, 9}, []int{6}, 0)
	// One that waits is woken by the other channel, and its wait at the first one is no more.
	const wake = "func f(c chan, v) { send c, v; print v; } func main() { let c = make(0); let d = make(0); let x = 0; go f(d, 6); go f(c, 9); select { case recv x, c { print 100; } case recv x, d { print x + 1; } } recv x, c; print x; return 0; }"
	wantRun(t, wake, []int{0, 0, 0, 0, 0, 1, 2, 2, 0, 1, 0, 2, 0, 1, 2, 0}, []int{3, 3, 2, 2, 7, 4, 4, 0, 1, 1, 5, 1, 1, 8, 8, 9}, []int{7, 6, 9, 9}, 0)
}

// Each way in which a world is over, by a program.
func TestProgramsThatAreOver(t *testing.T) {
	ahead := func(count, first, last int) []int {
		return append(slices.Repeat([]int{first}, count), last)
	}
	for _, c := range []struct {
		src   string
		steps int
		kinds []int
		code  int
	}{
		{"func main() { }", 1, []int{9}, 0},
		{"func main() { return 5; }", 1, []int{9}, 0},
		{"func main() { let c = make(1); close c; send c, 1; }", 3, []int{3, 6, 4}, 2},
		{"func main() { let c = make(1); close c; select { case send c, 1 { } default { } } }", 3, []int{3, 6, 7}, 2},
		{"func main() { let c = make(1); close c; close c; }", 3, []int{3, 6, 6}, 3},
		{"func main() { let c = make(0 - 1); }", 1, []int{3}, 4},
		{"func main() { let c = make(9); }", 1, []int{3}, 4},
		{"func f() { } func main() { while 1 { go f(); } }", 6, ahead(5, 2, 2), 5},
		{"func main() { let c = make(8); while 1 { c = make(0); } }", 9, ahead(8, 3, 3), 6},
		{"func main() { let x = 1; if 0 { let c = make(1); } recv x, c; }", 1, []int{5}, 7},
		{"func main() { if 0 { let c = make(1); } send c, 1; }", 1, []int{4}, 7},
		{"func main() { if 0 { let c = make(1); } close c; }", 1, []int{6}, 7},
		{"func main() { if 0 { let c = make(1); } select { case send c, 1 { } default { } } }", 1, []int{7}, 7},
	} {
		w := wantRun(t, c.src, make([]int, c.steps), c.kinds, nil, c.code)
		wantRun(t, c.src, make([]int, c.steps+3), append(slices.Clone(c.kinds), 0, 0, 0), nil, c.code)
		for id := range w.Bodies {
			wantIdle(t, w, id)
		}
	}
	// Another body ends the world, too, and what waits goes on waiting.
	w := wantRun(t, "func f(c chan) { close c; close c; } func main() { let c = make(0); let d = make(0); go f(d); send c, 1; }", []int{0, 0, 0, 0, 1, 1, 1}, []int{3, 3, 2, 4, 6, 6, 0}, nil, 3)
	if !w.Bodies[0].Waits {
		t.Error(clip(w))
	}
	// To close where one waits to give.
	wantRun(t, "func f(c chan) { send c, 1; } func main() { let c = make(0); go f(c); close c; }", []int{0, 0, 1, 0, 0}, []int{3, 2, 4, 6, 0}, nil, 3)
}

func TestStepOfWorldsThatAreNotRight(t *testing.T) {
	wantZero := func(w impl.World) {
		t.Helper()
		for id := -1; id <= len(w.Bodies); id++ {
			if got, kind := checkStep(t, w, id); kind != impl.KdNone || !sameWorld(got, impl.World{}) {
				t.Errorf("Step(%s, %d) = %s, %d", clip(w), id, clip(got), kind)
			}
		}
		if got, kinds := checkSteps(t, w, 0, 1, -1); !sameWorld(got, impl.World{}) || !slices.Equal(kinds, []int{0, 0, 0}) {
			t.Errorf("Steps(%s) = %s, %v", clip(w), clip(got), kinds)
		}
	}
	for name, turn := range worldTurns() {
		w := wholeWorld()
		turn(&w)
		if faults := worldFaults(w); !slices.Equal(faults, []string{name}) {
			t.Fatalf("%s: %v", name, faults)
		}
		wantZero(w)
		w.Over = true
		wantZero(w)
	}
	for _, w := range []impl.World{{}, {Bodies: make([]impl.Body, 1)}, {Bodies: make([]impl.Body, 3), Units: threeUnits()}, {Units: threeUnits()}, {Over: true, Code: 5}} {
		wantZero(w)
	}
}

func TestStepOfEachNumberOfAWorld(t *testing.T) {
	w := wholeWorld()
	met := map[int]int{}
	for i, to := range numbersOf(&w) {
		kept := *to
		for _, n := range []int{math.MinInt, least - 1, least, -2, -1, 0, 1, 2, 3, 6, 7, 249, 250, 100000, 100001, 1 << 32, greatest, greatest + 1, math.MaxInt} {
			*to = n
			_, kind := checkStep(t, w, i%5-1)
			met[kind]++
			_, kind = checkStep(t, w, 0)
			met[kind]++
		}
		*to = kept
	}
	if met[impl.KdExit] < 100 || met[impl.KdNone] < 100 {
		t.Errorf("met %v", met)
	}
}

func TestStepOfBodiesThatAreNotOpen(t *testing.T) {
	for flags := range 8 {
		w := aloneAt([]int{3}, number(0, 4), show(0), ret(0))
		w.Bodies[0].Ended, w.Bodies[0].Waits, w.Over = flags&1 != 0, flags&2 != 0, flags&4 != 0
		w.Code = 6
		if flags > 0 {
			wantIdle(t, w, 0)
			continue
		}
		wantActs(t, w, 0, impl.KdPrint, func(w *impl.World) {
			*topOf(w, 0) = frame(0, 2, -1, 4)
			w.Out = []int{4}
		})
	}
	// All flags of four bodies: whether one does something is its own.
	for flags := range 1 << 8 {
		w := aloneAt([]int{3}, number(0, 4), show(0), ret(0))
		w.Bodies = slices.Repeat(w.Bodies, 4)
		w = cloneWorld(w)
		for id := range w.Bodies {
			w.Bodies[id].Ended, w.Bodies[id].Waits = flags>>(2*id)&1 != 0, flags>>(2*id+1)&1 != 0
		}
		for id, b := range w.Bodies {
			if b.Ended || b.Waits {
				wantIdle(t, w, id)
			} else if _, kind := checkStep(t, w, id); kind != impl.KdPrint {
				t.Errorf("body %d of %s: kind %d", id, clip(w), kind)
			}
		}
	}
	w := smallWorld()
	w.Bodies[0] = impl.Body{Ended: true}
	wantIdle(t, w, 0)
}

func TestStepOfBodiesThatAWorldHasNot(t *testing.T) {
	for count := 1; count <= mostBodies; count++ {
		w := aloneAt([]int{3}, show(0), ret(0))
		w.Bodies = slices.Repeat(w.Bodies, count)
		w = cloneWorld(w)
		for _, id := range []int{math.MinInt, least, -6, -2, -1, count, count + 1, 6, 7, 256, 1 << 16, 1 << 32, 1<<32 + count - 1, -(1 << 32), greatest, math.MaxInt} {
			if id < 0 || id >= count {
				wantIdle(t, w, id)
			}
		}
		wantActs(t, w, count-1, impl.KdPrint, func(w *impl.World) { w.Out = []int{3} })
	}
}

func TestStepWhereNothingIsAhead(t *testing.T) {
	regs := twelveRegs()
	for _, x := range lowPlaces() {
		for _, w := range amongBodies(aloneIn(beside(number(2, 70), x, show(0), ret(0)), frame(1, 0, -1, regs...))) {
			for id := range w.Bodies {
				wantIdle(t, w, id)
			}
		}
	}
	for _, src := range []string{
		"func main() { while 1 { } }", "func main() { let x = 1; while x { x = x + 1; } print x; }", "func f() { while 1 { } } func main() { f(); print 1; }",
		"func f(a) { return a; } func main() { while 1 { f(1); } }",
	} {
		wantIdle(t, worldOf(t, src), 0)
	}
	for n := range 20 {
		w := aloneIn(countDown(show(0)), frame(0, 0, -1, n, 0, 0, 0))
		if _, kind := checkStep(t, w, 0); kind != flag(n < mostFrames)*impl.KdPrint {
			t.Errorf("with %d calls the kind is %d", n, kind)
		}
	}
	for _, end := range append(seenPlaces(), ret(0)) {
		for _, count := range []int{3998, 3999, 4000, 4001} {
			w := aloneIn(paddedUnits(count, end), frame(1, 0, -1, twelveRegs()...))
			if _, kind := checkStep(t, w, 0); (kind != impl.KdNone) != (count < 4000) {
				t.Errorf("%+v with %d places ahead: kind %d", end, count, kind)
			}
		}
	}
}

// kindOf is the kind of a place that is done by a body.
func kindOf(op, id int) int {
	if op == impl.TcRet && id > 0 {
		return impl.KdEnd
	}
	return map[int]int{
		impl.TcPrint: impl.KdPrint, impl.TcGo: impl.KdGo, impl.TcMake: impl.KdMake, impl.TcSend: impl.KdSend, impl.TcRecv: impl.KdRecv,
		impl.TcClose: impl.KdClose, impl.TcSelect: impl.KdSelect, impl.TcRet: impl.KdExit,
	}[op]
}

// What nobody sees ahead of a place is done, and what stands behind it is not; Pc is the next place, but of TcRet, however it ends.
func TestEachKindAndWhereItsBodyIsThen(t *testing.T) {
	met := map[int]int{}
	for _, x := range append(seenPlaces(), ret(0), ret(7)) {
		code := []impl.Tac{number(2, 70), number(3, 80), x, number(4, 90), x, ret(0)}
		for pc, at := range []int{2, 2, 2, 4, 4} {
			for id, w := range amongBodies(aloneIn(beside(code...), frame(1, pc, -1, twelveRegs()...))) {
				ahead, _, _ := impl.Ahead(w, id)
				got, kind := checkStep(t, w, id)
				if want := kindOf(x.Op, id); kind != want {
					t.Errorf("%+v of body %d is of kind %d, not %d", x, id, kind, want)
				}
				if kind == impl.KdNone || len(got.Bodies) < len(w.Bodies) {
					continue
				}
				met[kind]++
				f, was := topOf(&got, id), topOf(&ahead, id)
				if f.Pc != at+flag(x.Op != impl.TcRet) || was.Pc != at || len(got.Bodies[id].Frames) != 1 {
					t.Errorf("behind %+v from place %d on the body is at %d", x, pc, f.Pc)
				}
				for r := range f.Regs {
					if f.Regs[r] != was.Regs[r] && !slices.Contains(impl.Sets(x), r) {
						t.Errorf("behind %+v register %d is %d, not %d", x, r, f.Regs[r], was.Regs[r])
					}
				}
			}
		}
	}
	for kind := impl.KdPrint; kind <= impl.KdExit; kind++ {
		if met[kind] < 5 {
			t.Errorf("kind %d is met %d times", kind, met[kind])
		}
	}
}

// It is the last frame that does it, and those below are as they were.
func TestEachKindInFramesAbove(t *testing.T) {
	for _, x := range seenPlaces() {
		for count := 1; count <= mostFrames; count++ {
			var frames []impl.Frame
			for i := range count {
				frames = append(frames, frame(1, i%3, i-1, put(twelveRegs(), 5, i)...))
			}
			frames[count-1].Pc = 1
			w := cloneWorld(amongBodies(aloneIn(beside(number(0, 6), number(1, 7), x, ret(0)), frames...))[0])
			got, kind := checkStep(t, w, 0)
			if kind != kindOf(x.Op, 0) || len(got.Bodies[0].Frames) != count || topOf(&got, 0).Pc != 3 || !slices.EqualFunc(got.Bodies[0].Frames[:count-1], frames[:count-1], sameFrame) {
				t.Errorf("%+v in frame %d: kind %d, %s", x, count, kind, clip(got.Bodies[0]))
			}
		}
	}
	// A TcRet above ends nobody: it gives back, and what is below goes on.
	w := aloneIn(beside(show(1), ret(0)), frame(1, 0, -1, talkRegs()...), frame(0, 0, 1, 4, 5, 6, 7))
	wantActs(t, w, 0, impl.KdPrint, func(w *impl.World) {
		w.Bodies[0].Frames = []impl.Frame{frame(1, 1, -1, put(talkRegs(), 1, 6)...)}
		w.Out = []int{6}
	})
}

func TestPrintingBehindOut(t *testing.T) {
	for _, value := range []int{least, least + 1, -1, 0, 1, 7, greatest} {
		for r := range 3 {
			for _, out := range [][]int{nil, {}, {5}, {5, 5, -6}, ramp(5000)} {
				w := aloneAt(put([]int{61, 62, 63}, r, value), show(r), ret(0))
				w.Out = out
				wantActs(t, w, 0, impl.KdPrint, func(w *impl.World) { w.Out = append(w.Out, value) })
			}
		}
	}
	w := aloneAt([]int{4, 5, 6}, show(2), show(0), show(1), show(1), ret(0))
	if got, kinds := checkSteps(t, w, 0, 0, 0, 0, 0, 0); !slices.Equal(got.Out, []int{6, 4, 5, 5}) || !slices.Equal(kinds, []int{1, 1, 1, 1, 9, 0}) {
		t.Errorf("%v, %v", got.Out, kinds)
	}
}

// newcomer is a body that has just begun.
func newcomer(unit int, regs ...int) impl.Body {
	return impl.Body{Frames: []impl.Frame{frame(unit, 0, -1, regs...)}, Ticket: 1, Dst: -1, Two: -1}
}

func TestBeginning(t *testing.T) {
	lists := [][]int{{}, {3}, {11}, {4, 8}, {8, 4}, {7, 7}, {1, 2, 3}, {3, 2, 1}, {11, 10, 9, 8}, {9, 9, 9, 9}}
	for _, args := range lists {
		for _, more := range []int{0, 1, 2, 7, 250 - len(args)} {
			count := len(args) + more
			if count == 0 {
				continue
			}
			want := make([]int, count)
			for i, r := range args {
				want[i] = talkRegs()[r]
			}
			w := parley(begin("g", args...))
			w.Units = append(w.Units, impl.Unit{Name: "g", Params: len(args), Regs: count, Code: []impl.Tac{show(0), ret(0)}})
			full := cloneWorld(w)
			wantOverWith(t, full, 0, impl.KdGo, 5)
			for bodies := 1; bodies < mostBodies; bodies++ {
				w.Bodies = full.Bodies[:bodies:bodies]
				got := wantActs(t, w, 0, impl.KdGo, func(w *impl.World) { w.Bodies = append(w.Bodies, newcomer(2, want...)) })
				if open := impl.Open(got); !slices.Equal(open, []int{0, bodies}) {
					t.Errorf("open are %v", open)
				}
			}
		}
	}
	// Which unit it is, itself too, and one without registers.
	for at, name := range []string{"f", "main", "g", ""} {
		w := parley(begin(name))
		w.Bodies = w.Bodies[:2]
		w.Units = append(w.Units, impl.Unit{Name: "g", Regs: 0, Code: []impl.Tac{label(0), jump(0)}}, impl.Unit{Name: "", Regs: 3, Code: []impl.Tac{ret(0)}})
		if at == 0 {
			w.Units[1].Code[0].Args = []int{9, 10, 11}
		}
		regs := [][]int{{70, 71, -72, 0}, make([]int, 12), {}, make([]int, 3)}[at]
		wantActs(t, w, 0, impl.KdGo, func(w *impl.World) { w.Bodies = append(w.Bodies, newcomer(at, regs...)) })
	}
	// Bodies that have ended count, too, and their numbers are not given again.
	w := aloneAt([]int{4}, label(0), begin("f", 0), jump(0))
	w.Units = append(w.Units, impl.Unit{Name: "f", Params: 1, Regs: 1, Code: []impl.Tac{ret(0)}})
	got, kinds := checkSteps(t, w, 0, 1, 0, 2, 0, 3, 0, 4, 0, 5, 0, 0)
	if !slices.Equal(kinds, []int{2, 8, 2, 8, 2, 8, 2, 8, 2, 8, 2, 0}) || !got.Over || got.Code != 5 || len(got.Bodies) != mostBodies {
		t.Errorf("%v, %s", kinds, clip(got))
	}
}

func TestMakingChannels(t *testing.T) {
	for _, room := range []int{least, -9, -2, -1, 0, 1, 2, 7, 8, 9, 10, 16, 256, 65536, greatest} {
		for count := range mostChans + 1 {
			for _, d := range []int{0, 4, 9, 11} {
				w := parley(makes(d, 9))
				set(&w, 0, 9, room)
				for i := range count {
					w.Chans = append(w.Chans, impl.Chan{Cap: i, Closed: i%2 == 0, Buf: ramp(i), Takes: bodies(i % 6)})
				}
				switch {
				case room < 0 || room > 8:
					wantOverWith(t, w, 0, impl.KdMake, 4)
				case count == 8:
					wantOverWith(t, w, 0, impl.KdMake, 6)
				default:
					wantActs(t, w, 0, impl.KdMake, func(w *impl.World) {
						w.Chans = append(w.Chans, impl.Chan{Cap: room})
						set(w, 0, d, count+1)
					})
				}
			}
		}
	}
}

func TestComingToTheEnd(t *testing.T) {
	for id, w := range amongBodies(aloneAt([]int{6, 7}, number(0, 5), ret(1), show(0), ret(0))) {
		kind, over := impl.KdEnd, false
		if id == 0 {
			kind, over = impl.KdExit, true
		}
		got := wantActs(t, w, id, kind, func(w *impl.World) {
			*topOf(w, id) = frame(0, 1, -1, 5, 7)
			if over {
				w.Over, w.Code = true, 0
			} else {
				w.Bodies[id].Ended = true
			}
		})
		for other := range got.Bodies {
			if over || other == id {
				wantIdle(t, got, other)
			}
		}
	}
	// The others go on, where one of them has ended; nobody does, where body 0 has.
	w := aloneAt([]int{6}, show(0), ret(0))
	w.Bodies = slices.Repeat(w.Bodies, 3)
	w = cloneWorld(w)
	got, kinds := checkSteps(t, w, 1, 1, 1, 2, 0, 0, 2, 1, 0)
	if !slices.Equal(kinds, []int{1, 8, 0, 1, 1, 9, 0, 0, 0}) || !got.Over || got.Code != 0 || got.Bodies[0].Ended || !got.Bodies[1].Ended || got.Bodies[2].Ended {
		t.Errorf("%v, %s", kinds, clip(got))
	}
}

// numbersOfNone are numbers of no channel, where there are so many.
func numbersOfNone(count int) []int {
	return []int{least, -65536, -2, -1, 0, count + 1, count + 2, 9, 17, 256 + count, 65536, greatest - 1, greatest}
}

func TestNumbersOfNoChannel(t *testing.T) {
	for count := range mostChans + 1 {
		var chans []impl.Chan
		for i := range count {
			// With each of them something could be done.
			chans = append(chans, impl.Chan{Cap: 8, Buf: ramp(3), Takes: []impl.Wait{gone(1, 5, i)}})
		}
		for _, n := range numbersOfNone(count) {
			for _, x := range []impl.Tac{gives(9, 10), gives(9, 9), takes(0, 9), takes(9, 9), shuts(9)} {
				w := parley(x, chans...)
				set(&w, 0, 9, n)
				wantOverWith(t, w, 0, kindOf(x.Op, 0), 7)
			}
			for _, x := range []impl.Tac{
				choose(3, 1, 0, 1, 9, 0), choose(3, 1, 1, 1, 9, 0), choose(9, 9, 0, 2, 9, 10), choose(3, 1, 1, 2, 9, 10),
				choose(3, 1, 1, 1, 9, 0, 1, 9, 0), choose(3, 1, 0, 2, 9, 10, 2, 9, 11, 1, 9, 0),
			} {
				w := parley(x, chans...)
				set(&w, 0, 9, n)
				wantOverByCase(t, w, 7, 0)
			}
		}
		for n := 1; n <= count; n++ {
			w := parley(takes(0, 9), chans...)
			set(&w, 0, 9, n)
			wantActs(t, w, 0, impl.KdRecv, func(w *impl.World) {
				w.Chans[n-1].Buf = []int{101, 102}
				set(w, 0, 0, 100)
			})
		}
	}
}

// A channel that is none counts in its turn: behind cases that can't be done now, and not behind one that can.
func TestCasesOfChannelsThatAreNone(t *testing.T) {
	can, cannot := impl.Chan{Cap: 1, Buf: []int{44}}, impl.Chan{}
	for _, n := range numbersOfNone(2) {
		for _, which := range []int{1, 2} {
			last := []int{which, 9, 10 * (which - 1)}
			// Channel 1 can be taken from, channel 2 can't.
			for at, ahead := range [][]int{{}, {1, 2, 0}, {2, 2, 10}, {1, 2, 0, 2, 2, 10}, {2, 1, 10}} {
				for _, n01 := range []int{0, 1} {
					w := parley(choose(4, 3, n01, slices.Concat(ahead, last)...), can, cannot)
					set(&w, 0, 9, n)
					wantOverByCase(t, w, 7, len(ahead)/3)
					if at > 2 {
						continue
					}
					// One that can be done stands ahead of it.
					w = parley(choose(0, 3, n01, slices.Concat(ahead, []int{1, 1, 0}, last)...), can, cannot)
					set(&w, 0, 9, n)
					wantActs(t, w, 0, impl.KdSelect, func(w *impl.World) {
						w.Chans[0].Buf = nil
						set(w, 0, 0, len(ahead)/3)
						set(w, 0, 3, 44)
					})
				}
			}
		}
	}
}

func TestClosing(t *testing.T) {
	someGives := [][]impl.Wait{{still(1, 5, 0)}, {gone(2, 5, 0), still(1, 5, 0)}, {still(3, 5, 0), still(4, 5, 0)}, {still(0, 5, 0)}}
	noGives := [][]impl.Wait{nil, {}, {gone(1, 5, 0)}, {gone(4, 5, 0), gone(1, 5, 0)}, {wt(1, 7, 5, 0)}}
	for _, buf := range [][]int{nil, {4}, {4, 5, 6}} {
		for _, list := range append(someGives, noGives...) {
			w := parley(shuts(2), impl.Chan{Cap: 4}, impl.Chan{Cap: 4, Closed: true, Buf: buf, Gives: list, Takes: []impl.Wait{still(2, 0, 0)}})
			wantOverWith(t, w, 0, impl.KdClose, 3)
		}
		for _, list := range someGives {
			w := parley(shuts(2), impl.Chan{Cap: 4}, impl.Chan{Cap: 4, Buf: buf, Gives: list, Takes: []impl.Wait{still(2, 0, 0)}})
			wantOverWith(t, w, 0, impl.KdClose, 3)
		}
		for _, list := range noGives {
			w := parley(shuts(2), impl.Chan{Cap: 4}, impl.Chan{Cap: 4, Buf: buf, Gives: list})
			got := wantActs(t, w, 0, impl.KdClose, func(w *impl.World) { w.Chans[1].Closed = true })
			if slices.Equal(got.Chans[1].Buf, buf) == false || got.Chans[0].Closed {
				t.Errorf("%s", clip(got.Chans))
			}
			// All who wait to take are given 0, those who wait no more are not.
			w.Chans[1].Takes = []impl.Wait{still(4, 9, 2), gone(1, 9, 3), still(2, 9, 0), wt(5, 11, 9, 1), still(3, 9, 7)}
			for id, dst := range []int{-1, -1, 0, 1, 2, 3} {
				w.Bodies[id].Dst = dst
			}
			w.Bodies[3].Two = 3
			wantActs(t, w, 0, impl.KdClose, func(w *impl.World) {
				w.Chans[1].Closed = true
				given(w, 4, 0, 2)
				set(w, 4, 2, 0)
				given(w, 2, 0, 0)
				set(w, 2, 0, 0)
				given(w, 3, 0, 7)
				set(w, 3, 1, 7)
				set(w, 3, 3, 0)
			})
		}
	}
	// What is in Buf is taken still, and 0 behind it; to give is over.
	w := parley(shuts(1), impl.Chan{Cap: 2, Buf: []int{4, 5}})
	w.Units[1].Code = []impl.Tac{shuts(1), takes(9, 1), takes(10, 1), takes(11, 1), takes(0, 1), gives(1, 1), ret(0)}
	got, kinds := checkSteps(t, w, 0, 0, 0, 0, 0, 0, 0)
	if !slices.Equal(kinds, []int{6, 5, 5, 5, 5, 4, 0}) || !slices.Equal(topOf(&got, 0).Regs[9:], []int{4, 5, 0}) || topOf(&got, 0).Regs[0] != 0 || got.Code != 2 {
		t.Errorf("%v, %s", kinds, clip(got))
	}
}

// asTacs are the ways in which one gives to, or takes from, channel 1 alone.
func asTacs() (give, take []impl.Tac) {
	return []impl.Tac{gives(1, 9), choose(0, 11, 0, 2, 1, 9), choose(0, 11, 1, 2, 1, 9)},
		[]impl.Tac{takes(11, 1), choose(0, 11, 0, 1, 1, 0), choose(0, 11, 1, 1, 1, 0)}
}

// wantTalk is of a body that gives to channel 1, or takes from it, by each way in which that can be said; what is taken is for register 11.
func wantTalk(t *testing.T, list []impl.Tac, c impl.Chan, taken int, turn func(w *impl.World)) {
	t.Helper()
	for _, x := range list {
		wantActs(t, parley(x, c, impl.Chan{Cap: 3, Buf: []int{1}}), 0, kindOf(x.Op, 0), func(w *impl.World) {
			turn(w)
			if x.Op != impl.TcSend {
				set(w, 0, 11, taken)
			}
		})
	}
}

func TestGiving(t *testing.T) {
	give, _ := asTacs()
	takers := []impl.Wait{gone(5, 1, 1), still(3, 1, 2), still(1, 1, 0), gone(4, 1, 3)}
	for _, room := range []int{0, 1, 2, 8} {
		for _, buf := range [][]int{nil, {6}, ramp(room)} {
			if len(buf) > room {
				continue
			}
			for _, gives := range [][]impl.Wait{nil, {gone(2, 9, 0)}, {still(2, 9, 0)}} {
				for _, takes := range [][]impl.Wait{nil, {gone(1, 0, 0)}, takers, takers[1:2]} {
					// Closed, whatever else.
					for _, x := range give {
						w := parley(x, impl.Chan{Cap: room, Closed: true, Buf: buf, Takes: takes, Gives: gives})
						if x.Op == impl.TcSelect {
							set(&w, 0, x.D, 77)
							wantOverByCase(t, w, 2, 0)
						} else {
							wantOverWith(t, w, 0, impl.KdSend, 2)
						}
					}
				}
				// The first one who waits to take still is given it, whatever is in Buf.
				for _, takes := range [][]impl.Wait{takers, takers[1:], takers[1:2]} {
					wantTalk(t, give, impl.Chan{Cap: room, Buf: buf, Takes: takes, Gives: gives}, 0, func(w *impl.World) { given(w, 3, 70, 2) })
				}
				if len(buf) == room {
					continue
				}
				for _, takes := range [][]impl.Wait{nil, {gone(1, 0, 0)}, {takers[0], takers[3]}} {
					wantTalk(t, give, impl.Chan{Cap: room, Buf: buf, Takes: takes, Gives: gives}, 0, func(w *impl.World) { w.Chans[0].Buf = append(w.Chans[0].Buf, 70) })
				}
			}
		}
	}
}

func TestTaking(t *testing.T) {
	_, take := asTacs()
	givers := []impl.Wait{gone(5, 81, 1), still(3, 82, 2), still(1, 83, 0), gone(4, 84, 3)}
	for _, closed := range []bool{false, true} {
		for _, takes := range [][]impl.Wait{nil, {gone(2, 9, 0)}, {still(2, 9, 0)}} {
			for _, room := range []int{0, 1, 2, 8} {
				c := impl.Chan{Cap: room, Closed: closed, Takes: takes}
				for _, list := range [][]impl.Wait{givers, givers[1:], givers[1:2]} {
					c.Gives = list
					// From the first one who waits to give still.
					c.Buf = nil
					wantTalk(t, take, c, 82, func(w *impl.World) { given(w, 3, 0, 2) })
					// From Buf, behind which the first one of these gives.
					for count := 1; count <= room; count++ {
						c.Buf = ramp(count)
						wantTalk(t, take, c, 100, func(w *impl.World) {
							w.Chans[0].Buf = append(ramp(count)[1:], 82)
							given(w, 3, 0, 2)
						})
					}
				}
				for _, list := range [][]impl.Wait{nil, {gone(1, 9, 0)}, {givers[0], givers[3]}} {
					c.Gives = list
					for count := 1; count <= room; count++ {
						c.Buf = ramp(count)
						wantTalk(t, take, c, 100, func(w *impl.World) { w.Chans[0].Buf = ramp(count)[1:] })
					}
					if closed {
						c.Buf = nil
						wantTalk(t, take, c, 0, func(w *impl.World) {})
					}
				}
			}
		}
	}
}

// wantWaits is of a body that waits by these cases of a TcSelect, or by a TcSend or TcRecv.
func wantWaits(t *testing.T, w impl.World, dst, two int, turn func(w *impl.World)) impl.World {
	t.Helper()
	x := w.Units[1].Code[0]
	got := wantActs(t, w, 0, kindOf(x.Op, 0), func(w *impl.World) {
		b := &w.Bodies[0]
		b.Waits, b.Dst, b.Two = true, dst, two
		turn(w)
	})
	wantIdle(t, got, 0)
	return got
}

func TestWaiting(t *testing.T) {
	for _, given := range []int{-1, 0, 3, 249} {
		for _, others := range [][]impl.Wait{nil, {gone(1, 3, 3)}, {gone(4, 3, 3), gone(2, 3, 3), gone(5, 3, 3)}, {gone(0, 3, 3), gone(3, 3, 3)}, {gone(3, 3, 3), gone(0, 3, 3)}, {wt(0, 6, 3, 3)}} {
			behind := slices.DeleteFunc(slices.Clone(others), func(x impl.Wait) bool { return x.Body == 0 })
			for _, room := range []int{0, 1, 8} {
				w := parley(gives(3, 9), impl.Chan{}, impl.Chan{}, impl.Chan{Cap: room, Buf: ramp(room), Gives: others, Takes: others})
				w.Bodies[0].Dst, w.Bodies[0].Two, w.Bodies[0].Value, w.Bodies[0].Case = given, given, 33, 34
				wantWaits(t, w, -1, -1, func(w *impl.World) { w.Chans[2].Gives = append(behind, wt(0, 5, 70, 0)) })
				for _, d := range []int{0, 3, 9, 11} {
					w = parley(takes(d, 3), impl.Chan{}, impl.Chan{}, impl.Chan{Cap: room, Takes: others, Gives: others})
					w.Bodies[0].Dst, w.Bodies[0].Two = given, given
					wantWaits(t, w, d, -1, func(w *impl.World) { w.Chans[2].Takes = append(behind, wt(0, 5, 0, 0)) })
				}
			}
			// Behind others who wait still for the same.
			w := parley(gives(1, 9), impl.Chan{Gives: []impl.Wait{still(2, 1, 1), gone(0, 3, 3), still(1, 1, 1)}})
			wantWaits(t, w, -1, -1, func(w *impl.World) {
				w.Chans[0].Gives = []impl.Wait{still(2, 1, 1), still(1, 1, 1), wt(0, 5, 70, 0)}
			})
		}
	}
}

// The same body waits again: what it left is no more, and it stands behind all.
func TestWaitingAgain(t *testing.T) {
	w := worldOf(t, "func f(c chan) { let x = 0; while 1 { recv x, c; print x; } } func main() { let c = make(0); let i = 0; go f(c); go f(c); while 1 { i = i + 1; send c, i; } }")
	w, _ = checkSteps(t, w, 0, 0, 0, 1, 2)
	if got := w.Chans[0].Takes; !slices.Equal(got, []impl.Wait{wt(1, 1, 0, 0), wt(2, 1, 0, 0)}) {
		t.Errorf("%v", got)
	}
	w, _ = checkSteps(t, w, 0, 1, 1)
	if got := w.Chans[0].Takes; !slices.Equal(got, []impl.Wait{wt(2, 1, 0, 0), wt(1, 2, 0, 0)}) || !slices.Equal(w.Out, []int{1}) {
		t.Errorf("%v, %v", got, w.Out)
	}
	w, _ = checkSteps(t, w, 0, 2, 0, 1, 2, 0, 0, 0)
	if got := w.Chans[0].Takes; !slices.Equal(got, []impl.Wait{wt(1, 2, 0, 0), wt(2, 2, 0, 0)}) || !slices.Equal(w.Out, []int{1, 2, 3}) || !w.Bodies[0].Waits {
		t.Errorf("%v, %v", got, w.Out)
	}
	if got := w.Chans[0].Gives; !slices.Equal(got, []impl.Wait{wt(0, 1, 5, 0)}) {
		t.Errorf("%v", got)
	}
}

// wakings are the ways in which body 2 of a parley, which waits as case 3, is woken: what it is given, the place by which that is done, and the channel; and what else is turned then.
func wakings() []struct {
	value int
	x     impl.Tac
	c     impl.Chan
	turn  func(w *impl.World)
} {
	return []struct {
		value int
		x     impl.Tac
		c     impl.Chan
		turn  func(w *impl.World)
	}{
		{70, gives(1, 9), impl.Chan{Takes: []impl.Wait{still(2, 55, 3)}}, func(w *impl.World) {}},
		{0, gives(1, 0), impl.Chan{Cap: 4, Buf: []int{6}, Takes: []impl.Wait{still(2, 55, 3)}}, func(w *impl.World) {}},
		{-72, choose(4, 5, 0, 2, 1, 11), impl.Chan{Takes: []impl.Wait{still(2, 55, 3)}}, func(w *impl.World) { set(w, 0, 4, 0); set(w, 0, 5, 0) }},
		{0, shuts(1), impl.Chan{Takes: []impl.Wait{still(2, 55, 3)}}, func(w *impl.World) { w.Chans[0].Closed = true }},
		{0, takes(0, 1), impl.Chan{Gives: []impl.Wait{still(2, 55, 3)}}, func(w *impl.World) { set(w, 0, 0, 55) }},
		{0, takes(0, 1), impl.Chan{Cap: 1, Buf: []int{6}, Gives: []impl.Wait{still(2, 55, 3)}}, func(w *impl.World) { set(w, 0, 0, 6); w.Chans[0].Buf = []int{55} }},
		{0, choose(4, 5, 1, 1, 1, 0), impl.Chan{Gives: []impl.Wait{still(2, 55, 3)}}, func(w *impl.World) { set(w, 0, 4, 0); set(w, 0, 5, 55) }},
	}
}

func TestWhoIsWokenAndItsRegisters(t *testing.T) {
	for _, how := range wakings() {
		for _, dst := range []int{-1, 0, 1, 3, 4, 11, 249} {
			for _, two := range []int{-1, 0, 2, 3, 4, 12, 249} {
				w := parley(how.x, how.c)
				w.Bodies[2].Dst, w.Bodies[2].Two = dst, two
				wantActs(t, w, 0, kindOf(how.x.Op, 0), func(w *impl.World) {
					how.turn(w)
					given(w, 2, how.value, 3)
					// Of who chose among cases the first register is for which one it was, and of others for the value.
					first := how.value
					if two >= 0 {
						first = 3
					}
					if dst >= 0 && dst < 4 {
						set(w, 2, dst, first)
					}
					if two >= 0 && two < 4 {
						set(w, 2, two, how.value)
					}
				})
			}
		}
		// Frames below have registers, too, which are as they were; with no frame there is none.
		for _, frames := range [][]impl.Frame{nil, {}, {frame(0, 0, -1, 1, 2, 3, 4)}, slices.Repeat([]impl.Frame{frame(0, 0, -1, 1, 2, 3, 4)}, 12)} {
			w := parley(how.x, how.c)
			w.Bodies[2].Frames, w.Bodies[2].Ended, w.Bodies[2].Dst, w.Bodies[2].Two = frames, true, 0, 1
			w = cloneWorld(w)
			wantActs(t, w, 0, kindOf(how.x.Op, 0), func(w *impl.World) {
				how.turn(w)
				given(w, 2, how.value, 3)
				if len(frames) > 0 {
					set(w, 2, 0, 3)
					set(w, 2, 1, how.value)
				}
			})
		}
		// Each body may be the one that is woken.
		for id := 1; id < mostBodies; id++ {
			w := parley(how.x, how.c)
			for _, list := range [][]impl.Wait{w.Chans[0].Takes, w.Chans[0].Gives} {
				if len(list) > 0 {
					list[0].Body, list[0].Ticket = id, 5+id
				}
			}
			wantActs(t, w, 0, kindOf(how.x.Op, 0), func(w *impl.World) {
				how.turn(w)
				given(w, id, how.value, 3)
			})
		}
	}
}

// A wait with the Ticket that its body has is one, also where the body does not wait, has ended, or is the one that acts.
func TestWaitsOfBodiesThatDoNotWait(t *testing.T) {
	for _, how := range wakings() {
		for flags := range 4 {
			w := parley(how.x, how.c)
			w.Bodies[2].Waits, w.Bodies[2].Ended = flags&1 != 0, flags&2 != 0
			wantActs(t, w, 0, kindOf(how.x.Op, 0), func(w *impl.World) {
				how.turn(w)
				given(w, 2, how.value, 3)
			})
		}
		w := parley(how.x, how.c)
		for _, list := range [][]impl.Wait{w.Chans[0].Takes, w.Chans[0].Gives} {
			if len(list) > 0 {
				list[0].Body, list[0].Ticket = 0, 5
			}
		}
		wantActs(t, w, 0, kindOf(how.x.Op, 0), func(w *impl.World) {
			given(w, 0, how.value, 3)
			how.turn(w)
		})
		// Those of bodies that the world has not are none.
		for _, body := range []int{2, 3, 4, 5} {
			for ticket := range 12 {
				w := parley(how.x, how.c)
				w.Bodies = w.Bodies[:2]
				for _, list := range [][]impl.Wait{w.Chans[0].Takes, w.Chans[0].Gives} {
					if len(list) > 0 {
						list[0].Body, list[0].Ticket = body, ticket
					}
				}
				checkStep(t, w, 0)
				if got, _ := impl.Step(w, 0); !sameBody(got.Bodies[1], w.Bodies[1]) {
					t.Errorf("%s turns %s", clip(w), clip(got.Bodies[1]))
				}
			}
		}
	}
}

// Tickets and cases that are at their limits go beyond, where one is woken, and what is not right then does nothing more.
func TestWakingAtTheLimits(t *testing.T) {
	for _, how := range wakings() {
		for _, ticket := range []int{0, 1, mostSteps - 1, mostSteps} {
			for _, which := range []int{0, 1, mostSteps, mostSteps + 1, greatest, greatest + 1, math.MaxInt} {
				w := parley(how.x, how.c)
				w.Bodies[2].Ticket, w.Bodies[2].Dst, w.Bodies[2].Two = ticket, 0, 1
				for _, list := range [][]impl.Wait{w.Chans[0].Takes, w.Chans[0].Gives} {
					if len(list) > 0 {
						list[0].Ticket, list[0].Case = ticket, which
					}
				}
				got := wantActs(t, w, 0, kindOf(how.x.Op, 0), func(w *impl.World) {
					how.turn(w)
					given(w, 2, how.value, which)
					set(w, 2, 0, which)
					set(w, 2, 1, how.value)
				})
				right := ticket < mostSteps && which <= mostSteps
				if impl.WorldOk(got) != right {
					t.Errorf("with ticket %d and case %d WorldOk is %v", ticket, which, !right)
				}
				kinds := []int{kindOf(how.x.Op, 0), impl.KdPrint, impl.KdExit}
				if !right {
					kinds = []int{kindOf(how.x.Op, 0), impl.KdNone, impl.KdNone}
				}
				end, gotKinds := checkSteps(t, w, 0, 0, 0)
				if !slices.Equal(gotKinds, kinds) || !right && !sameWorld(end, impl.World{}) {
					t.Errorf("with ticket %d and case %d the kinds are %v, not %v: %s", ticket, which, gotKinds, kinds, clip(end))
				}
			}
		}
	}
}

// caseOf is one case of a select about channel n, whose number is in register n, and of which what is asked can, or can't, be done now; the channel, and what is turned where it is done.
func caseOf(n int, give, can bool) ([]int, impl.Chan, func(w *impl.World) int) {
	switch {
	case give && can:
		return []int{2, n, 9}, impl.Chan{Cap: 2, Buf: []int{n}}, func(w *impl.World) int {
			w.Chans[n-1].Buf = []int{n, 70}
			return 0
		}
	case give:
		return []int{2, n, 9}, impl.Chan{Cap: 1, Buf: []int{n}, Takes: []impl.Wait{gone(1, 2, 2)}}, nil
	case can:
		return []int{1, n, 0}, impl.Chan{Cap: 2, Buf: []int{50 + n, n}}, func(w *impl.World) int {
			w.Chans[n-1].Buf = []int{n}
			return 50 + n
		}
	}
	return []int{1, n, 0}, impl.Chan{Cap: 2, Gives: []impl.Wait{gone(1, 2, 2)}}, nil
}

// Of one, two and three cases, takes and gives, of which each can or can't be done: the first one that can be is done, and no other one.
func TestTheFirstCaseThatCanBeDone(t *testing.T) {
	for count := 1; count <= 3; count++ {
		for kinds := range 1 << count {
			for can := range 1 << count {
				var args []int
				var chans []impl.Chan
				first, turn := -1, func(*impl.World) int { return 0 }
				for i := range count {
					give, done := kinds>>i&1 != 0, can>>i&1 != 0
					some, c, does := caseOf(i+1, give, done)
					args, chans = append(args, some...), append(chans, c)
					if done && first < 0 {
						first, turn = i, does
					}
				}
				for _, regs := range [][2]int{{0, 11}, {11, 0}, {4, 5}, {9, 10}, {0, 0}, {1, 2}, {1, 1}} {
					for _, orElse := range []int{0, 1} {
						w := parley(choose(regs[0], regs[1], orElse, args...), chans...)
						switch {
						case first >= 0:
							wantActs(t, w, 0, impl.KdSelect, func(w *impl.World) {
								taken := turn(w)
								set(w, 0, regs[0], first)
								set(w, 0, regs[1], taken)
							})
						case orElse == 1:
							wantActs(t, w, 0, impl.KdSelect, func(w *impl.World) { set(w, 0, regs[0], count) })
						default:
							wantWaits(t, w, regs[0], regs[1], func(w *impl.World) {
								for i := range count {
									if kinds>>i&1 != 0 {
										w.Chans[i].Gives = append(w.Chans[i].Gives, wt(0, 5, 70, i))
									} else {
										w.Chans[i].Takes = append(w.Chans[i].Takes, wt(0, 5, 0, i))
									}
								}
							})
						}
					}
				}
			}
		}
	}
}

// A case that ends the world is one that is done: it counts in its turn, and which one it was is told, but nothing as taken.
func TestACaseThatEndsTheWorld(t *testing.T) {
	open, closed, none := []int{1, 1, 0}, []int{2, 2, 9}, []int{1, 0, 0}
	later, full, nowhere := []int{1, 3, 0}, []int{2, 3, 9}, []int{2, 8, 9}
	chans := []impl.Chan{{Cap: 1, Buf: []int{44}}, {Cap: 2, Closed: true, Takes: []impl.Wait{still(1, 0, 0)}}, {}}
	for _, orElse := range []int{0, 1} {
		for _, c := range []struct {
			cases        [][]int
			code, number int
		}{
			{[][]int{closed}, 2, 0}, {[][]int{none}, 7, 0}, {[][]int{nowhere}, 7, 0},
			{[][]int{closed, none}, 2, 0}, {[][]int{none, closed}, 7, 0}, {[][]int{nowhere, closed}, 7, 0}, {[][]int{closed, open}, 2, 0}, {[][]int{none, open}, 7, 0},
			{[][]int{later, closed}, 2, 1}, {[][]int{later, none}, 7, 1}, {[][]int{later, nowhere}, 7, 1}, {[][]int{full, closed}, 2, 1}, {[][]int{full, none}, 7, 1},
			{[][]int{later, closed, open}, 2, 1}, {[][]int{later, none, open}, 7, 1}, {[][]int{full, closed, none}, 2, 1},
			{[][]int{later, later, closed}, 2, 2}, {[][]int{full, later, none}, 7, 2}, {[][]int{later, full, nowhere}, 7, 2},
			{[][]int{open, closed}, -1, 0}, {[][]int{open, none, closed}, -1, 0}, {[][]int{later, open, closed}, -1, 1}, {[][]int{later, open, none}, -1, 1},
		} {
			w := parley(choose(4, 5, orElse, slices.Concat(c.cases...)...), chans...)
			if c.code >= 0 {
				wantOverByCase(t, w, c.code, c.number)
				continue
			}
			wantActs(t, w, 0, impl.KdSelect, func(w *impl.World) {
				w.Chans[0].Buf = nil
				set(w, 0, 4, c.number)
				set(w, 0, 5, 44)
			})
		}
	}
	// To take from a closed one does not end it.
	w := parley(choose(4, 5, 1, 1, 3, 0, 1, 2, 0), chans...)
	wantActs(t, w, 0, impl.KdSelect, func(w *impl.World) { set(w, 0, 4, 1); set(w, 0, 5, 0) })
}

// D may be any register: one of those that the case itself reads, the last one, and that of what is taken.
func TestTheRegisterOfACaseThatEndsTheWorld(t *testing.T) {
	for _, last := range []struct {
		args []int
		code int
	}{{[]int{2, 2, 9}, 2}, {[]int{2, 10, 9}, 7}, {[]int{1, 10, 0}, 7}} {
		for ahead := range 3 {
			args := append(slices.Repeat([]int{1, 3, 0}, ahead), last.args...)
			for d := range 12 {
				for _, b := range []int{0, 3, 9, 11} {
					w := parley(choose(d, b, 0, args...), impl.Chan{}, impl.Chan{Cap: 1, Closed: true}, impl.Chan{})
					wantOverByCase(t, w, last.code, ahead)
				}
			}
		}
	}
}

// A case that ends the world is told in the last frame alone, and to no other body.
func TestACaseThatEndsTheWorldFromAFrameAbove(t *testing.T) {
	w := parley(ret(0), impl.Chan{})
	w.Units[0].Code = []impl.Tac{choose(2, 3, 0, 1, 1, 0, 2, 0, 1), ret(2)}
	w.Bodies[0].Frames = append(w.Bodies[0].Frames, frame(0, 0, 3, 0, 1, 77, 78))
	got := wantActs(t, w, 0, impl.KdSelect, func(w *impl.World) {
		w.Over, w.Code = true, 7
		set(w, 0, 2, 1)
	})
	if regs := topOf(&got, 0).Regs; !slices.Equal(regs, []int{0, 1, 1, 78}) {
		t.Errorf("registers %v", regs)
	}
}

// The same channel in several cases: who waits for the same twice waits once, as the first of these cases.
func TestCasesOfOneChannel(t *testing.T) {
	for _, c := range []struct {
		args         []int
		takes, gives []impl.Wait
	}{
		{[]int{1, 1, 0, 1, 1, 0}, []impl.Wait{wt(0, 5, 0, 0)}, nil},
		{[]int{2, 1, 9, 2, 1, 10}, nil, []impl.Wait{wt(0, 5, 70, 0)}},
		{[]int{1, 1, 0, 2, 1, 10}, []impl.Wait{wt(0, 5, 0, 0)}, []impl.Wait{wt(0, 5, 71, 1)}},
		{[]int{2, 1, 9, 1, 1, 0}, []impl.Wait{wt(0, 5, 0, 1)}, []impl.Wait{wt(0, 5, 70, 0)}},
		{[]int{1, 1, 0, 1, 1, 0, 1, 1, 0}, []impl.Wait{wt(0, 5, 0, 0)}, nil},
		{[]int{2, 1, 11, 1, 1, 0, 2, 1, 9}, []impl.Wait{wt(0, 5, 0, 1)}, []impl.Wait{wt(0, 5, -72, 0)}},
		{[]int{1, 1, 0, 2, 1, 11, 2, 1, 9}, []impl.Wait{wt(0, 5, 0, 0)}, []impl.Wait{wt(0, 5, -72, 1)}},
		{[]int{1, 1, 0, 2, 1, 11, 1, 1, 0}, []impl.Wait{wt(0, 5, 0, 0)}, []impl.Wait{wt(0, 5, -72, 1)}},
	} {
		w := parley(choose(4, 5, 0, c.args...), impl.Chan{})
		wantWaits(t, w, 4, 5, func(w *impl.World) { w.Chans[0].Takes, w.Chans[0].Gives = c.takes, c.gives })
		// What it left there with another Ticket is no more.
		w = parley(choose(4, 5, 0, c.args...), impl.Chan{Takes: []impl.Wait{gone(0, 1, 1), gone(3, 1, 1)}, Gives: []impl.Wait{gone(2, 1, 1), gone(0, 1, 1)}})
		wantWaits(t, w, 4, 5, func(w *impl.World) {
			if c.takes != nil {
				w.Chans[0].Takes = append([]impl.Wait{gone(3, 1, 1)}, c.takes...)
			}
			if c.gives != nil {
				w.Chans[0].Gives = append([]impl.Wait{gone(2, 1, 1)}, c.gives...)
			}
		})
	}
	// A channel of which another case can be done.
	w := parley(choose(4, 5, 0, 1, 1, 0, 2, 1, 9, 2, 1, 10), impl.Chan{Cap: 1})
	wantActs(t, w, 0, impl.KdSelect, func(w *impl.World) {
		w.Chans[0].Buf = []int{70}
		set(w, 0, 4, 1)
		set(w, 0, 5, 0)
	})
}

// A body that would give to, and take from, one channel by two cases does not do so with itself, but with another one, once.
func TestABodyDoesNotTalkToItself(t *testing.T) {
	const both = "func f(c chan) { let x = 5; select { case send c, 8 { print 1; } case recv x, c { print x; } } } "
	const turned = "func f(c chan) { let x = 5; select { case recv x, c { print x; } case send c, 8 { print 1; } } } "
	for _, src := range []string{both, turned} {
		w := wantRun(t, src+"func main() { f(make(0)); }", []int{0, 0, 0, 0}, []int{3, 7, 0, 0}, nil, -1)
		if !impl.Stuck(w) || len(w.Chans[0].Takes) != 1 || len(w.Chans[0].Gives) != 1 {
			t.Errorf("%s", clip(w.Chans))
		}
		// With room it gives, and then takes that itself.
		wantRun(t, src+"func main() { let c = make(1); f(c); f(c); }", []int{0, 0, 0, 0, 0, 0}, []int{3, 7, 1, 7, 1, 9}, []int{1, 8}, 0)
	}
	// The second one finds the first one by its own first case, the third one finds nobody any more, and the fourth one finds that.
	const end = "func main() { let c = make(0); let x = 0; go f(c); go f(c); go f(c); go f(c); recv x, make(0); }"
	order, kinds := []int{0, 0, 0, 0, 0, 1, 2, 3, 1, 2, 4, 4, 3}, []int{3, 2, 2, 2, 2, 7, 7, 7, 1, 1, 7, 1, 1}
	wantRun(t, both+end, order, kinds, []int{8, 1, 1, 8}, -1)
	wantRun(t, turned+end, order, kinds, []int{1, 8, 8, 1}, -1)
}

// Who was woken by one case waits no more at the others.
func TestWhoIsWokenWaitsNoMoreAtOtherChannels(t *testing.T) {
	for _, first := range []int{0, 1, 2} {
		w := parley(choose(4, 5, 0, 1, 1, 0, 2, 2, 9, 1, 3, 0), impl.Chan{}, impl.Chan{}, impl.Chan{})
		w = wantWaits(t, w, 4, 5, func(w *impl.World) {
			w.Chans[0].Takes, w.Chans[1].Gives, w.Chans[2].Takes = []impl.Wait{wt(0, 5, 0, 0)}, []impl.Wait{wt(0, 5, 70, 1)}, []impl.Wait{wt(0, 5, 0, 2)}
		})
		// Body 1 does what wakes it, and the others then try each channel again.
		does := []impl.Tac{gives(0, 1), takes(1, 0), gives(0, 1)}
		for id := 1; id < 5; id++ {
			which := []int{0, first, 0, 1, 2}[id]
			unit := impl.Unit{Name: "u" + impl.Digits(id), Regs: 2, Code: []impl.Tac{does[which], ret(0)}}
			w.Bodies[id] = newcomer(len(w.Units), which+1, 60+id)
			w.Units = append(w.Units, unit)
		}
		got, kind := checkStep(t, w, 1)
		if b := got.Bodies[0]; b.Waits || b.Ticket != 6 || b.Case != first || topOf(&got, 0).Regs[4] != first || topOf(&got, 0).Regs[5] != []int{61, 0, 61}[first] || kind != kindOf(does[first].Op, 1) {
			t.Errorf("%s, kind %d", clip(b), kind)
		}
		if first == 1 && topOf(&got, 1).Regs[1] != 70 || got.Bodies[1].Waits {
			t.Errorf("%s", clip(got.Bodies[1]))
		}
		got, _ = checkSteps(t, got, 2, 3, 4)
		for id := 2; id < 5; id++ {
			if !got.Bodies[id].Waits {
				t.Errorf("body %d was woken by case %d, and body %d does not wait", 0, first, id)
			}
		}
		if b := got.Bodies[0]; b.Ticket != 6 || b.Case != first {
			t.Errorf("%s", clip(b))
		}
	}
}

// All states of a channel about each place: closed or not, what is in Buf, and who waits.
func TestEachStateOfAChannel(t *testing.T) {
	lists := [][]impl.Wait{
		nil, {still(1, 31, 1)}, {gone(1, 32, 2)}, {gone(2, 33, 3), still(1, 34, 4)}, {still(4, 35, 5), still(2, 36, 0)}, {still(0, 37, 1)}, {gone(0, 38, 2), wt(3, 9, 39, 3)},
		{still(5, 41, 1), still(4, 42, 2), gone(3, 43, 3), still(2, 44, 4), still(1, 45, 5), still(0, 46, 6)},
	}
	give, take := asTacs()
	met := map[[2]int]int{}
	for _, x := range slices.Concat(give, take, []impl.Tac{shuts(1), choose(0, 11, 0, 1, 1, 0, 2, 1, 9), choose(0, 11, 0, 2, 1, 9, 1, 1, 0), choose(2, 3, 1, 1, 2, 0, 2, 1, 9, 1, 1, 0), choose(2, 3, 0, 2, 2, 9, 1, 1, 0, 2, 1, 10)}) {
		for closed := range 2 {
			for _, room := range []int{0, 1, 2, 8} {
				for _, count := range slices.Compact([]int{0, room / 2, room}) {
					for _, takes := range lists {
						for _, gives := range lists {
							w := parley(x, impl.Chan{Cap: room, Closed: closed == 1, Buf: ramp(count), Takes: takes, Gives: gives}, impl.Chan{})
							for id := range w.Bodies {
								w.Bodies[id].Dst, w.Bodies[id].Two = id-1, id%3-1
							}
							got, kind := checkStep(t, w, 0)
							met[[2]int{kind, got.Code}]++
							met[[2]int{kind, -1}] += flag(got.Bodies[0].Waits)
						}
					}
				}
			}
		}
	}
	for _, key := range [][2]int{{impl.KdSend, 0}, {impl.KdSend, 2}, {impl.KdSend, -1}, {impl.KdRecv, 0}, {impl.KdRecv, -1}, {impl.KdClose, 0}, {impl.KdClose, 3}, {impl.KdSelect, 0}, {impl.KdSelect, 2}, {impl.KdSelect, -1}} {
		if met[key] < 20 {
			t.Errorf("%v is met %d times: %v", key, met[key], met)
		}
	}
}

// schedules are orders of steps of so many bodies: in turn, back, by runs, and drawn.
func schedules(d *drawer, bodies, count int) [][]int {
	list := make([][]int, 8)
	for i := range count {
		list[0] = append(list[0], i%bodies)
		list[1] = append(list[1], bodies-1-i%bodies)
		list[2] = append(list[2], i/7%bodies)
		list[3] = append(list[3], i/20%bodies)
		list[4] = append(list[4], i*7/3%bodies)
		for k := 5; k < 8; k++ {
			list[k] = append(list[k], d.IntN(bodies))
		}
	}
	return list
}

// takesNow is whether a body that has just come behind its place has taken something there, and not given.
func takesNow(w impl.World, id, which int) bool {
	f := topOf(&w, id)
	switch x := w.Units[f.Unit].Code[f.Pc-1]; x.Op {
	case impl.TcRecv:
		return true
	case impl.TcSelect:
		return which*3 < len(x.Args) && x.Args[which*3] == 1
	}
	return false
}

// takenBy are the words that are taken by a step of a body: by who is woken, and by the body itself.
func takenBy(was, now impl.World, id, kind int) []int {
	var out []int
	for other, b := range was.Bodies {
		if b.Waits && !now.Bodies[other].Waits && takesNow(now, other, now.Bodies[other].Case) {
			out = append(out, now.Bodies[other].Value)
		}
	}
	if kind != impl.KdRecv && kind != impl.KdSelect || now.Bodies[id].Waits {
		return out
	}
	f := topOf(&now, id)
	x := now.Units[f.Unit].Code[f.Pc-1]
	if kind == impl.KdRecv {
		out = append(out, f.Regs[x.D])
	} else if takesNow(now, id, f.Regs[x.D]) {
		out = append(out, f.Regs[x.B])
	}
	return out
}

// Promise 15: what is sent is taken in order, over a channel of each room, by one body and by several, whatever the order of steps.
func TestWhatIsSentIsTakenInOrder(t *testing.T) {
	d := newDrawer(151)
	const sends = 40
	met, whole := 0, 0
	for room := range mostCap + 1 {
		for takers := 1; takers <= 4; takers++ {
			for _, how := range []string{"recv x, c; print x;", "select { case recv x, c { print x; } }", "select { case recv x, e { print 0 - 1; } case recv x, c { print x; } }"} {
				src := "func f(c chan, e chan) { let x = 0; while 1 { " + how + " } } " +
					"func main() { let c = make(" + impl.Digits(room) + "); let e = make(0); let i = 0; " + strings.Repeat("go f(c, e); ", takers) + "while i < 40 { i = i + 1; send c, i; } recv i, e; }"
				begun, _ := impl.Steps(worldOf(t, src), make([]int, 2+takers))
				for _, order := range schedules(d, takers+1, 400) {
					w := begun
					var taken []int
					for _, id := range order {
						next, kind := impl.Step(w, id)
						more := takenBy(w, next, id, kind)
						if len(more) > 1 {
							t.Fatalf("%q: a step takes %v", src, more)
						}
						taken, w = append(taken, more...), next
						if len(taken) == sends {
							break
						}
					}
					for i, n := range taken {
						if n != i+1 {
							t.Fatalf("%q by %s: taken is %v", src, clip(order), taken)
						}
					}
					met += len(taken)
					whole += flag(len(taken) == sends)
					if out := w.Out; takers == 1 && !slices.Equal(out, taken[:len(out)]) {
						t.Errorf("%q prints %v", src, out)
					}
				}
			}
		}
	}
	if met < 20000 || whole < 500 {
		t.Errorf("%d are taken, %d times all of them", met, whole)
	}
}

// Of several who give, what each one gives is taken in its order, and nothing is taken that nobody gave, nor twice.
func TestWhatEachOneSendsIsTakenInOrder(t *testing.T) {
	d := newDrawer(152)
	met := 0
	for _, room := range []int{0, 1, 2, 3, mostCap} {
		for givers := 1; givers <= 3; givers++ {
			for _, how := range []string{"send c, b * 100 + i; i = i + 1;", "select { case send c, b * 100 + i { i = i + 1; } }", "select { case send c, b * 100 + i { i = i + 1; } default { }  }"} {
				src := "func f(c chan, b) { let i = 0; while i < 30 { " + how + " } } func g(c chan) { let x = 0; while 1 { recv x, c; print x; } } func main() { let c = make(" + impl.Digits(room) + "); let x = 0; "
				for b := range givers {
					src += "go f(c, " + impl.Digits(b+1) + "); "
				}
				src += "go g(c); go g(c); recv x, make(0); }"
				w, _ := impl.Steps(worldOf(t, src), make([]int, 5+givers))
				for _, order := range schedules(d, givers+3, 500) {
					now := w
					next := make([]int, givers+1)
					total := 0
					for _, id := range order {
						then, kind := impl.Step(now, id)
						for _, n := range takenBy(now, then, id, kind) {
							b, i := n/100, n%100
							if b < 1 || b > givers || next[b] != i {
								t.Fatalf("%q by %s: %d is taken, and next are %v", src, clip(order), n, next)
							}
							next[b]++
							total++
						}
						now = then
					}
					met += total
				}
			}
		}
	}
	if met < 10000 {
		t.Errorf("%d are taken", met)
	}
}

// Those who wait to take are given in the order in which they came, and those who wait to give are taken from in theirs.
func TestWhoWaitsIsServedInOrder(t *testing.T) {
	d := newDrawer(153)
	for range 60 {
		w := parley(ret(0), impl.Chan{})
		for id := 1; id < mostBodies; id++ {
			w.Units = append(w.Units, impl.Unit{Name: "u" + impl.Digits(id), Regs: 3, Code: []impl.Tac{takes(1, 0), gives(0, 2), ret(0)}})
			w.Bodies[id] = newcomer(len(w.Units)-1, 1, 0, 60+id)
		}
		w.Units[1].Code = slices.Concat(slices.Repeat([]impl.Tac{gives(1, 9)}, 5), slices.Repeat([]impl.Tac{takes(10, 1)}, 5), []impl.Tac{ret(0)})
		for _, taken := range []bool{false, true} {
			order := d.Perm(5)
			for i := range order {
				order[i]++
			}
			w, _ = checkSteps(t, w, order...)
			for i, id := range order {
				if open := impl.Open(w); len(open) != 1+i {
					t.Fatalf("open are %v", open)
				}
				w, _ = checkStep(t, w, 0)
				value := topOf(&w, id).Regs[1]
				if taken {
					value = topOf(&w, 0).Regs[10] + 10 - id
				}
				if w.Bodies[id].Waits || value != 70 {
					t.Errorf("of %v %d is not served in its turn: %s", order, id, clip(w.Bodies))
				}
			}
		}
	}
}

func TestStepsOfNoOrder(t *testing.T) {
	for _, w := range someWorlds()[:40] {
		for _, order := range [][]int{nil, {}, make([]int, 0, 5)} {
			got, kinds := impl.Steps(w, order)
			if !sameWorld(got, w) || len(kinds) > 0 {
				t.Errorf("Steps(%s) by nothing: %s, %v", clip(w), clip(got), kinds)
			}
		}
	}
}

func TestStepsWithBodiesThatAreNotThere(t *testing.T) {
	w := worldOf(t, "func f() { print 7; } func main() { go f(); print 1; print 2; }")
	got, kinds := checkSteps(t, w, -1, 1, 0, 2, 1, math.MinInt, math.MaxInt, 0, 6, 1<<32, 1, 1, 0, -7, 0, 0)
	if !slices.Equal(kinds, []int{0, 0, 2, 0, 1, 0, 0, 1, 0, 0, 8, 0, 1, 0, 9, 0}) || !slices.Equal(got.Out, []int{7, 1, 2}) || !got.Over {
		t.Errorf("%v, %s", kinds, clip(got))
	}
}

// As many steps as there may be are done, and of a longer order no more than these.
func TestHowManySteps(t *testing.T) {
	w := worldOf(t, "func main() { let i = 0; while 1 { i = i + 1; print i; } }")
	for _, count := range []int{0, 1, 2, 1000, mostSteps - 1, mostSteps, mostSteps + 1, mostSteps + 2, 2 * mostSteps, 5 * mostSteps} {
		got, kinds := impl.Steps(w, make([]int, count))
		want := min(count, mostSteps)
		if len(kinds) != want || len(got.Out) != want || want > 0 && (got.Out[want-1] != want || kinds[want-1] != impl.KdPrint) {
			t.Errorf("by %d steps there are %d kinds, and %d are printed", count, len(kinds), len(got.Out))
		}
		if slices.ContainsFunc(kinds, func(kind int) bool { return kind != impl.KdPrint }) {
			t.Errorf("by %d steps the kinds are %s", count, clip(kinds))
		}
		for i, n := range got.Out {
			if n != i+1 {
				t.Fatalf("by %d steps %d is printed at %d", count, n, i)
			}
		}
	}
	// Steps that do nothing count, too.
	order := append(slices.Repeat([]int{-1}, mostSteps-1), 0, 0)
	if got, kinds := impl.Steps(w, order); len(kinds) != mostSteps || !slices.Equal(got.Out, []int{1}) || kinds[mostSteps-1] != impl.KdPrint {
		t.Errorf("%d kinds, %s", len(kinds), clip(got.Out))
	}
}

// talkDrawer draws programs whose bodies talk over a few channels.
type talkDrawer struct{ *drawer }

func newTalkDrawer(seed uint64) *talkDrawer { return &talkDrawer{newDrawer(seed)} }

func (d *talkDrawer) program() string {
	var out strings.Builder
	names := []string{"f", "g", "h"}
	for _, name := range names {
		out.WriteString("func " + name + "(a chan, b chan, n) { let x = n; ")
		d.lines(&out, 1+d.IntN(4), 2)
		out.WriteString("} ")
	}
	out.WriteString("func main() { let a = make(" + d.room() + "); let b = make(" + d.room() + "); let x = 1; let n = 3; ")
	for range 1 + d.IntN(4) {
		out.WriteString("go " + d.pick(names...) + "(" + d.channel() + ", " + d.channel() + ", " + impl.Digits(d.IntN(90)) + "); ")
	}
	d.lines(&out, 2+d.IntN(5), 2)
	out.WriteString("}")
	return out.String()
}

func (d *talkDrawer) room() string { return d.pick("0", "0", "0", "1", "1", "2", "8") }

func (d *talkDrawer) channel() string { return d.pick("a", "b") }

func (d *talkDrawer) value() string {
	return d.pick("x", "n", "x + 1", "n * 10 + x", "n - x", "3", "2147483647 + x")
}

func (d *talkDrawer) lines(out *strings.Builder, count, deep int) {
	for range count {
		d.line(out, deep)
	}
}

func (d *talkDrawer) line(out *strings.Builder, deep int) {
	block := func(head string) {
		out.WriteString(head + " { ")
		d.lines(out, 1+d.IntN(2), deep-1)
		out.WriteString("} ")
	}
	switch kind := d.IntN(24); {
	case kind < 5:
		out.WriteString("send " + d.channel() + ", " + d.value() + "; ")
	case kind < 10:
		out.WriteString("recv x, " + d.channel() + "; ")
	case kind < 12:
		out.WriteString("print " + d.value() + "; ")
	case kind == 12:
		out.WriteString("x = " + d.value() + "; ")
	case kind == 13 && d.IntN(3) == 0:
		out.WriteString("close " + d.channel() + "; ")
	case kind == 14 && d.IntN(3) == 0:
		out.WriteString("go f(" + d.channel() + ", b, x); ")
	case kind == 15 && d.IntN(4) == 0:
		out.WriteString(d.channel() + " = make(" + d.pick("0", "1", "x") + "); ")
	case deep <= 0:
		out.WriteString("print x; ")
	case kind < 18:
		block("while 1")
	case kind == 18:
		block("if x < n")
	default:
		d.choose(out, deep)
	}
}

func (d *talkDrawer) choose(out *strings.Builder, deep int) {
	block := func(head string) {
		out.WriteString(head + " { ")
		d.lines(out, d.IntN(2), deep-1)
		out.WriteString("} ")
	}
	out.WriteString("select { ")
	for range 1 + d.IntN(3) {
		if d.IntN(2) == 0 {
			block("case recv x, " + d.channel())
		} else {
			block("case send " + d.channel() + ", " + d.value())
		}
	}
	if d.IntN(4) == 0 {
		block("default")
	}
	out.WriteString("} ")
}

func (d *talkDrawer) order(count int) []int {
	var order []int
	for len(order) < count {
		id, run := d.IntN(mostBodies+1)-flag(d.IntN(40) == 0), 1+d.IntN(4)
		order = append(order, slices.Repeat([]int{id}, run)...)
	}
	return order[:count]
}

// Programs that talk, by drawn orders, held against the model at each step; promise 15 at all of them: what is over stays so.
func TestDrawnProgramsThatTalk(t *testing.T) {
	d := newTalkDrawer(154)
	kinds, codes, woken, stuck := map[int]int{}, map[int]int{}, 0, 0
	for range 500 {
		src := d.program()
		w := worldOf(t, src)
		for range 2 {
			now := w
			for range 60 {
				id := d.IntN(mostBodies+2) - 1
				if open := impl.Open(now); len(open) > 0 && d.IntN(8) > 0 {
					id = open[d.IntN(len(open))]
				} else if len(open) == 0 && d.IntN(3) == 0 {
					break
				}
				next, kind := checkStep(t, now, id)
				kinds[kind]++
				for other, b := range now.Bodies {
					woken += flag(b.Waits && !next.Bodies[other].Waits)
				}
				if now.Over && (kind != impl.KdNone || !sameWorld(now, next)) {
					t.Errorf("%q is over, and goes on", src)
				}
				if t.Failed() {
					t.Fatalf("%q", src)
				}
				now = next
			}
			stuck += flag(impl.Stuck(now))
			if now.Over {
				codes[now.Code]++
			}
		}
	}
	for kind := range impl.KdStuck {
		if kinds[kind] < 50 {
			t.Errorf("kind %d is met %d times: %v", kind, kinds[kind], kinds)
		}
	}
	for _, code := range []int{0, 2, 3, 4, 5} {
		if codes[code] < 3 {
			t.Errorf("code %d is met %d times: %v", code, codes[code], codes)
		}
	}
	if woken < 1000 || stuck < 50 {
		t.Errorf("woken %d, stuck %d", woken, stuck)
	}
}

// Steps by a part of an order, and then by the rest, are Steps by all of it.
func TestStepsByPartsOfAnOrder(t *testing.T) {
	d := newTalkDrawer(155)
	for range 150 {
		w := worldOf(t, d.program())
		order := d.order(90)
		all, kinds := checkSteps(t, w, order...)
		for _, cut := range []int{0, 1, d.IntN(90), d.IntN(90), 89, 90} {
			part, first := impl.Steps(w, order[:cut])
			rest, last := impl.Steps(part, order[cut:])
			if !sameWorld(rest, all) || !slices.Equal(slices.Concat(first, last), kinds) {
				t.Errorf("%s, cut at %d, is another:\n%s", clip(order), cut, unlikeWorlds(rest, all))
			}
		}
		again, more := impl.Steps(all, order)
		if all.Over && (!sameWorld(again, all) || slices.ContainsFunc(more, func(kind int) bool { return kind != impl.KdNone })) {
			t.Errorf("what is over goes on: %v, %s", more, clip(all))
		}
	}
	for _, w := range someWorlds()[:60] {
		order := d.order(8)
		all, kinds := checkSteps(t, w, order...)
		for cut := range order {
			part, first := impl.Steps(w, order[:cut])
			rest, last := impl.Steps(part, order[cut:])
			if !sameWorld(rest, all) || !slices.Equal(slices.Concat(first, last), kinds) {
				t.Errorf("%s, cut at %d, is another:\n%s", clip(order), cut, unlikeWorlds(rest, all))
			}
		}
	}
}

// eventDrawer draws worlds whose bodies come to what others see, and whose channels and waits are such that something comes of it.
type eventDrawer struct{ *localDrawer }

func newEventDrawer(seed uint64) *eventDrawer { return &eventDrawer{newLocalDrawer(seed)} }

func (d *eventDrawer) world() impl.World {
	w := d.localDrawer.world()
	if d.IntN(8) > 0 {
		for len(w.Chans) < 3 {
			w.Chans = append(w.Chans, d.channel())
		}
	}
	for i, u := range w.Units {
		for k := range u.Code[:len(u.Code)-1] {
			if d.IntN(3) == 0 && u.Code[k].Op != impl.TcLabel {
				w.Units[i].Code[k] = d.event(u.Regs)
			}
		}
	}
	for i := range w.Bodies {
		for k := range w.Bodies[i].Frames {
			regs := w.Bodies[i].Frames[k].Regs
			for r := range regs {
				if d.IntN(3) > 0 {
					regs[r] = d.IntN(len(w.Chans) + 2)
				}
			}
		}
		if d.IntN(3) > 0 {
			w.Bodies[i].Ticket, w.Bodies[i].Dst, w.Bodies[i].Two = d.IntN(4), d.IntN(4)-1, d.IntN(4)-1
		}
	}
	for i := range w.Chans {
		c := &w.Chans[i]
		c.Closed = c.Closed && d.IntN(2) == 0
		c.Takes, c.Gives = d.waitsIn(w), d.waitsIn(w)
	}
	return w
}

// event draws a place that others see, and that names no unit.
func (d *eventDrawer) event(regs int) impl.Tac {
	d.regs = regs
	switch d.IntN(8) {
	case 0:
		return show(d.register())
	case 1:
		return makes(d.register(), d.register())
	case 2:
		return shuts(d.register())
	case 3, 4:
		return gives(d.register(), d.register())
	case 5:
		return takes(d.register(), d.register())
	}
	return choose(d.register(), d.register(), d.IntN(2), d.argsOf(impl.TcSelect)...)
}

// waitsIn are waits of bodies in some order, of which about half wait still.
func (d *eventDrawer) waitsIn(w impl.World) []impl.Wait {
	var list []impl.Wait
	if d.IntN(2) == 0 {
		return nil
	}
	for _, body := range d.Perm(mostBodies)[:d.IntN(mostBodies+1)] {
		ticket := d.IntN(4)
		if body < len(w.Bodies) && d.IntN(2) == 0 {
			ticket = w.Bodies[body].Ticket
		}
		list = append(list, wt(body, ticket, d.worldDrawer.word(), d.IntN(4)))
	}
	return list
}

func TestDrawnWorldsStepByStep(t *testing.T) {
	d := newEventDrawer(156)
	kinds, codes, woken := map[int]int{}, map[int]int{}, 0
	for range 2000 {
		w := d.world()
		if len(worldFaults(w)) > 0 {
			t.Fatalf("%v: %s", worldFaults(w), clip(w))
		}
		for id := -1; id <= len(w.Bodies); id++ {
			next, kind := checkStep(t, w, id)
			kinds[kind]++
			if kind != impl.KdNone && next.Over {
				codes[next.Code]++
			}
			for other, b := range w.Bodies {
				woken += flag(b.Ticket != next.Bodies[other].Ticket)
			}
		}
		checkSteps(t, w, d.IntN(mostBodies), d.IntN(mostBodies), d.IntN(mostBodies), d.IntN(mostBodies))
		turned := cloneWorld(w)
		d.turn(&turned)
		for id := range turned.Bodies {
			checkStep(t, turned, id)
		}
	}
	for kind := range impl.KdStuck {
		if kinds[kind] < 30 {
			t.Errorf("kind %d is met %d times: %v", kind, kinds[kind], kinds)
		}
	}
	for _, code := range []int{0, 2, 3, 4, 6, 7} {
		if codes[code] < 10 {
			t.Errorf("code %d is met %d times: %v", code, codes[code], codes)
		}
	}
	if woken < 300 {
		t.Errorf("woken %d", woken)
	}
}

func TestStepsWithListsThatAreEmptyAndNil(t *testing.T) {
	someNumbers, someFrames, someWaits, someChans := []int{7}, make([]impl.Frame, 2), bodies(5), []impl.Chan{{Cap: -1}}
	for _, empty := range [][]int{nil, {}, make([]int, 0, 5), someNumbers[:0], someNumbers[1:]} {
		w := parley(gives(1, 9), impl.Chan{Cap: 1, Buf: empty})
		w.Out = empty
		wantActs(t, w, 0, impl.KdSend, func(w *impl.World) { w.Chans[0].Buf = []int{70} })
		w.Units[1].Code[0] = show(9)
		wantActs(t, w, 0, impl.KdPrint, func(w *impl.World) { w.Out = []int{70} })
		w.Units[1].Code[0] = takes(9, 1)
		w.Chans[0].Closed = true
		wantActs(t, w, 0, impl.KdRecv, func(w *impl.World) { set(w, 0, 9, 0) })
		go0 := begin("g")
		go0.Args = empty
		w = parley(go0)
		w.Bodies = w.Bodies[:1]
		w.Units = append(w.Units, impl.Unit{Name: "g", Code: []impl.Tac{label(0), jump(0)}})
		wantActs(t, w, 0, impl.KdGo, func(w *impl.World) { w.Bodies = append(w.Bodies, newcomer(2)) })
		w.Bodies = append(w.Bodies, impl.Body{Frames: []impl.Frame{{Unit: 2, Regs: empty}}, Waits: true, Ticket: 6, Dst: 0, Two: 0})
		w.Chans = []impl.Chan{{Takes: []impl.Wait{still(1, 0, 0)}}}
		w.Units[1].Code[0] = gives(1, 9)
		wantActs(t, w, 0, impl.KdSend, func(w *impl.World) { given(w, 1, 70, 0) })
		if got, kinds := impl.Steps(w, empty); len(kinds) > 0 || !sameWorld(got, w) {
			t.Errorf("%v, %s", kinds, clip(got))
		}
	}
	for _, empty := range [][]impl.Frame{nil, {}, make([]impl.Frame, 0, 5), someFrames[:0], someFrames[2:]} {
		w := parley(shuts(1), impl.Chan{Takes: []impl.Wait{still(1, 0, 4)}})
		w.Bodies[1] = impl.Body{Frames: empty, Ended: true, Ticket: 6, Dst: 0, Two: 0}
		wantActs(t, w, 0, impl.KdClose, func(w *impl.World) { w.Chans[0].Closed = true; given(w, 1, 0, 4) })
		wantIdle(t, w, 1)
		w.Bodies[1].Ended = false
		if got, kind := checkStep(t, w, 0); kind != impl.KdNone || !sameWorld(got, impl.World{}) {
			t.Errorf("%d, %s", kind, clip(got))
		}
	}
	for _, empty := range [][]impl.Wait{nil, {}, make([]impl.Wait, 0, 5), someWaits[:0], someWaits[1:]} {
		w := parley(gives(1, 9), impl.Chan{Takes: empty, Gives: empty})
		wantWaits(t, w, -1, -1, func(w *impl.World) { w.Chans[0].Gives = []impl.Wait{wt(0, 5, 70, 0)} })
		w.Units[1].Code[0] = shuts(1)
		wantActs(t, w, 0, impl.KdClose, func(w *impl.World) { w.Chans[0].Closed = true })
	}
	for _, empty := range [][]impl.Chan{nil, {}, make([]impl.Chan, 0, 5), someChans[:0], someChans[1:]} {
		w := parley(makes(9, 0))
		w.Chans = empty
		wantActs(t, w, 0, impl.KdMake, func(w *impl.World) { w.Chans = []impl.Chan{{}}; set(w, 0, 9, 1) })
		w.Units[1].Code[0] = takes(9, 1)
		wantOverWith(t, w, 0, impl.KdRecv, 7)
	}
	for _, empty := range [][]impl.Body{nil, {}, make([]impl.Body, 0, 5), make([]impl.Body, 5)[:0]} {
		w := wholeWorld()
		w.Bodies = empty
		checkStep(t, w, 0)
	}
	for _, empty := range [][]impl.Unit{nil, {}, make([]impl.Unit, 0, 5), threeUnits()[:0]} {
		w := wholeWorld()
		w.Units = empty
		checkStep(t, w, 0)
		w.Bodies = []impl.Body{{Ended: true}}
		wantIdle(t, w, 0)
	}
}

func TestStepsOfVeryLongWorlds(t *testing.T) {
	const far = 250000
	long := func(turn func(w *impl.World)) {
		t.Helper()
		w := wholeWorld()
		turn(&w)
		for _, id := range []int{0, far - 1} {
			if got, kind := impl.Step(w, id); kind != impl.KdNone || !sameWorld(got, impl.World{}) {
				t.Errorf("Step(%s, %d) = %s, %d", clip(w), id, clip(got), kind)
			}
		}
		if got, kinds := impl.Steps(w, make([]int, far)); len(kinds) != mostSteps || slices.Max(kinds) != impl.KdNone || !sameWorld(got, impl.World{}) {
			t.Errorf("Steps(%s) = %s, %s", clip(w), clip(got), clip(kinds))
		}
	}
	long(func(w *impl.World) { w.Bodies = append(w.Bodies, slices.Repeat([]impl.Body{{Ended: true}}, far)...) })
	long(func(w *impl.World) { w.Bodies = make([]impl.Body, far) })
	long(func(w *impl.World) { w.Bodies[0].Frames = slices.Repeat(w.Bodies[0].Frames[2:], far) })
	long(func(w *impl.World) { w.Bodies[0].Frames[0].Regs = make([]int, far) })
	long(func(w *impl.World) { w.Out = append(make([]int, far), turn) })
	long(func(w *impl.World) { w.Chans = make([]impl.Chan, far) })
	long(func(w *impl.World) { w.Chans = []impl.Chan{{Cap: 8, Buf: make([]int, far)}} })
	long(func(w *impl.World) {
		w.Chans = []impl.Chan{{Takes: make([]impl.Wait, far), Gives: make([]impl.Wait, far)}}
	})
	long(func(w *impl.World) { w.Units[0].Code[0].Args = make([]int, far) })
	long(func(w *impl.World) { w.Units = manyUnits(far) })
	// What is long and right.
	w := parley(show(9))
	w.Out = ramp(far)
	wantActs(t, w, 0, impl.KdPrint, func(w *impl.World) { w.Out = append(w.Out, 70) })
	name := strings.Repeat("name", far)
	w = parley(begin(name))
	w.Bodies = w.Bodies[:3]
	w.Units = append(w.Units, impl.Unit{Name: name, Regs: 1, Code: []impl.Tac{begin(name), ret(0)}})
	wantActs(t, w, 0, impl.KdGo, func(w *impl.World) { w.Bodies = append(w.Bodies, newcomer(2, 0)) })
}

// As many steps as there may be, of a long Out, and of bodies that talk, by turns and by a loop that nobody sees.
func TestStepsByVeryLongOrders(t *testing.T) {
	w := worldOf(t, "func main() { while 1 { print 5; } }")
	w.Out = make([]int, 250000)
	if got, kinds := impl.Steps(w, make([]int, mostSteps)); len(got.Out) != 250000+mostSteps || slices.Min(kinds) != impl.KdPrint {
		t.Errorf("%d are printed", len(got.Out))
	}
	w = worldOf(t, "func f(c chan) { let x = 0; while 1 { recv x, c; } } func main() { let c = make(0); let i = 0; go f(c); while 1 { send c, i; i = i + 1; } }")
	order := make([]int, mostSteps)
	for i := range order {
		order[i] = i % 2
	}
	got, _ := impl.Steps(w, order)
	if n := got.Bodies[1].Ticket + got.Bodies[0].Ticket; n < mostSteps/4 || len(got.Chans[0].Takes)+len(got.Chans[0].Gives) > 4 {
		t.Errorf("tickets are %d: %s", n, clip(got.Chans))
	}
	w = worldOf(t, "func main() { while 1 { } }")
	if got, kinds := impl.Steps(w, make([]int, 3000)); slices.Max(kinds) != impl.KdNone || !sameWorld(got, w) {
		t.Errorf("%s", clip(kinds))
	}
	order = order[:0]
	for i := range 300000 {
		order = append(order, math.MinInt+i, math.MaxInt-i)
	}
	if got, kinds := impl.Steps(w, order); len(kinds) != mostSteps || slices.Max(kinds) != impl.KdNone || !sameWorld(got, w) {
		t.Errorf("%s", clip(kinds))
	}
}

// The largest world that is right: a step of each of its bodies.
func TestStepsOfTheLargestWorld(t *testing.T) {
	var units []impl.Unit
	for i := range mostUnits {
		x := choose(249, 248, 0, 1, 247, 0, 2, 246, 245, 2, 244, 243)
		units = append(units, impl.Unit{Name: "u" + impl.Digits(i), Regs: 250, Code: append(slices.Repeat([]impl.Tac{place(impl.TcAdd, 249, 249, 248)}, 898), x, ret(249))})
	}
	w := impl.World{Units: units, Out: make([]int, 10000)}
	for id := range mostBodies {
		var frames []impl.Frame
		for k := range mostFrames {
			frames = append(frames, frame((id+k)%mostUnits, 0, 249, put(ramp(250), 247, 7, 246, 8, 244, 8)...))
		}
		w.Bodies = append(w.Bodies, impl.Body{Frames: frames, Ticket: mostSteps - 1, Value: greatest, Case: mostSteps, Dst: 249, Two: 249})
	}
	for range mostChans {
		w.Chans = append(w.Chans, impl.Chan{Cap: mostCap, Buf: ramp(mostCap), Takes: bodies(0, 1, 2, 3, 4, 5), Gives: bodies(5, 4, 3, 2, 1, 0)})
	}
	for id := range w.Bodies {
		got, kind := impl.Step(w, id)
		if kind != impl.KdSelect || topOf(&got, id).Pc != 899 || !slices.Equal(got.Chans[6].Buf, ramp(8)[1:]) || topOf(&got, id).Regs[249] != 0 || topOf(&got, id).Regs[248] != 100 {
			t.Errorf("body %d: kind %d, %s", id, kind, clip(got.Bodies[id]))
		}
		wantLittleTurned(t, w, got, id, kind)
	}
}

// stepWorlds are some of which a body does something of each kind, and some of which none does.
func stepWorlds() []impl.World {
	d := newEventDrawer(157)
	out := someWorlds()[:30]
	for range 100 {
		w := d.world()
		turned := cloneWorld(w)
		d.turn(&turned)
		out = append(out, w, turned)
	}
	for _, x := range append(seenPlaces(), ret(3)) {
		out = append(out, amongBodies(aloneIn(beside(number(2, 70), into(1, call("f", 2, 3, 4)), x, ret(0)), frame(1, 0, -1, talkRegs()...)))[2])
		w := amongBodies(aloneIn(beside(number(2, 70), x, ret(0)), frame(1, 0, -1, talkRegs()...)))[0]
		w.Bodies, w.Chans = w.Bodies[:3], w.Chans[:5]
		out = append(out, cloneWorld(w))
	}
	for _, how := range wakings() {
		w := parley(how.x, how.c)
		w.Bodies[2].Dst, w.Bodies[2].Two = 0, 1
		out = append(out, w)
	}
	waits := impl.Chan{Takes: []impl.Wait{gone(1, 1, 1)}, Gives: []impl.Wait{gone(0, 1, 1), gone(2, 1, 1)}}
	return append(out, parley(gives(1, 9), waits), parley(takes(9, 1), waits), parley(choose(4, 5, 0, 1, 1, 0, 2, 1, 9, 2, 2, 9), waits, cloneChan(waits)), parley(shuts(1), impl.Chan{Takes: []impl.Wait{still(1, 0, 0), still(4, 0, 1)}}))
}

func TestStepsWriteIntoNothing(t *testing.T) {
	met := map[int]int{}
	for _, w := range stepWorlds() {
		roomy := roomyWorld(w)
		kept := wholeOf(roomy)
		for id := -1; id <= len(w.Bodies); id++ {
			one, kind := impl.Step(roomy, id)
			other, kindOther := impl.Step(w, id)
			met[kind]++
			if kind != kindOther || !sameWorld(one, other) {
				t.Errorf("a step of %s, %d is another with room behind its lists", clip(w), id)
			}
			spoilWorld(one)
			order, whole := withRoom([]int{id, 0, id, 1, id})
			keptOrder := slices.Clone(whole)
			many, kinds := impl.Steps(roomy, order)
			spoilWorld(many)
			spoil(kinds)
			if !sameWorld(wholeOf(roomy), kept) || !slices.Equal(whole, keptOrder) {
				t.Fatalf("%s is written into, by %d", clip(w), id)
			}
		}
	}
	for kind := range impl.KdStuck {
		if met[kind] < 5 {
			t.Errorf("kind %d is met %d times", kind, met[kind])
		}
	}
}

// What one answer holds is its own, also where the world is told as it was: no two of its lists share any memory, nor with another answer or with what was given, and its texts do not lie in what was given.
func TestEachAnswerOfStepsIsItsOwn(t *testing.T) {
	met := map[bool]int{}
	for _, given := range stepWorlds() {
		w := cloneWorld(given)
		for i := range w.Units {
			w.Units[i].Name = strings.Clone(w.Units[i].Name)
			for k := range w.Units[i].Code {
				w.Units[i].Code[k].S = strings.Clone(w.Units[i].Code[k].S)
			}
		}
		for id := -1; id <= len(w.Bodies); id++ {
			order := []int{id, id, 0, 1, 2}
			one, kind := impl.Step(w, id)
			other, _ := impl.Step(w, id)
			many, kinds := impl.Steps(w, order)
			same, _ := impl.Steps(w, nil)
			met[kind != impl.KdNone]++
			if !apart(slices.Concat(piecesOf(one), piecesOf(other), piecesOf(many), piecesOf(same), piecesOf(w), []piece{pieceOf(kinds), pieceOf(order)})) {
				t.Fatalf("lists behind a step of %s, %d share memory", clip(w), id)
			}
			if !apart(slices.Concat(textsOfUnits(one.Units), textsOfUnits(many.Units), textsOfUnits(same.Units), textsOfUnits(w.Units))) {
				t.Fatalf("texts behind a step of %s, %d lie in what was given", clip(w), id)
			}
			kept, keptMany, keptKinds, keptWorld := cloneWorld(other), cloneWorld(many), slices.Clone(kinds), cloneWorld(w)
			spoilWorld(one)
			spoilWorld(same)
			if again, _ := impl.Step(w, id); !sameWorld(other, kept) || !sameWorld(again, kept) || !sameWorld(w, keptWorld) || !sameWorld(many, keptMany) {
				t.Fatalf("a step of %s, %d is not its own", clip(w), id)
			}
			spoilWorld(w)
			spoil(order)
			if !sameWorld(other, kept) || !sameWorld(many, keptMany) || !slices.Equal(kinds, keptKinds) {
				t.Fatalf("a step of %s, %d is turned with what was given", clip(keptWorld), id)
			}
			w = keptWorld
			for i := range w.Units {
				w.Units[i].Name = strings.Clone(w.Units[i].Name)
			}
		}
	}
	if met[true] < 100 || met[false] < 100 {
		t.Errorf("met %v", met)
	}
}

func TestStepsAnswerTheSameAgain(t *testing.T) {
	list := stepWorlds()
	for i, w := range list {
		other := list[(i+1)%len(list)]
		for id := range w.Bodies {
			one, kind := impl.Step(w, id)
			many, kinds := impl.Steps(w, []int{id, 0, id})
			impl.Step(other, 0)
			impl.Steps(other, []int{0, 1, 2})
			again, kindAgain := impl.Step(w, id)
			manyAgain, kindsAgain := impl.Steps(w, []int{id, 0, id})
			if kind != kindAgain || !sameWorld(one, again) || !slices.Equal(kinds, kindsAgain) || !sameWorld(many, manyAgain) {
				t.Errorf("Step(%s, %d) is not the same again", clip(w), id)
			}
		}
	}
}

func TestStepsSideBySide(t *testing.T) {
	list := stepWorlds()
	var group sync.WaitGroup
	wrong := make([]int, 8)
	for worker := range wrong {
		group.Go(func() {
			for _, w := range list {
				for id := range w.Bodies {
					got, kind := impl.Step(w, id)
					want, wantKind := wantStep(w, id)
					wrong[worker] += flag(kind != wantKind || !sameWorld(got, want))
					many, kinds := impl.Steps(w, []int{id, 0})
					wantMany, wantKinds := wantSteps(w, []int{id, 0})
					wrong[worker] += flag(!slices.Equal(kinds, wantKinds) || !sameWorld(many, wantMany))
				}
			}
		})
	}
	group.Wait()
	if !slices.Equal(wrong, make([]int, 8)) {
		t.Errorf("answers side by side are others: %v", wrong)
	}
}
