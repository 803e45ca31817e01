package tests

import (
	"math"
	"slices"
	"strings"
	"sync"
	"testing"

	"loop.example/g00286/impl"
)

// checkAhead holds what is told against the model, and asks what holds of each answer.
func checkAhead(t *testing.T, w impl.World, id int) (impl.World, impl.Tac, bool) {
	t.Helper()
	kept := cloneWorld(w)
	got, tac, ok := impl.Ahead(w, id)
	want, wantTac, wantOk := wantAhead(kept, id)
	if ok != wantOk || !sameTac(tac, wantTac) || !sameWorld(got, want) {
		t.Errorf("Ahead(%s, %d) = %s, %+v, %v, not %s, %+v, %v", clip(w), id, clip(got), tac, ok, clip(want), wantTac, wantOk)
	}
	if !sameWorld(w, kept) {
		t.Errorf("Ahead(%s, %d) writes into what it was given", clip(kept), id)
	}
	if ok {
		wantOthersAsTheyWere(t, kept, got, id)
		wantToldAgain(t, got, id, tac)
	} else if !sameTac(tac, impl.Tac{}) || !sameWorld(got, kept) {
		t.Errorf("Ahead(%s, %d) is false, with %s, %+v", clip(w), id, clip(got), tac)
	}
	return got, tac, ok
}

// wantOthersAsTheyWere is promise 14: of a world nothing is turned but the frames of that body.
func wantOthersAsTheyWere(t *testing.T, was, now impl.World, id int) {
	t.Helper()
	now = cloneWorld(now)
	if id >= len(now.Bodies) || id >= len(was.Bodies) {
		t.Fatalf("of %s there is no body %d", clip(now), id)
	}
	now.Bodies[id].Frames = was.Bodies[id].Frames
	if !sameWorld(was, now) {
		t.Errorf("body %d of %s turns others: %s", id, clip(was), clip(now))
	}
}

func wantToldAgain(t *testing.T, w impl.World, id int, tac impl.Tac) {
	t.Helper()
	if !impl.WorldOk(w) {
		t.Errorf("ahead is %s, which is not right: %v", clip(w), worldFaults(w))
	}
	again, tacAgain, ok := impl.Ahead(w, id)
	if !ok || !sameTac(tac, tacAgain) || !sameWorld(w, again) {
		t.Errorf("ahead of %s, %+v is another: %s, %+v, %v", clip(w), tac, clip(again), tacAgain, ok)
	}
}

// wantTold is of a body that comes to that place with these frames.
func wantTold(t *testing.T, w impl.World, id int, place impl.Tac, frames ...impl.Frame) {
	t.Helper()
	got, tac, ok := checkAhead(t, w, id)
	if !ok || !sameTac(tac, place) {
		t.Errorf("Ahead(%s, %d) tells %+v, %v, not %+v", clip(w), id, tac, ok, place)
	}
	if !slices.EqualFunc(got.Bodies[id].Frames, frames, sameFrame) {
		t.Errorf("Ahead(%s, %d) has the frames\n%+v, not\n%+v", clip(w), id, got.Bodies[id].Frames, frames)
	}
}

func wantNothingTold(t *testing.T, w impl.World, id int) {
	t.Helper()
	got, tac, ok := checkAhead(t, w, id)
	if ok || !sameTac(tac, impl.Tac{}) || !sameWorld(got, w) {
		t.Errorf("Ahead(%s, %d) = %s, %+v, %v", clip(w), id, clip(got), tac, ok)
	}
}

func place(op, d, a, b int) impl.Tac { return impl.Tac{Op: op, D: d, A: a, B: b} }

func number(d, n int) impl.Tac { return impl.Tac{Op: impl.TcNum, D: d, N: n} }

func show(a int) impl.Tac { return impl.Tac{Op: impl.TcPrint, A: a} }

// into is the call with its value for that register.
func into(d int, call impl.Tac) impl.Tac {
	call.D = d
	return call
}

func frame(unit, pc, dst int, regs ...int) impl.Frame {
	return impl.Frame{Unit: unit, Pc: pc, Regs: regs, Dst: dst}
}

// aloneIn is a world of these units with one body, of these frames.
func aloneIn(units []impl.Unit, frames ...impl.Frame) impl.World {
	return impl.World{Units: units, Bodies: []impl.Body{{Frames: frames, Ticket: 1, Dst: -1, Two: -1}}}
}

// aloneAt is one body at the beginning of a unit of these places, its registers these.
func aloneAt(regs []int, code ...impl.Tac) impl.World {
	return aloneIn([]impl.Unit{{Name: "main", Regs: len(regs), Code: code}}, frame(0, 0, -1, slices.Clone(regs)...))
}

// amongBodies are worlds of six bodies, by which of them is body 0 of that world; of the others some have ended or wait. They have channels and Out, too.
func amongBodies(w impl.World) map[int]impl.World {
	list := map[int]impl.World{}
	for id := range mostBodies {
		full := cloneWorld(w)
		full.Bodies = nil
		for other := range mostBodies {
			b := cloneWorld(w).Bodies[0]
			b.Ticket, b.Value, b.Case = 4+other, -other, other
			if other != id {
				b.Ended, b.Waits, b.Dst, b.Two = other%2 == 0, other%3 == 0, other, 0
			}
			full.Bodies = append(full.Bodies, b)
		}
		full.Chans = []impl.Chan{{Cap: 2, Buf: []int{4}}, {Takes: bodies(1, 3)}, {Cap: 1, Closed: true}, {Cap: 1, Buf: []int{6}, Gives: bodies(0, 5)}, {}, {}, {}, {Cap: 8, Buf: ramp(8)}}
		full.Out, full.Code = []int{5, -6, 7}, 3
		list[id] = full
	}
	return list
}

// wantToldOfEach is wantTold of a world with one body, and of that body among others.
func wantToldOfEach(t *testing.T, w impl.World, place impl.Tac, frames ...impl.Frame) {
	t.Helper()
	wantTold(t, w, 0, place, frames...)
	for id, full := range amongBodies(w) {
		wantTold(t, full, id, place, frames...)
	}
}

func wantNothingToldOfEach(t *testing.T, w impl.World) {
	t.Helper()
	wantNothingTold(t, w, 0)
	for id, full := range amongBodies(w) {
		wantNothingTold(t, full, id)
	}
}

func TestLocalConstant(t *testing.T) {
	if impl.MaxLocal != mostLocal {
		t.Error(impl.MaxLocal)
	}
}

func TestAheadOfAProgram(t *testing.T) {
	list := parsed(t, "func two(a) { return a + a; } func main() { let x = two(4); print x; return two(x); }")
	w, _ := impl.WorldNew(impl.Lower(list, false))
	// main has x, 4, two(4), two(x) and the 0 of its end.
	wantTold(t, w, 0, show(0), frame(1, 4, -1, 8, 4, 8, 0, 0))
	v, _, _ := impl.Ahead(w, 0)
	v.Bodies[0].Frames[0].Pc++
	wantTold(t, v, 0, ret(3), frame(1, 6, -1, 8, 4, 8, 16, 0))
	if len(v.Out) > 0 || w.Bodies[0].Frames[0].Pc != 0 {
		t.Errorf("%s, of %s", clip(v), clip(w))
	}
}

func TestNothingIsToldOfWorldsThatAreNotRight(t *testing.T) {
	wantTold(t, wholeWorld(), 0, ret(249), frame(1, 3, -1, put(ramp(250), 16, 100)...))
	for name, turn := range worldTurns() {
		w := wholeWorld()
		turn(&w)
		if faults := worldFaults(w); !slices.Equal(faults, []string{name}) {
			t.Fatalf("%s: %v", name, faults)
		}
		for id := -1; id <= len(w.Bodies); id++ {
			wantNothingTold(t, w, id)
		}
	}
	for _, w := range []impl.World{{}, {Bodies: make([]impl.Body, 1)}, {Bodies: make([]impl.Body, 3), Units: threeUnits()}, {Units: threeUnits()}, {Over: true, Code: 5}} {
		for id := -1; id <= 3; id++ {
			wantNothingTold(t, w, id)
		}
	}
}

// Each number of a world is put to each edge by itself: what is amiss then is told by nobody.
func TestAheadOfEachNumberOfAWorld(t *testing.T) {
	w := wholeWorld()
	met := map[bool]int{}
	for i, to := range numbersOf(&w) {
		kept := *to
		for _, n := range []int{math.MinInt, least - 1, least, -2, -1, 0, 1, 2, 3, 6, 7, 249, 250, 100000, 100001, 1 << 32, greatest, greatest + 1, math.MaxInt} {
			*to = n
			_, _, ok := checkAhead(t, w, i%5-1)
			met[ok]++
			_, _, ok = checkAhead(t, w, 0)
			met[ok]++
		}
		*to = kept
	}
	if met[true] < 100 || met[false] < 100 {
		t.Errorf("met %v", met)
	}
}

func TestNothingIsToldOfBodiesThatAreNotOpen(t *testing.T) {
	w := aloneAt([]int{3}, show(0), ret(0))
	wantTold(t, w, 0, show(0), frame(0, 0, -1, 3))
	w.Over = true
	wantNothingTold(t, w, 0)
	for flags := range 4 {
		w := aloneAt([]int{3}, number(0, 4), show(0), ret(0))
		w.Bodies[0].Ended, w.Bodies[0].Waits = flags&1 != 0, flags&2 != 0
		if flags == 0 {
			wantTold(t, w, 0, show(0), frame(0, 1, -1, 4))
		} else {
			wantNothingTold(t, w, 0)
		}
		w.Over = true
		wantNothingTold(t, w, 0)
	}
	// All flags of four bodies: whether one is open is its own.
	for flags := range 1 << 8 {
		w := aloneAt([]int{3}, number(0, 4), show(0), ret(0))
		w.Bodies = slices.Repeat(w.Bodies, 4)
		w = cloneWorld(w)
		for id := range w.Bodies {
			w.Bodies[id].Ended, w.Bodies[id].Waits = flags>>(2*id)&1 != 0, flags>>(2*id+1)&1 != 0
		}
		for id, b := range w.Bodies {
			if b.Ended || b.Waits {
				wantNothingTold(t, w, id)
			} else {
				wantTold(t, w, id, show(0), frame(0, 1, -1, 4))
			}
		}
	}
	w = smallWorld()
	w.Bodies[0] = impl.Body{Ended: true}
	wantNothingTold(t, w, 0)
}

func TestBodiesThatAWorldHasNot(t *testing.T) {
	for count := 1; count <= mostBodies; count++ {
		w := aloneAt([]int{3}, show(0), ret(0))
		w.Bodies = slices.Repeat(w.Bodies, count)
		w = cloneWorld(w)
		for _, id := range []int{math.MinInt, least, -6, -2, -1, count, count + 1, 6, 7, 256, 1 << 16, 1 << 32, 1<<32 + count - 1, -(1 << 32), greatest, math.MaxInt} {
			if id < 0 || id >= count {
				wantNothingTold(t, w, id)
			}
		}
		wantTold(t, w, count-1, show(0), frame(0, 0, -1, 3))
	}
}

// seenPlaces are places of each op that others see, in a unit of at least 12 registers, with the unit f of 3 Params beside it.
func seenPlaces() []impl.Tac {
	var out []impl.Tac
	for _, f := range tacForms {
		if f.op >= impl.TcPrint && f.op <= impl.TcSelect {
			out = append(out, ordinaryTac(f))
		}
	}
	return append(out, show(0), show(11), begin("main"), begin("f", 11, 11, 0), choose(0, 0, 0, 1, 0, 0), choose(11, 10, 1, 2, 9, 8, 2, 7, 6, 2, 5, 4), choose(3, 3, 0, 1, 3, 0, 1, 3, 0), place(impl.TcSend, 0, 0, 0), place(impl.TcMake, 5, 5, 0), place(impl.TcRecv, 11, 11, 0))
}

// twelveRegs are words of which some are numbers of channels, and some are far from it.
func twelveRegs() []int { return []int{0, 1, -1, 2, 8, 9, 3, greatest, least, 4, 5, 100000} }

// beside is a unit of these places and 12 registers, named main, with f of 3 Params beside it.
func beside(code ...impl.Tac) []impl.Unit {
	return []impl.Unit{{Name: "f", Params: 3, Regs: 4, Code: []impl.Tac{ret(2)}}, {Name: "main", Regs: 12, Code: code}}
}

func TestPlacesThatOthersSee(t *testing.T) {
	regs := twelveRegs()
	for _, x := range seenPlaces() {
		wantToldOfEach(t, aloneIn(beside(x, ret(0)), frame(1, 0, -1, regs...)), x, frame(1, 0, -1, regs...))
		// What stands behind it, and what stands ahead of where the body is, is not done.
		code := []impl.Tac{number(2, 70), number(3, 80), x, number(4, 90), x, ret(0)}
		for pc, want := range [][]int{put(regs, 2, 70, 3, 80), put(regs, 3, 80), regs, put(regs, 4, 90), regs} {
			at := []int{2, 2, 2, 4, 4}[pc]
			wantToldOfEach(t, aloneIn(beside(code...), frame(1, pc, -1, regs...)), x, frame(1, at, -1, want...))
		}
	}
}

// The frames below one that comes to a place that others see are as they were.
func TestPlacesThatOthersSeeInFramesAbove(t *testing.T) {
	regs := twelveRegs()
	for _, x := range seenPlaces() {
		for count := 1; count <= mostFrames; count++ {
			var frames []impl.Frame
			for i := range count {
				frames = append(frames, frame(1, i%3, i-1, put(regs, 5, i)...))
			}
			frames[count-1].Pc = 1
			w := aloneIn(beside(number(0, 6), number(1, 7), x, ret(0)), frames...)
			frames = cloneFrames(frames)
			frames[count-1].Pc = 2
			frames[count-1].Regs[1] = 7
			wantTold(t, w, 0, x, frames...)
		}
	}
}

// Each op that others see is told behind each one that nobody sees.
func TestPlacesThatOthersSeeBehindOthers(t *testing.T) {
	regs := twelveRegs()
	for _, x := range seenPlaces() {
		for _, f := range tacForms {
			if f.op > impl.TcCall {
				continue
			}
			w := aloneIn(beside(number(2, 5), ordinaryTac(f), label(aroundLabel), x, ret(0)), frame(1, 0, -1, regs...))
			if f.op == impl.TcLabel {
				w.Units[1].Code[2] = label(aroundLabel + 1)
			}
			got, tac, ok := checkAhead(t, w, 0)
			if !ok || !sameTac(tac, x) || len(got.Bodies[0].Frames) != 1 || got.Bodies[0].Frames[0].Pc != 3 {
				t.Errorf("%+v behind %+v: %s, %+v, %v", x, ordinaryTac(f), clip(got.Bodies), tac, ok)
			}
		}
	}
}

// Nothing of what is told is done, even where it would end the world, or begin what there is no room for.
func TestNothingOfWhatIsToldIsDone(t *testing.T) {
	regs := twelveRegs()
	for _, x := range seenPlaces() {
		full := amongBodies(aloneIn(beside(x, ret(0)), frame(1, 0, -1, regs...)))[3]
		for id := range full.Bodies {
			full.Bodies[id].Ended, full.Bodies[id].Waits = false, false
		}
		for id := range full.Bodies {
			got, tac, ok := checkAhead(t, full, id)
			if !ok || !sameTac(tac, x) || !sameWorld(got, full) {
				t.Errorf("%+v is done: %s, %+v, %v", x, clip(got), tac, ok)
			}
		}
	}
}

// wordPairs are pairs of words about the borders.
func wordPairs() [][2]int {
	list := []int{least, least + 1, least / 2, -65536, -65535, -7, -2, -1, 0, 1, 2, 3, 7, 46340, 46341, 65535, 65536, greatest / 2, greatest/2 + 1, greatest - 1, greatest}
	var out [][2]int
	for _, a := range list {
		for _, b := range list {
			out = append(out, [2]int{a, b})
		}
	}
	return out
}

// wantReckoned is of a place behind which its register has that word, and the others have what they had.
func wantReckoned(t *testing.T, regs []int, x impl.Tac, word int) {
	t.Helper()
	end := show(0)
	wantTold(t, aloneAt(regs, x, end, ret(0)), 0, end, frame(0, 1, -1, put(regs, x.D, word)...))
}

func TestWordsOfTwo(t *testing.T) {
	for _, pair := range wordPairs() {
		a, b := pair[0], pair[1]
		for op, word := range map[int]int{impl.TcAdd: wrap(a + b), impl.TcSub: wrap(a - b), impl.TcMul: wrap(a * b), impl.TcLess: flag(a < b), impl.TcSame: flag(a == b)} {
			wantReckoned(t, []int{a, b, 77}, place(op, 2, 0, 1), word)
			wantReckoned(t, []int{77, b, a}, place(op, 1, 2, 1), word)
			wantReckoned(t, []int{a, 78, b}, place(op, 0, 0, 2), word)
		}
		for op, word := range map[int]int{impl.TcAdd: wrap(a + a), impl.TcSub: 0, impl.TcMul: wrap(a * a), impl.TcLess: 0, impl.TcSame: 1} {
			wantReckoned(t, []int{a, b}, place(op, 0, 0, 0), word)
			wantReckoned(t, []int{a, b}, place(op, 1, 0, 0), word)
		}
	}
	for _, c := range []struct{ op, a, b, word int }{
		{impl.TcAdd, greatest, 1, least}, {impl.TcAdd, least, -1, greatest}, {impl.TcAdd, least, least, 0}, {impl.TcAdd, greatest, greatest, -2}, {impl.TcAdd, 40, 2, 42},
		{impl.TcSub, least, 1, greatest}, {impl.TcSub, greatest, -1, least}, {impl.TcSub, 0, least, least}, {impl.TcSub, 2, 40, -38},
		{impl.TcMul, 65536, 65536, 0}, {impl.TcMul, 65536, 32768, least}, {impl.TcMul, least, -1, least}, {impl.TcMul, greatest, greatest, 1}, {impl.TcMul, 46341, 46341, -2147479015}, {impl.TcMul, -6, 7, -42},
		{impl.TcLess, least, greatest, 1}, {impl.TcLess, greatest, least, 0}, {impl.TcLess, 3, 3, 0}, {impl.TcLess, -1, 0, 1}, {impl.TcLess, 0, -1, 0},
		{impl.TcSame, least, greatest, 0}, {impl.TcSame, 3, 3, 1}, {impl.TcSame, 0, 0, 1}, {impl.TcSame, -1, 1, 0},
	} {
		wantReckoned(t, []int{c.a, c.b, 77}, place(c.op, 2, 0, 1), c.word)
	}
}

func TestNumbersAndCopies(t *testing.T) {
	for _, n := range words() {
		if n < least || n > greatest {
			wantNothingTold(t, aloneAt([]int{1, 2, 3}, number(1, n), show(0), ret(0)), 0)
			continue
		}
		for d := range 3 {
			wantReckoned(t, []int{51, 52, 53}, number(d, n), n)
			for a := range 3 {
				wantReckoned(t, put([]int{51, 52, 53}, a, n), place(impl.TcCopy, d, a, 0), n)
			}
		}
	}
	for _, d := range []int{0, 1, 125, 248, 249} {
		wantReckoned(t, ramp(250), number(d, -5), -5)
		wantReckoned(t, ramp(250), place(impl.TcCopy, d, 249-d, 0), 349-d)
		wantReckoned(t, ramp(250), place(impl.TcMul, d, 249-d, d), (349-d)*(100+d))
	}
}

// Places are done one behind the other: what one sets the next one reads.
func TestPlacesOneBehindTheOther(t *testing.T) {
	w := aloneAt([]int{9, 9, 9, 9, 9},
		number(0, 6), number(1, 7), place(impl.TcMul, 2, 0, 1), place(impl.TcCopy, 3, 2, 0), place(impl.TcSub, 3, 3, 0), place(impl.TcAdd, 0, 0, 0), label(5),
		place(impl.TcLess, 1, 0, 3), place(impl.TcSame, 4, 4, 4), show(3), number(0, 1), ret(0))
	wantToldOfEach(t, w, show(3), frame(0, 9, -1, 12, 1, 42, 36, 1))
}

func TestLabelsAndJumps(t *testing.T) {
	for _, n := range []int{0, 1, 7, 899, 900} {
		for _, other := range []int{2, 3, 898} {
			// Forward, over places that are not done.
			w := aloneAt([]int{5, 6}, number(1, 1), jump(n), number(0, 70), label(other), place(impl.TcPeek, 0, 0, 0), label(n), number(1, 2), show(1), ret(0))
			wantToldOfEach(t, w, show(1), frame(0, 7, -1, 5, 2))
			// Back, to the first place, and to one in the middle.
			w = aloneAt([]int{5, 6}, label(n), show(0), ret(0), jump(n))
			w.Bodies[0].Frames[0].Pc = 3
			wantToldOfEach(t, w, show(0), frame(0, 1, -1, 5, 6))
			w = aloneAt([]int{5, 6}, jump(other), label(n), number(0, 8), show(0), label(other), number(1, 9), jump(n))
			wantToldOfEach(t, w, show(0), frame(0, 3, -1, 8, 9))
		}
	}
	// Labels that are met turn nothing.
	w := aloneAt([]int{5, 6}, label(3), label(0), label(900), show(1), ret(0))
	for pc := range 4 {
		w.Bodies[0].Frames[0].Pc = pc
		wantToldOfEach(t, w, show(1), frame(0, 3, -1, 5, 6))
	}
}

// Labels are those of the frame's own unit.
func TestLabelsOfOtherUnits(t *testing.T) {
	code := func(pads int) []impl.Tac {
		return slices.Concat([]impl.Tac{jump(4)}, slices.Repeat([]impl.Tac{number(0, 1)}, pads), []impl.Tac{label(4), show(1), ret(0)})
	}
	var units []impl.Unit
	for i := range 4 {
		units = append(units, impl.Unit{Name: "u" + impl.Digits(i), Regs: 2, Code: code(3 * (i + 1))})
	}
	for i := range 4 {
		wantToldOfEach(t, aloneIn(units, frame(3-i, 1, -1, 7, 8), frame(i, 0, -1, 5, 6)), show(1), frame(3-i, 1, -1, 7, 8), frame(i, 3*(i+1)+2, -1, 5, 6))
	}
}

func TestGoingWhereARegisterIsZero(t *testing.T) {
	for _, n := range []int{0, 1, -1, 2, 256, 65536, least, greatest} {
		at, over := 4, 0
		if n != 0 {
			at, over = 2, 70
		}
		for _, name := range []int{0, 4, 900} {
			forward := []impl.Tac{unless(1, name), number(0, 70), show(0), label(name), show(2), ret(0)}
			w := aloneAt([]int{0, n, 7}, forward...)
			wantToldOfEach(t, w, forward[at], frame(0, at, -1, over, n, 7))
			back := []impl.Tac{label(name), show(0), ret(0), unless(1, name), number(0, 70), show(2), ret(0)}
			w = aloneAt([]int{0, n, 7}, back...)
			w.Bodies[0].Frames[0].Pc = 3
			if n == 0 {
				wantToldOfEach(t, w, show(0), frame(0, 1, -1, 0, n, 7))
			} else {
				wantToldOfEach(t, w, show(2), frame(0, 5, -1, 70, n, 7))
			}
		}
	}
	// It is A that is asked, whatever the others have.
	for a := range 3 {
		regs := put([]int{1, 1, 1}, a, 0)
		for asked := range 3 {
			w := aloneAt(regs, unless(asked, 9), show(0), label(9), show(1), ret(0))
			if asked == a {
				wantTold(t, w, 0, show(1), frame(0, 3, -1, regs...))
			} else {
				wantTold(t, w, 0, show(0), frame(0, 1, -1, regs...))
			}
		}
	}
}

// callUnits are main, which calls f with these Args for register 7, and f, which comes to what others see at once.
func callUnits(params, regs int, args ...int) []impl.Unit {
	return []impl.Unit{
		{Name: "g", Regs: 3, Code: []impl.Tac{ret(0)}},
		{Name: "main", Regs: 12, Code: []impl.Tac{number(11, 5), into(7, call("f", args...)), number(2, 6), show(7), ret(0)}},
		{Name: "f", Params: params, Regs: regs, Code: []impl.Tac{begin("g"), ret(0)}},
	}
}

func TestCallsBeginAFrame(t *testing.T) {
	regs := twelveRegs()
	lists := [][]int{{}, {3}, {11}, {4, 8}, {8, 4}, {7, 7}, {1, 2, 3}, {3, 2, 1}, {8, 7, 11, 0}, {5, 5, 5, 5}}
	for _, args := range lists {
		for _, more := range []int{0, 1, 2, 7, 250 - len(args)} {
			count := len(args) + more
			if count == 0 {
				continue
			}
			below := put(regs, 11, 5)
			want := make([]int, count)
			for i, r := range args {
				want[i] = below[r]
			}
			w := aloneIn(callUnits(len(args), count, args...), frame(1, 0, -1, regs...))
			wantToldOfEach(t, w, begin("g"), frame(1, 2, -1, below...), frame(2, 0, 7, want...))
		}
	}
}

// A call goes to the unit of that name, wherever it stands, and may be one of itself.
func TestWhichUnitIsCalled(t *testing.T) {
	for _, count := range []int{1, 2, 5, 80} {
		for _, at := range []int{0, count / 2, count - 1} {
			for _, from := range []int{0, count - 1} {
				units := manyUnits(count)
				for i := range units {
					units[i].Params, units[i].Code = 1, []impl.Tac{show(0), call(units[at].Name, 3), ret(0)}
				}
				w := aloneIn(units, frame(from, 1, -1, 1, 2, 3, 4, 5))
				wantTold(t, w, 0, show(0), frame(from, 2, -1, 1, 2, 3, 4, 5), frame(at, 0, 0, 4, 0, 0, 0, 0))
			}
		}
	}
	// Names of which one is the beginning of another.
	for _, name := range []string{"", "f", "ff", "fff", "F", "f ", "\x00", strings.Repeat("f", 5000)} {
		units := []impl.Unit{{Name: "main", Regs: 1, Code: []impl.Tac{call(name), ret(0)}}}
		at := 0
		for i, s := range []string{"fff", "", "ff", "f", "f ", "\x00", "F", strings.Repeat("f", 5000)} {
			units = append(units, impl.Unit{Name: s, Regs: 1, Code: []impl.Tac{show(0), ret(0)}})
			if s == name {
				at = i + 1
			}
		}
		wantTold(t, aloneIn(units, frame(0, 0, -1, 9)), 0, show(0), frame(0, 1, -1, 9), frame(at, 0, 0, 0))
	}
}

// What a frame has set is gone with it: that of the next call begins with 0 again.
func TestEachCallBeginsWithZero(t *testing.T) {
	units := []impl.Unit{
		{Name: "main", Regs: 3, Code: []impl.Tac{into(0, call("f", 1)), into(1, call("f", 0)), into(2, call("f", 1)), show(2), ret(0)}},
		{Name: "f", Params: 1, Regs: 3, Code: []impl.Tac{place(impl.TcAdd, 1, 1, 0), number(2, 50), place(impl.TcAdd, 1, 1, 2), place(impl.TcAdd, 0, 0, 1), ret(1)}},
	}
	wantToldOfEach(t, aloneIn(units, frame(0, 0, -1, 1, 2, 3)), show(2), frame(0, 3, -1, 52, 102, 152))
	// Args are those that the caller has then, and its registers are not those of who is called.
	units[0].Code = []impl.Tac{number(0, 7), into(0, call("f", 0)), place(impl.TcSame, 1, 0, 2), show(1), ret(0)}
	wantToldOfEach(t, aloneIn(units, frame(0, 0, -1, 1, 2, 57)), show(1), frame(0, 3, -1, 57, 1, 57))
}

func TestCallsOfCalls(t *testing.T) {
	units := []impl.Unit{
		{Name: "h", Params: 2, Regs: 3, Code: []impl.Tac{place(impl.TcMul, 2, 0, 1), ret(2)}},
		{Name: "g", Params: 2, Regs: 4, Code: []impl.Tac{into(2, call("h", 0, 1)), into(3, call("h", 2, 1)), place(impl.TcSub, 3, 3, 2), ret(3)}},
		{Name: "f", Params: 1, Regs: 3, Code: []impl.Tac{number(1, 3), into(2, call("g", 0, 1)), into(0, call("g", 1, 0)), place(impl.TcAdd, 2, 2, 0), ret(2)}},
		{Name: "main", Regs: 4, Code: []impl.Tac{number(0, 5), into(3, call("f", 0)), show(3), ret(1)}},
	}
	// g(a, b) is a*b*b - a*b: g(5, 3) is 30, g(3, 5) is 60.
	wantToldOfEach(t, aloneIn(units, frame(3, 0, -1, 0, 8, 9, 0)), show(3), frame(3, 2, -1, 5, 8, 9, 90))
	// Within the inner one: what is below has gone on behind its call.
	units[0].Code = []impl.Tac{show(1), ret(2)}
	wantToldOfEach(t, aloneIn(units, frame(3, 0, -1, 0, 8, 9, 0)), show(1),
		frame(3, 2, -1, 5, 8, 9, 0), frame(2, 2, 3, 5, 3, 0), frame(1, 1, 2, 5, 3, 0, 0), frame(0, 0, 2, 5, 3, 0))
}

func TestReturnsIntoTheFrameBelow(t *testing.T) {
	units := []impl.Unit{
		{Name: "f", Regs: 3, Code: []impl.Tac{number(0, 4), ret(0), ret(1), ret(2)}},
		{Name: "main", Regs: 5, Code: []impl.Tac{show(0), number(4, 9), show(3), ret(2)}},
	}
	for _, value := range []int{least, -1, 0, 1, 77, greatest} {
		for dst := -1; dst < 5; dst++ {
			for pc := range 4 {
				upper := frame(0, 2, dst, 61, value, 62)
				want := slices.Clone([]int{51, 52, 53, 54, 55})
				if dst >= 0 {
					want[dst] = value
				}
				at := []int{0, 2, 2, 3}[pc]
				if pc == 1 {
					want[4] = 9
				}
				wantToldOfEach(t, aloneIn(units, frame(1, pc, 8, 51, 52, 53, 54, 55), upper), units[1].Code[at], frame(1, at, 8, want...))
			}
		}
	}
	// It is the register A that is given back, as it is then.
	for pc, value := range []int{4, 61, 63, 62} {
		w := aloneIn(units, frame(1, 0, -1, 1, 2, 3, 4, 5), frame(0, pc, 2, 61, 63, 62))
		wantToldOfEach(t, w, show(0), frame(1, 0, -1, 1, 2, value, 4, 5))
	}
}

// A register that the frame below has not takes nothing, as -1 does.
func TestReturnsForRegistersThatAreNotThere(t *testing.T) {
	for _, regs := range []int{1, 2, 100, 249, 250} {
		units := []impl.Unit{{Name: "f", Regs: regs, Code: []impl.Tac{show(0), ret(0)}}, {Name: "g", Regs: 250, Code: []impl.Tac{ret(249)}}}
		for _, dst := range []int{-1, 0, 1, 2, 99, 100, 101, 248, 249} {
			want := ramp(regs)
			if dst >= 0 && dst < regs {
				want[dst] = 349
			}
			wantToldOfEach(t, aloneIn(units, frame(0, 0, -1, ramp(regs)...), frame(1, 0, dst, ramp(250)...)), show(0), frame(0, 0, -1, want...))
		}
		for _, dst := range []int{-2, 250, 251, math.MinInt, math.MaxInt} {
			wantNothingTold(t, aloneIn(units, frame(0, 0, -1, ramp(regs)...), frame(1, 0, dst, ramp(250)...)), 0)
		}
	}
	units := []impl.Unit{{Name: "f", Regs: 0, Code: []impl.Tac{begin("f"), jump(0), label(0), jump(0)}}, {Name: "g", Regs: 1, Code: []impl.Tac{ret(0)}}}
	for _, dst := range []int{-1, 0, 1, 249} {
		wantToldOfEach(t, aloneIn(units, frame(0, 0, -1), frame(1, 0, dst, 5)), begin("f"), frame(0, 0, -1))
	}
}

// Returns go down frame by frame, each for the register that its own frame names.
func TestReturnsThroughManyFrames(t *testing.T) {
	units := []impl.Unit{{Name: "f", Regs: 14, Code: []impl.Tac{place(impl.TcAdd, 0, 0, 13), ret(0)}}}
	for count := 1; count <= mostFrames; count++ {
		var frames []impl.Frame
		for i := range count {
			frames = append(frames, frame(0, 0, i, put(make([]int, 14), 0, 1<<i, 13, 1)...))
		}
		// Frame i gives back 2^i + 1, for register i of the one below, and that of frame 1 is for register 1.
		want := put(make([]int, 14), 0, 2, 13, 1)
		if count > 1 {
			want[1] = 3
		}
		wantToldOfEach(t, aloneIn(units, frames...), ret(0), frame(0, 1, 0, want...))
	}
}

// Of a TcRet with no frame below nothing is done: its frame stays at it, whatever its Dst is.
func TestReturnsOfTheLastFrame(t *testing.T) {
	for _, dst := range []int{-1, 0, 1, 2, 249} {
		w := aloneAt([]int{4, 5}, ret(1), show(0), ret(0))
		w.Bodies[0].Frames[0].Dst = dst
		wantToldOfEach(t, w, ret(1), frame(0, 0, dst, 4, 5))
		w = aloneAt([]int{4, 5}, number(0, 6), label(1), place(impl.TcAdd, 1, 0, 1), ret(1), show(0), ret(0))
		w.Bodies[0].Frames[0].Dst = dst
		wantToldOfEach(t, w, ret(1), frame(0, 3, dst, 6, 11))
		w.Bodies[0].Frames[0].Pc = 5
		wantToldOfEach(t, w, ret(0), frame(0, 5, dst, 4, 5))
	}
	// Behind a call that came back.
	units := []impl.Unit{{Name: "f", Regs: 1, Code: []impl.Tac{number(0, 8), ret(0)}}, {Name: "main", Regs: 2, Code: []impl.Tac{into(1, call("f")), ret(1)}}}
	wantToldOfEach(t, aloneIn(units, frame(1, 0, -1, 4, 5)), ret(1), frame(1, 1, -1, 4, 8))
	// The caller's Pc has gone on, where the first place of who is called is told.
	wantToldOfEach(t, aloneIn(units, frame(1, 1, -1, 4, 5), frame(0, 0, -1, 3)), ret(1), frame(1, 1, -1, 4, 5))
}

// countDown calls itself till its param is 0, and then comes to that place.
func countDown(end impl.Tac) []impl.Unit {
	return []impl.Unit{{Name: "f", Params: 1, Regs: 4, Code: []impl.Tac{
		unless(0, 0), number(1, 1), place(impl.TcSub, 1, 0, 1), into(2, call("f", 1)), place(impl.TcAdd, 3, 2, 0), ret(3), label(0), end, ret(0),
	}}}
}

func TestHowManyFramesCallsMake(t *testing.T) {
	for n := range 20 {
		w := aloneIn(countDown(show(0)), frame(0, 0, -1, n, 0, 0, 0))
		var frames []impl.Frame
		for i := range n {
			frames = append(frames, frame(0, 4, 2*flag(i > 0)-flag(i == 0), n-i, n-i-1, 0, 0))
		}
		frames = append(frames, frame(0, 7, 2*flag(n > 0)-flag(n == 0), 0, 0, 0, 0))
		if n < mostFrames {
			wantToldOfEach(t, w, show(0), frames...)
		} else {
			wantNothingToldOfEach(t, w)
		}
		// Where it comes back, what was the highest frame counts no more: 0 + 1 + .. + n.
		w = aloneIn(countDown(number(1, 0)), frame(0, 0, -1, n, 0, 0, 0))
		switch {
		case n == 0:
			wantToldOfEach(t, w, ret(0), frame(0, 8, -1, 0, 0, 0, 0))
		case n < mostFrames:
			wantToldOfEach(t, w, ret(3), frame(0, 5, -1, n, n-1, n*(n-1)/2, n*(n+1)/2))
		default:
			wantNothingToldOfEach(t, w)
		}
	}
}

func TestCallsAtTheHighestFrame(t *testing.T) {
	units := []impl.Unit{
		{Name: "main", Regs: 2, Code: []impl.Tac{into(1, call("f", 0)), show(1), ret(0)}},
		{Name: "f", Params: 1, Regs: 1, Code: []impl.Tac{ret(0)}},
		{Name: "g", Regs: 1, Code: []impl.Tac{number(0, 3), ret(0)}},
	}
	for count := 1; count <= mostFrames; count++ {
		frames := slices.Repeat([]impl.Frame{frame(0, 1, 0, 5, 6)}, count)
		frames[count-1] = frame(0, 0, 0, 7, 8)
		want := cloneFrames(frames)
		want[count-1] = frame(0, 1, 0, 7, 7)
		w := cloneWorld(aloneIn(units, frames...))
		if count < mostFrames {
			wantToldOfEach(t, w, show(1), want...)
		} else {
			wantNothingToldOfEach(t, w)
		}
		// One that comes back first makes room.
		w.Bodies[0].Frames[count-1] = frame(2, 0, 0, 9)
		if count > 1 {
			w.Bodies[0].Frames[count-2] = frame(0, 0, 0, 7, 8)
			want = want[:count-1]
			want[count-2] = frame(0, 1, 0, 3, 3)
			wantToldOfEach(t, w, show(1), want...)
		}
	}
	// A call that is not come to counts for nothing.
	units[0].Code = []impl.Tac{jump(0), call("f", 0), label(0), show(0), call("f", 1), ret(0)}
	frames := slices.Repeat([]impl.Frame{frame(0, 0, -1, 5, 6)}, mostFrames)
	want := cloneFrames(frames)
	want[mostFrames-1].Pc = 3
	wantToldOfEach(t, cloneWorld(aloneIn(units, frames...)), show(0), want...)
}

// paddedUnits are main, which has so many places ahead of that one, and f beside it: calls of a long and of a short unit, and places of its own. Each of them puts 3 into register 0.
func paddedUnits(count int, end impl.Tac) []impl.Unit {
	const long, short = 901, 31
	code := slices.Repeat([]impl.Tac{call("long")}, count/long)
	count %= long
	code = append(code, slices.Repeat([]impl.Tac{call("short")}, count/short)...)
	code = append(code, slices.Repeat([]impl.Tac{number(0, 3)}, count%short)...)
	padding := func(call int) []impl.Tac { return append(slices.Repeat([]impl.Tac{number(0, 3)}, call-2), ret(0)) }
	return []impl.Unit{
		{Name: "f", Params: 3, Regs: 4, Code: []impl.Tac{ret(2)}},
		{Name: "main", Regs: 12, Code: append(code, end, ret(0))},
		{Name: "long", Regs: 1, Code: padding(long)},
		{Name: "short", Regs: 1, Code: padding(short)},
	}
}

// aboutMostLocal are numbers of places that stand ahead, of which those below 4000 may.
func aboutMostLocal() []int {
	return []int{0, 1, 2, 30, 31, 900, 901, 1999, 3996, 3997, 3998, 3999, 4000, 4001, 4002, 4003, 4031, 5000, 7999, 8000, 8001, 12000}
}

func TestHowManyPlacesStandAhead(t *testing.T) {
	for _, end := range append(seenPlaces(), ret(0), ret(11)) {
		for _, count := range []int{0, 1, 3998, 3999, 4000, 4001} {
			w := aloneIn(paddedUnits(count, end), frame(1, 0, -1, twelveRegs()...))
			_, tac, ok := checkAhead(t, w, 0)
			if ok != (count < 4000) || ok && !sameTac(tac, end) {
				t.Errorf("%+v with %d places ahead: %+v, %v", end, count, tac, ok)
			}
		}
	}
	for _, count := range aboutMostLocal() {
		w := aloneIn(paddedUnits(count, show(0)), frame(1, 0, -1, make([]int, 12)...))
		pc := len(w.Units[1].Code) - 2
		want := make([]int, 12)
		if count > 0 {
			want[0] = 3
		}
		if count < 4000 {
			wantTold(t, w, 0, show(0), frame(1, pc, -1, want...))
		} else {
			wantNothingTold(t, w, 0)
		}
	}
}

// Labels, jumps, calls and returns count like all others.
func TestHowManyPlacesStandAheadOfALoop(t *testing.T) {
	wantEither := func(w impl.World, count, pc int) {
		t.Helper()
		if count < 4000 {
			wantToldOfEach(t, w, show(0), frame(0, pc, -1, 0, 1, 1))
		} else {
			wantNothingToldOfEach(t, w)
		}
	}
	for _, count := range aboutMostLocal() {
		if count < 3 {
			continue
		}
		// A turn is of 4 places, the end is of 3.
		pads := (count - 3) % 4
		code := append(slices.Repeat([]impl.Tac{number(2, 1)}, pads), label(0), unless(0, 1), place(impl.TcSub, 0, 0, 1), jump(0), label(1), show(0), ret(0))
		wantEither(aloneAt([]int{(count - 3) / 4, 1, 1}, code...), count, pads+5)
		// With a call it is of 7.
		pads = (count - 3) % 7
		code = append(slices.Repeat([]impl.Tac{number(2, 1)}, pads), label(0), unless(0, 1), into(0, call("less", 0)), jump(0), label(1), show(0), ret(0))
		w := aloneAt([]int{(count - 3) / 7, 1, 1}, code...)
		w.Units = append(w.Units, impl.Unit{Name: "less", Params: 1, Regs: 3, Code: []impl.Tac{number(1, 1), place(impl.TcSub, 2, 0, 1), ret(2)}})
		wantEither(w, count, pads+5)
	}
}

// Places that were gone over ahead of the beginning do not count: what is told is a new beginning.
func TestPlacesAreCountedAnew(t *testing.T) {
	code := slices.Concat(slices.Repeat([]impl.Tac{number(0, 3)}, 400), []impl.Tac{show(0), label(0), jump(0)})
	w := aloneAt([]int{1}, code...)
	for pc := range 401 {
		w.Bodies[0].Frames[0].Pc = pc
		wantTold(t, w, 0, show(0), frame(0, 400, -1, 1+2*flag(pc < 400)))
	}
	w.Bodies[0].Frames[0].Pc = 401
	wantNothingTold(t, w, 0)
}

func TestLoopsForEver(t *testing.T) {
	called := []impl.Unit{{Name: "f", Regs: 1, Code: []impl.Tac{number(0, 1), ret(0)}}, {Name: "g", Regs: 1, Code: []impl.Tac{into(0, call("f")), ret(0)}}}
	for _, code := range [][]impl.Tac{
		{label(0), jump(0)},
		{label(900), label(0), jump(900)},
		{jump(1), label(0), jump(2), label(1), jump(0), label(2), jump(1)},
		{label(0), number(0, 0), unless(0, 0), show(0), ret(0)},
		{label(0), unless(1, 0), show(0), ret(0)},
		{label(0), place(impl.TcAdd, 0, 0, 0), jump(0)},
		{label(0), call("f"), jump(0)},
		{label(0), into(2, call("g")), unless(1, 0), show(2), ret(0)},
	} {
		w := aloneAt([]int{0, 0, 5}, code...)
		w.Units = append(w.Units, called...)
		wantNothingToldOfEach(t, w)
		for pc := range code {
			w.Bodies[0].Frames[0].Pc = pc
			checkAhead(t, w, 0)
		}
	}
	// Calls for ever, of itself and of each other, with and without a loop.
	for _, units := range [][]impl.Unit{
		{{Name: "f", Regs: 1, Code: []impl.Tac{call("f"), ret(0)}}},
		{{Name: "f", Regs: 1, Code: []impl.Tac{call("g"), ret(0)}}, {Name: "g", Regs: 1, Code: []impl.Tac{call("f"), ret(0)}}},
		{{Name: "f", Regs: 1, Code: []impl.Tac{label(0), call("f"), jump(0)}}},
		{{Name: "f", Regs: 1, Code: []impl.Tac{call("g"), show(0), ret(0)}}, {Name: "g", Regs: 1, Code: []impl.Tac{label(0), jump(0)}}},
	} {
		wantNothingToldOfEach(t, aloneIn(units, frame(0, 0, -1, 0)))
	}
	for _, src := range []string{
		"func main() { while 1 { } }", "func main() { while 1 { let x = 0; x = x + 1; } print 1; }", "func f() { while 1 { } } func main() { f(); print 1; }",
		"func f(a) { return a; } func main() { while 1 { f(1); } }", "func main() { let x = 1; while x { x = x + 1; } print x; }",
	} {
		w, ok := impl.WorldNew(impl.Lower(parsed(t, src), false))
		if !ok {
			t.Fatalf("%q", src)
		}
		wantNothingTold(t, w, 0)
	}
}

// lowPlaces are places of each op from TcPeek to TcHalt.
func lowPlaces() []impl.Tac {
	var out []impl.Tac
	for _, f := range tacForms {
		if f.op >= impl.TcPeek {
			out = append(out, ordinaryTac(f))
		}
	}
	return out
}

func TestPlacesOfTheStoreyBelow(t *testing.T) {
	if len(lowPlaces()) != 9 {
		t.Fatalf("there are %d", len(lowPlaces()))
	}
	regs := twelveRegs()
	for _, x := range lowPlaces() {
		wantNothingToldOfEach(t, aloneIn(beside(x, show(0), ret(0)), frame(1, 0, -1, regs...)))
		wantNothingToldOfEach(t, aloneIn(beside(number(2, 70), label(1), x, show(0), ret(0)), frame(1, 0, -1, regs...)))
		wantNothingToldOfEach(t, aloneIn(beside(unless(0, 1), ret(0), label(1), x, ret(0)), frame(1, 0, -1, regs...)))
		wantNothingToldOfEach(t, aloneIn(beside(show(0), x, ret(0)), frame(1, 1, -1, regs...)))
		// In who is called, and in who is come back to.
		units := beside(call("g"), show(0), ret(0))
		units = append(units, impl.Unit{Name: "g", Regs: 12, Code: []impl.Tac{x, ret(0)}})
		wantNothingToldOfEach(t, aloneIn(units, frame(1, 0, -1, regs...)))
		wantNothingToldOfEach(t, aloneIn(beside(show(0), x, ret(0)), frame(1, 1, -1, regs...), frame(1, 2, -1, regs...)))
		// Behind what is told, and where one does not come, it is nothing.
		wantToldOfEach(t, aloneIn(beside(show(3), x, ret(0)), frame(1, 0, -1, regs...)), show(3), frame(1, 0, -1, regs...))
		wantToldOfEach(t, aloneIn(beside(jump(1), x, label(1), ret(4)), frame(1, 0, -1, regs...)), ret(4), frame(1, 3, -1, regs...))
		wantToldOfEach(t, aloneIn(beside(x, show(3), ret(0)), frame(1, 1, -1, regs...)), show(3), frame(1, 1, -1, regs...))
	}
	halt := impl.Tac{Op: impl.TcHalt, A: 1}
	wantNothingToldOfEach(t, aloneAt([]int{1, 2}, halt))
	wantNothingToldOfEach(t, aloneAt([]int{1, 2}, number(0, 3), halt))
	wantToldOfEach(t, aloneAt([]int{1, 2}, show(0), halt), show(0), frame(0, 0, -1, 1, 2))
}

// A unit ends behind none of its places, so that one that would is not right; nor is a frame that is there already.
func TestWhatWouldEndBehindTheLastPlace(t *testing.T) {
	regs := twelveRegs()
	for _, f := range tacForms {
		x := ordinaryTac(f)
		if endsAUnit := f.op == impl.TcRet || f.op == impl.TcJump || f.op == impl.TcHalt; endsAUnit {
			continue
		}
		units := beside(label(aroundLabel), x)
		if f.op == impl.TcLabel {
			units = beside(x)
		}
		for pc := range len(units[1].Code) + 1 {
			wantNothingToldOfEach(t, aloneIn(units, frame(1, pc, -1, regs...)))
		}
		// Even where another body would come to it.
		w := aloneIn(append(units, impl.Unit{Name: "g", Regs: 1, Code: []impl.Tac{show(0), ret(0)}}), frame(2, 0, -1, 5))
		wantNothingToldOfEach(t, w)
	}
	for _, pc := range []int{-1, 3, 4, 900, math.MaxInt, math.MinInt} {
		w := aloneAt([]int{1}, number(0, 1), show(0), ret(0))
		w.Bodies[0].Frames[0].Pc = pc
		wantNothingTold(t, w, 0)
		w = aloneAt([]int{1}, number(0, 1), show(0), ret(0))
		w.Bodies[0].Frames = append([]impl.Frame{frame(0, pc, -1, 1)}, w.Bodies[0].Frames...)
		wantNothingTold(t, w, 0)
	}
	// The last place of each kind.
	wantToldOfEach(t, aloneAt([]int{1}, ret(0)), ret(0), frame(0, 0, -1, 1))
	w := aloneAt([]int{1}, label(0), show(0), jump(0))
	w.Bodies[0].Frames[0].Pc = 2
	wantToldOfEach(t, w, show(0), frame(0, 1, -1, 1))
}

// What a body was given, and where that goes, is nothing to what it does alone.
func TestWhatABodyWasGivenIsAsItWas(t *testing.T) {
	for _, n := range []int{-1, 0, 1, 2, 249} {
		w := aloneAt([]int{4, 5, 6}, number(0, 7), show(0), ret(0))
		b := &w.Bodies[0]
		b.Ticket, b.Value, b.Case, b.Dst, b.Two = 99, 1000, max(n, 0), n, n
		wantToldOfEach(t, w, show(0), frame(0, 1, -1, 7, 5, 6))
		got, _, _ := impl.Ahead(w, 0)
		if g := got.Bodies[0]; g.Ticket != 99 || g.Value != 1000 || g.Case != max(n, 0) || g.Dst != n || g.Two != n || g.Ended || g.Waits {
			t.Errorf("%s", clip(g))
		}
	}
}

// localDrawer draws worlds whose bodies go on alone for a while, as a rule.
type localDrawer struct{ *worldDrawer }

func newLocalDrawer(seed uint64) *localDrawer { return &localDrawer{newWorldDrawer(seed)} }

func (d *localDrawer) world() impl.World {
	w := d.worldDrawer.world()
	w.Over = d.IntN(20) == 0
	for _, u := range w.Units {
		for i, x := range u.Code {
			switch kind := d.IntN(12); {
			case i == len(u.Code)-1 || x.Op < impl.TcPrint || kind < 2:
			case kind < 4:
				u.Code[i] = d.call(u.Regs, w.Units)
			default:
				u.Code[i] = d.local(u.Regs)
			}
		}
		if last := &u.Code[len(u.Code)-1]; last.Op == impl.TcHalt && d.IntN(6) > 0 {
			last.Op = impl.TcRet
		}
	}
	for i := range w.Bodies {
		d.open(&w.Bodies[i])
	}
	return w
}

// open makes it likelier that a body goes on, that it has room for frames, and that it gives back into a register that is there.
func (d *localDrawer) open(b *impl.Body) {
	b.Ended, b.Waits = b.Ended && d.IntN(2) == 0, b.Waits && d.IntN(3) == 0
	if len(b.Frames) == 0 {
		b.Ended = true
	} else if d.IntN(2) == 0 {
		b.Frames = b.Frames[:1+d.IntN(min(len(b.Frames), 4))]
	}
	for i := range b.Frames {
		if i > 0 && d.IntN(5) > 0 {
			b.Frames[i].Dst = d.IntN(len(b.Frames[i-1].Regs)+1) - 1
		}
	}
}

func (d *localDrawer) call(regs int, units []impl.Unit) impl.Tac {
	u := units[d.IntN(len(units))]
	x := impl.Tac{Op: impl.TcCall, D: d.IntN(regs), S: u.Name}
	for range u.Params {
		x.Args = append(x.Args, d.IntN(regs))
	}
	return x
}

// local is a place that sets a register, in a unit of so many.
func (d *localDrawer) local(regs int) impl.Tac {
	x := impl.Tac{Op: impl.TcNum + d.IntN(7), D: d.IntN(regs)}
	switch x.Op {
	case impl.TcNum:
		x.N = d.worldDrawer.word()
	case impl.TcCopy:
		x.A = d.IntN(regs)
	default:
		x.A, x.B = d.IntN(regs), d.IntN(regs)
	}
	return x
}

func TestDrawnWorldsAhead(t *testing.T) {
	d := newLocalDrawer(141)
	met, turned, lower, higher := map[int]int{}, 0, 0, 0
	for range 1500 {
		w := d.world()
		for id := -1; id <= len(w.Bodies); id++ {
			got, tac, ok := checkAhead(t, w, id)
			met[tac.Op]++
			if ok {
				was, now := w.Bodies[id].Frames, got.Bodies[id].Frames
				turned += flag(!slices.EqualFunc(was, now, sameFrame))
				lower += flag(len(now) < len(was))
				higher += flag(len(now) > len(was))
			}
		}
		turnedWorld := cloneWorld(w)
		d.turn(&turnedWorld)
		for id := range turnedWorld.Bodies {
			checkAhead(t, turnedWorld, id)
		}
	}
	for _, op := range []int{0, impl.TcRet, impl.TcPrint, impl.TcGo, impl.TcMake, impl.TcSend, impl.TcRecv, impl.TcClose, impl.TcSelect} {
		if met[op] < 50 {
			t.Errorf("op %d is told %d times: %v", op, met[op], met)
		}
	}
	if turned < 500 || lower < 100 || higher < 100 {
		t.Errorf("turned %d, lower %d, higher %d", turned, lower, higher)
	}
}

// Promise 14, body by body: whichever goes on first, each comes to the same, and what others did is left there.
func TestBodiesGoOnAloneInAnyOrder(t *testing.T) {
	d := newLocalDrawer(142)
	met := 0
	for range 300 {
		w := d.world()
		var first impl.World
		for round := range 4 {
			now := w
			for _, id := range d.Perm(len(w.Bodies)) {
				alone, tacAlone, okAlone := impl.Ahead(w, id)
				next, tac, ok := impl.Ahead(now, id)
				if ok != okAlone || !sameTac(tac, tacAlone) || !sameBody(next.Bodies[id], alone.Bodies[id]) {
					t.Errorf("body %d of %s is another behind others", id, clip(w))
				}
				wantOthersAsTheyWere(t, now, next, id)
				now = next
				met += flag(ok)
			}
			if round == 0 {
				first = now
			} else if !sameWorld(first, now) {
				t.Errorf("%s is another in another order", clip(w))
			}
		}
	}
	if met < 500 {
		t.Errorf("%d are told", met)
	}
}

// alonePrints runs body 0 by Ahead, and does what it prints, for a while; the op at which it came to an end (0: to none), and what it gives back there.
func alonePrints(t *testing.T, w impl.World) (op, value int, out []int) {
	for range 400 {
		next, tac, ok := impl.Ahead(w, 0)
		if !ok {
			return 0, 0, out
		}
		wantOthersAsTheyWere(t, w, next, 0)
		frames := next.Bodies[0].Frames
		top := &frames[len(frames)-1]
		switch tac.Op {
		case impl.TcPrint:
			out = append(out, top.Regs[tac.A])
			top.Pc++
		case impl.TcRet:
			return tac.Op, top.Regs[tac.A], out
		default:
			return tac.Op, 0, out
		}
		w = next
	}
	return 0, 0, out
}

// What a body does alone is what Eval tells of its tree.
func TestProgramsGoOnAsTheyAreReckoned(t *testing.T) {
	met := make([]int, 3)
	for seed := range uint64(2) {
		d := &runDrawer{drawer: newDrawer(143 + seed), stops: seed == 1}
		for range 250 {
			list := d.program()
			w, ok := impl.WorldNew(impl.Lower(list, false))
			if !ok {
				continue
			}
			op, value, out := alonePrints(t, w)
			want := impl.Eval(list, "main", nil, impl.MaxFuel)
			met[want.Code]++
			common := min(len(out), len(want.Out))
			switch {
			case op == 0 || want.Code == impl.EvFuel:
				// It goes on for too long for one of them.
				if !slices.Equal(out[:common], want.Out[:common]) {
					t.Errorf("%q prints %s, not %s", impl.Write(list), clip(out), clip(want.Out))
				}
			case (op == impl.TcRet) != (want.Code == impl.EvDone) || value != want.Value || !slices.Equal(out, want.Out):
				t.Errorf("%q comes to %d, %d, %s, not %s", impl.Write(list), op, value, clip(out), clip(want))
			}
		}
	}
	if met[impl.EvDone] < 100 || met[impl.EvStop] < 30 {
		t.Errorf("met %v", met)
	}
}

func TestAheadWithListsThatAreEmptyAndNil(t *testing.T) {
	someNumbers, someFrames, someChans, someWaits := []int{7}, make([]impl.Frame, 2), []impl.Chan{{Cap: -1}}, bodies(5)
	for _, empty := range [][]int{nil, {}, make([]int, 0, 5), someNumbers[:0], someNumbers[1:]} {
		go0 := begin("f")
		go0.Args = empty
		call0 := into(0, call("f"))
		call0.Args = empty
		units := []impl.Unit{{Name: "f", Regs: 0, Code: []impl.Tac{label(0), go0, jump(0)}}, {Name: "main", Regs: 1, Code: []impl.Tac{call0, ret(0)}}}
		for i := range units {
			for k := range units[i].Code {
				units[i].Code[k].Args = empty
			}
		}
		w := aloneIn(units, frame(1, 0, -1, 5))
		w.Out = empty
		w.Chans = []impl.Chan{{Buf: empty}}
		wantTold(t, w, 0, begin("f"), frame(1, 1, -1, 5), frame(0, 1, 0))
		w.Bodies[0].Frames[0] = impl.Frame{Regs: empty, Dst: -1}
		wantTold(t, w, 0, begin("f"), frame(0, 1, -1))
		w.Bodies[0].Frames[0].Unit = 1
		wantNothingTold(t, w, 0)
		w.Over = true
		wantNothingTold(t, w, 0)
	}
	for _, empty := range [][]impl.Frame{nil, {}, make([]impl.Frame, 0, 5), someFrames[:0], someFrames[2:]} {
		w := aloneAt([]int{5}, number(0, 6), show(0), ret(0))
		w.Bodies = append(w.Bodies, impl.Body{Frames: empty, Ended: true})
		wantTold(t, w, 0, show(0), frame(0, 1, -1, 6))
		wantNothingTold(t, w, 1)
		w.Bodies[1].Ended = false
		wantNothingTold(t, w, 0)
		wantNothingTold(t, w, 1)
	}
	for _, empty := range [][]impl.Chan{nil, {}, make([]impl.Chan, 0, 5), someChans[:0], someChans[1:]} {
		w := aloneAt([]int{5}, number(0, 6), show(0), ret(0))
		w.Chans = empty
		wantTold(t, w, 0, show(0), frame(0, 1, -1, 6))
	}
	for _, empty := range [][]impl.Wait{nil, {}, make([]impl.Wait, 0, 5), someWaits[:0], someWaits[1:]} {
		w := aloneAt([]int{5}, number(0, 6), show(0), ret(0))
		w.Chans = []impl.Chan{{Takes: empty, Gives: empty}}
		wantTold(t, w, 0, show(0), frame(0, 1, -1, 6))
	}
	for _, empty := range [][]impl.Body{nil, {}, make([]impl.Body, 0, 5), make([]impl.Body, 5)[:0]} {
		w := wholeWorld()
		w.Bodies = empty
		wantNothingTold(t, w, 0)
	}
	for _, empty := range [][]impl.Unit{nil, {}, make([]impl.Unit, 0, 5), threeUnits()[:0]} {
		w := wholeWorld()
		w.Units = empty
		wantNothingTold(t, w, 0)
		w.Bodies = []impl.Body{{Ended: true}}
		wantNothingTold(t, w, 0)
	}
	for _, empty := range [][]impl.Tac{nil, {}, make([]impl.Tac, 0, 5)} {
		w := smallWorld()
		w.Units[0].Code = empty
		wantNothingTold(t, w, 0)
	}
}

func TestAheadOfVeryLongWorlds(t *testing.T) {
	const far = 250000
	long := func(turn func(w *impl.World)) {
		t.Helper()
		w := wholeWorld()
		turn(&w)
		for _, id := range []int{0, far - 1} {
			wantNothingTold(t, w, id)
		}
	}
	long(func(w *impl.World) { w.Bodies = append(w.Bodies, slices.Repeat([]impl.Body{{Ended: true}}, far)...) })
	long(func(w *impl.World) { w.Bodies = make([]impl.Body, far) })
	long(func(w *impl.World) { w.Bodies[0].Frames = slices.Repeat(w.Bodies[0].Frames[2:], far) })
	long(func(w *impl.World) { w.Bodies[0].Frames[0].Regs = make([]int, far) })
	long(func(w *impl.World) { w.Out = append(make([]int, far), turn) })
	long(func(w *impl.World) { w.Chans = make([]impl.Chan, far) })
	long(func(w *impl.World) { w.Chans = []impl.Chan{{Cap: 8, Buf: make([]int, far)}} })
	long(func(w *impl.World) {
		w.Chans = []impl.Chan{{Takes: make([]impl.Wait, far), Gives: make([]impl.Wait, far)}}
	})
	long(func(w *impl.World) {
		w.Units[0].Code = append(w.Units[0].Code, slices.Repeat([]impl.Tac{ret(0)}, far)...)
	})
	long(func(w *impl.World) { w.Units[0].Code[0].Args = make([]int, far) })
	w := aloneAt([]int{5}, number(0, 6), show(0), ret(0))
	w.Out = ramp(far)
	wantTold(t, w, 0, show(0), frame(0, 1, -1, 6))
	name := strings.Repeat("name", far)
	w = aloneAt([]int{5}, call(name), show(0), ret(0))
	w.Units = append(w.Units, impl.Unit{Name: name, Regs: 1, Code: []impl.Tac{begin(name), ret(0)}})
	wantTold(t, w, 0, begin(name), frame(0, 1, -1, 5), frame(1, 0, 0, 0))
	// The model would be long about so many units.
	w.Units = manyUnits(far)
	if got, tac, ok := impl.Ahead(w, 0); ok || !sameTac(tac, impl.Tac{}) || !sameWorld(got, w) {
		t.Errorf("of %d units there is told %+v, %v", far, tac, ok)
	}
}

// The largest world that is right: each place of each of its units is gone over, as far as it may be.
func TestAheadOfTheLargestWorld(t *testing.T) {
	var units []impl.Unit
	for i := range mostUnits {
		units = append(units, impl.Unit{Name: "u" + impl.Digits(i), Regs: 250, Code: append(slices.Repeat([]impl.Tac{place(impl.TcAdd, 249, 249, 248)}, 898), show(249), ret(249))})
	}
	w := aloneIn(units)
	w.Bodies = nil
	for id := range mostBodies {
		var frames []impl.Frame
		for k := range mostFrames {
			frames = append(frames, frame((id+k)%mostUnits, 899, 249, ramp(250)...))
		}
		w.Bodies = append(w.Bodies, impl.Body{Frames: frames, Ticket: mostSteps, Value: greatest, Case: mostSteps, Dst: 249, Two: 249})
		frames[0].Pc = 0
	}
	w.Chans = make([]impl.Chan, mostChans)
	for i := range w.Chans {
		w.Chans[i] = impl.Chan{Cap: mostCap, Buf: ramp(mostCap), Takes: bodies(0, 1, 2, 3, 4, 5), Gives: bodies(5, 4, 3, 2, 1, 0)}
	}
	for id := range w.Bodies {
		got, tac, ok := impl.Ahead(w, id)
		want := put(ramp(250), 249, 349+898*348)
		if !ok || !sameTac(tac, show(249)) || len(got.Bodies[id].Frames) != 1 || !sameFrame(got.Bodies[id].Frames[0], frame(id, 898, 249, want...)) {
			t.Errorf("body %d: %+v, %v, %s", id, tac, ok, clip(got.Bodies[id]))
		}
		wantOthersAsTheyWere(t, w, got, id)
	}
}

// aheadWorlds are some of which a body is ahead, and some of which none is.
func aheadWorlds() []impl.World {
	d := newLocalDrawer(145)
	out := someWorlds()[:30]
	for range 120 {
		w := d.world()
		turned := cloneWorld(w)
		d.turn(&turned)
		out = append(out, w, turned)
	}
	regs := twelveRegs()
	for _, x := range append(seenPlaces(), ret(3)) {
		out = append(out, amongBodies(aloneIn(beside(number(2, 70), into(1, call("f", 2, 3, 4)), x, ret(0)), frame(1, 0, -1, regs...)))[2])
	}
	for _, x := range lowPlaces() {
		out = append(out, amongBodies(aloneIn(beside(number(2, 70), x, ret(0)), frame(1, 0, -1, regs...)))[4])
	}
	return append(out, aloneIn(countDown(show(0)), frame(0, 0, -1, 11, 0, 0, 0)), aloneIn(countDown(number(1, 0)), frame(0, 0, -1, 11, 0, 0, 0)), aloneIn(countDown(show(0)), frame(0, 0, -1, 12, 0, 0, 0)))
}

func TestAheadWritesIntoNothing(t *testing.T) {
	for _, w := range aheadWorlds() {
		given := roomyWorld(w)
		kept := wholeOf(given)
		for id := -1; id <= len(w.Bodies); id++ {
			one, tac, ok := impl.Ahead(given, id)
			other, tacOther, okOther := impl.Ahead(w, id)
			if ok != okOther || !sameTac(tac, tacOther) || !sameWorld(one, other) {
				t.Errorf("ahead of %s, %d is another with room behind its lists", clip(w), id)
			}
			spoil(tac.Args)
			spoilWorld(one)
			if !sameWorld(wholeOf(given), kept) {
				t.Fatalf("%s is written into, by %d", clip(w), id)
			}
		}
	}
}

// What one answer holds is its own, also where the world is told as it was: no two of its lists share any memory, nor with another answer or with what was given, and its texts do not lie in what was given.
func TestEachAnswerOfAheadIsItsOwn(t *testing.T) {
	met := map[bool]int{}
	for _, given := range aheadWorlds() {
		w := cloneWorld(given)
		for i := range w.Units {
			w.Units[i].Name = strings.Clone(w.Units[i].Name)
			for k := range w.Units[i].Code {
				w.Units[i].Code[k].S = strings.Clone(w.Units[i].Code[k].S)
			}
		}
		for id := -1; id <= len(w.Bodies); id++ {
			one, tac, ok := impl.Ahead(w, id)
			other, tacOther, _ := impl.Ahead(w, id)
			met[ok]++
			if !apart(slices.Concat(piecesOf(one), piecesOf(other), piecesOf(w), []piece{pieceOf(tac.Args), pieceOf(tacOther.Args)})) {
				t.Fatalf("lists ahead of %s, %d share memory", clip(w), id)
			}
			if !apart(slices.Concat(textsOfUnits(one.Units), textsOfUnits(w.Units), []piece{pieceOfText(tac.S)})) {
				t.Fatalf("texts ahead of %s, %d lie in what was given", clip(w), id)
			}
			kept, keptTac, keptWorld := cloneWorld(other), tacOther, cloneWorld(w)
			keptTac.Args = slices.Clone(tacOther.Args)
			spoil(tac.Args)
			if !sameWorld(one, kept) {
				t.Fatalf("ahead of %s, %d is turned with the place that it tells", clip(w), id)
			}
			spoilWorld(one)
			again, tacAgain, _ := impl.Ahead(w, id)
			if !sameWorld(other, kept) || !sameTac(tacOther, keptTac) || !sameWorld(again, kept) || !sameTac(tacAgain, keptTac) || !sameWorld(w, keptWorld) {
				t.Fatalf("ahead of %s, %d is not its own", clip(w), id)
			}
			spoilWorld(w)
			if !sameWorld(other, kept) || !sameTac(tacOther, keptTac) {
				t.Fatalf("ahead of %s, %d is turned with what was given", clip(keptWorld), id)
			}
			w = keptWorld
			for i := range w.Units {
				w.Units[i].Name = strings.Clone(w.Units[i].Name)
			}
		}
	}
	if met[true] < 100 || met[false] < 100 {
		t.Errorf("met %v", met)
	}
}

func TestAheadAnswersTheSameAgain(t *testing.T) {
	list := aheadWorlds()
	for i, w := range list {
		other := list[(i+1)%len(list)]
		for id := range w.Bodies {
			one, tac, ok := impl.Ahead(w, id)
			impl.Ahead(other, 0)
			again, tacAgain, okAgain := impl.Ahead(w, id)
			if ok != okAgain || !sameTac(tac, tacAgain) || !sameWorld(one, again) {
				t.Errorf("Ahead(%s, %d) is not the same again", clip(w), id)
			}
		}
	}
}

func TestAheadSideBySide(t *testing.T) {
	list := aheadWorlds()
	var group sync.WaitGroup
	wrong := make([]int, 8)
	for worker := range wrong {
		group.Go(func() {
			for _, w := range list {
				for id := range w.Bodies {
					got, tac, ok := impl.Ahead(w, id)
					want, wantTac, wantOk := wantAhead(w, id)
					wrong[worker] += flag(ok != wantOk || !sameTac(tac, wantTac) || !sameWorld(got, want))
				}
			}
		})
	}
	group.Wait()
	if !slices.Equal(wrong, make([]int, 8)) {
		t.Errorf("answers side by side are others: %v", wrong)
	}
}
