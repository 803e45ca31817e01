package tests

import (
	"math"
	"slices"
	"strings"
	"sync"
	"testing"

	"loop.example/g00286/impl"
)

// farPlaces are numbers of no place of any unit.
func farPlaces() []int {
	return []int{math.MinInt, least, -901, -900, -2, -1, 900, 901, 1 << 32, 1<<32 + 1, greatest, math.MaxInt}
}

func sameLists(a, b [][]int) bool { return slices.EqualFunc(a, b, slices.Equal[[]int]) }

// checkLive holds all three against the model, and asks what holds of each answer.
func checkLiveness(t *testing.T, u impl.Unit) {
	t.Helper()
	kept := cloneUnit(u)
	behind, first := readLater(u)
	if got := impl.LiveOut(u); !sameLists(got, behind) {
		t.Errorf("LiveOut(%s) = %s, not %s", clip(u), unlikeLists(got, behind), clip(behind))
	}
	if got := impl.LiveIn(u); !slices.Equal(got, first) {
		t.Errorf("LiveIn(%s) = %v, not %v", clip(u), got, first)
	}
	checkNext(t, u)
	if !sameUnit(u, kept) {
		t.Errorf("%s is written into", clip(kept))
	}
	if len(behind) > 0 {
		wantByPlace(t, u)
	}
}

func checkNext(t *testing.T, u impl.Unit) {
	t.Helper()
	for i := range u.Code {
		if got, want := impl.Next(u, i), wantNext(u, i); !slices.Equal(got, want) {
			t.Errorf("Next(%s, %d) = %v, not %v", clip(u), i, got, want)
		}
	}
	for _, i := range append(farPlaces(), len(u.Code), len(u.Code)+1) {
		if got := impl.Next(u, i); len(got) != 0 && (i < 0 || i >= len(u.Code)) {
			t.Errorf("Next(%s, %d) = %v, of no place", clip(u), i, got)
		}
	}
}

// unlikeLists tells where two lists of lists differ first.
func unlikeLists(got, want [][]int) string {
	for i := range min(len(got), len(want)) {
		if !slices.Equal(got[i], want[i]) {
			return "at " + impl.Digits(i) + ": " + clip(got[i]) + ", not " + clip(want[i]) + ", of " + clip(got)
		}
	}
	return clip(got)
}

// wantByPlace is what holds place by place, whatever the unit: what is live behind a place is what the next ones read, or have live behind them and do not set, and no more; it is told ascending, each once.
func wantByPlace(t *testing.T, u impl.Unit) {
	t.Helper()
	out := impl.LiveOut(u)
	ahead := func(i int) []int {
		x := u.Code[i]
		return append(slices.DeleteFunc(slices.Clone(out[i]), func(r int) bool { return slices.Contains(impl.Sets(x), r) }), impl.Uses(x)...)
	}
	ascending := func(list []int) []int {
		list = slices.Clone(list)
		slices.Sort(list)
		return slices.Compact(list)
	}
	for i := range u.Code {
		var want []int
		for _, next := range impl.Next(u, i) {
			want = append(want, ahead(next)...)
		}
		if !slices.Equal(out[i], ascending(want)) {
			t.Errorf("behind place %d of %s there is live %v, and ahead of the next ones %v", i, clip(u), out[i], ascending(want))
		}
		if slices.ContainsFunc(out[i], func(r int) bool { return r < 0 || r >= u.Regs }) {
			t.Errorf("behind place %d of %s there is live %v", i, clip(u), out[i])
		}
	}
	if in := impl.LiveIn(u); !slices.Equal(in, ascending(ahead(0))) {
		t.Errorf("at the beginning of %s there is live %v, and ahead of its first place %v", clip(u), in, ahead(0))
	}
}

// wantLiveOf is of a unit that is right, with what is live at its beginning and behind each place.
func wantLiveOf(t *testing.T, u impl.Unit, first []int, behind ...[]int) {
	t.Helper()
	if !impl.UnitOk(u) {
		t.Fatalf("%s is not right: %v", clip(u), unitFaults(u))
	}
	if got := impl.LiveOut(u); !sameLists(got, behind) {
		t.Errorf("LiveOut(%s) = %s, not %v", clip(u), unlikeLists(got, behind), behind)
	}
	if got := impl.LiveIn(u); !slices.Equal(got, first) {
		t.Errorf("LiveIn(%s) = %v, not %v", clip(u), got, first)
	}
	checkLiveness(t, u)
}

func wantNothingLive(t *testing.T, u impl.Unit) {
	t.Helper()
	if impl.UnitOk(u) {
		t.Errorf("%s is right", clip(u))
	}
	for i := range min(len(u.Code)+2, 20) {
		if got := impl.Next(u, i); len(got) != 0 {
			t.Errorf("Next(%s, %d) = %v, of what is not right", clip(u), i, got)
		}
	}
	for _, i := range append(farPlaces(), len(u.Code)-2, len(u.Code)-1, len(u.Code)) {
		if got := impl.Next(u, i); len(got) != 0 {
			t.Errorf("Next(%s, %d) = %v, of what is not right", clip(u), i, got)
		}
	}
	if got := impl.LiveOut(u); len(got) != 0 {
		t.Errorf("LiveOut(%s) = %s, of what is not right", clip(u), clip(got))
	}
	if got := impl.LiveIn(u); len(got) != 0 {
		t.Errorf("LiveIn(%s) = %s, of what is not right", clip(u), clip(got))
	}
}

func wantNextOf(t *testing.T, u impl.Unit, i int, want ...int) {
	t.Helper()
	if got := impl.Next(u, i); !slices.Equal(got, want) {
		t.Errorf("Next(%s, %d) = %v, not %v", clip(u), i, got, want)
	}
	checkNext(t, u)
}

// these are the registers that are live.
func these(registers ...int) []int { return registers }

// firstRegs are the first ones, so many of them.
func firstRegs(count int) []int {
	var out []int
	for r := range count {
		out = append(out, r)
	}
	return out
}

func sum(d, a, b int) impl.Tac { return place(impl.TcAdd, d, a, b) }

func same(d, a int) impl.Tac { return place(impl.TcCopy, d, a, 0) }

func halts(a int) impl.Tac { return impl.Tac{Op: impl.TcHalt, A: a} }

// wrongUnits are some with each of which something is amiss, but of which some places would be right.
func wrongUnits() []impl.Unit {
	right := []impl.Tac{number(1, 5), label(0), unless(1, 0), show(1), jump(0)}
	return []impl.Unit{
		{}, {Regs: 2}, {Regs: 2, Code: []impl.Tac{}}, unit(0, 1), unit(-1, 2, right...), unit(3, 2, right...), unit(5, 250, right...), unit(0, -1, right...), unit(0, 251, right...), unit(0, 1, right...),
		unit(0, 2, slices.Repeat(right, 2)...), unit(0, 2, append(slices.Repeat([]impl.Tac{show(1)}, 900), ret(0))...),
		unit(0, 2, jump(0), ret(0)), unit(0, 2, unless(0, 3), ret(0)), unit(0, 2, label(901), ret(0)), unit(0, 2, label(-1), ret(0)),
		unit(0, 2, show(0)), unit(0, 2, ret(0), show(0)), unit(0, 2, ret(0), label(0)), unit(0, 2, label(0), unless(0, 0)),
		unit(0, 2, impl.Tac{}, ret(0)), unit(0, 2, impl.Tac{Op: 29}, ret(0)), unit(0, 2, impl.Tac{Op: -1}, ret(0)),
		unit(0, 2, ret(2)), unit(0, 2, ret(-1)), unit(0, 2, call("f", 2), ret(0)), unit(0, 2, call("f", 0, 0, 0, 0, 0), ret(0)), unit(0, 2, choose(0, 1, 0), ret(0)), unit(0, 2, choose(0, 1, 0, 1, 0, 1), ret(0)),
		unit(0, 2, choose(0, 1, 2, 1, 0, 0), ret(0)), unit(0, 2, number(0, greatest+1), ret(0)), unit(0, 2, impl.Tac{Op: impl.TcRet, D: 1}), unit(0, 2, impl.Tac{Op: impl.TcRet, Args: []int{1}}),
		unit(0, 2, impl.Tac{Op: impl.TcCas}, ret(0)), unit(0, 2, impl.Tac{Op: impl.TcCas, Args: []int{0, 1}}, ret(0)),
	}
}

func TestLivenessOfUnitsThatAreNotRight(t *testing.T) {
	wantUnit(t, unit(0, 2, number(1, 5), label(0), unless(1, 0), show(1), jump(0)))
	for _, u := range wrongUnits() {
		wantNothingLive(t, u)
		checkLiveness(t, u)
	}
	// One place that is amiss among the most of them.
	for _, at := range []int{0, 1, 450, 898, 899} {
		u := unit(0, 250, append(slices.Repeat([]impl.Tac{sum(1, 2, 249)}, 899), ret(0))...)
		wantUnit(t, u)
		u.Code[at].A = 250
		wantNothingLive(t, u)
	}
}

func TestNextOfPlacesThatAreNotThere(t *testing.T) {
	for _, count := range []int{1, 2, 3, 10, 899, 900} {
		u := unit(0, 1, append(slices.Repeat([]impl.Tac{show(0)}, count-1), ret(0))...)
		for _, i := range []int{math.MinInt, -turn, -turn - count, least, -count, -2, -1, count, count + 1, 2 * count, 1000, 4000, turn, turn + count - 1, greatest, math.MaxInt - 1, math.MaxInt} {
			if got := impl.Next(u, i); len(got) != 0 {
				t.Errorf("Next of %d places, %d = %v", count, i, got)
			}
		}
		for i := range count - 1 {
			if got := impl.Next(u, i); !slices.Equal(got, []int{i + 1}) {
				t.Errorf("Next of %d places, %d = %v", count, i, got)
			}
		}
		wantNextOf(t, u, count-1)
	}
}

// Each op as the first place, between others, and where one comes to no more.
func TestNextBehindEachOp(t *testing.T) {
	for _, f := range tacForms {
		x := ordinaryTac(f)
		switch f.op {
		case impl.TcRet, impl.TcHalt:
			wantNextOf(t, around(x), 1)
			wantNextOf(t, unit(0, 12, x, ret(0)), 0)
			wantNextOf(t, unit(0, 12, show(0), x), 1)
			wantNextOf(t, unit(0, 12, x), 0)
		case impl.TcJump:
			wantNextOf(t, around(x), 1, 2)
			wantNextOf(t, unit(0, 12, label(7), show(0), x), 2, 0)
			wantNextOf(t, unit(0, 12, x, show(0), label(7), ret(0)), 0, 2)
		case impl.TcZero:
			wantNextOf(t, around(x), 1, 2)
			wantNextOf(t, unit(0, 12, label(7), show(0), x, ret(0)), 2, 0, 3)
			wantNextOf(t, unit(0, 12, x, show(0), label(7), ret(0)), 0, 1, 2)
		case impl.TcLabel:
			wantNextOf(t, around(x), 1, 2)
			wantNextOf(t, unit(0, 12, x, ret(0)), 0, 1)
			wantNextOf(t, unit(0, 12, jump(7), x, ret(0)), 1, 2)
		default:
			wantNextOf(t, around(x), 1, 2)
			wantNextOf(t, unit(0, 12, x, ret(0)), 0, 1)
			wantNextOf(t, unit(0, 12, ret(0), x, ret(0)), 1, 2)
			wantNextOf(t, unit(0, 12, label(7), x, jump(7)), 1, 2)
		}
	}
}

// A jump and a test at each of nine places, to a label at each other one; what stands between is all that goes on.
func TestNextOfJumpsAndTests(t *testing.T) {
	for count := 3; count <= 9; count++ {
		for at := range count - 1 {
			for to := range count - 1 {
				if at == to {
					continue
				}
				code := append(slices.Repeat([]impl.Tac{show(0)}, count-1), ret(0))
				code[to] = label(4)
				code[at] = jump(4)
				wantNextOf(t, unit(0, 1, code...), at, to)
				code[at] = unless(0, 4)
				want := []int{min(at+1, to), max(at+1, to)}
				wantNextOf(t, unit(0, 1, code...), at, slices.Compact(want)...)
			}
		}
	}
	// It is the number of the label that counts, not where among the labels it stands.
	u := unit(0, 1, unless(0, 900), label(3), unless(0, 0), label(900), unless(0, 3), label(0), unless(0, 7), label(7), jump(3))
	for i, want := range [][]int{{1, 3}, {2}, {3, 5}, {4}, {1, 5}, {6}, {7}, {8}, {1}} {
		wantNextOf(t, u, i, want...)
	}
	// To where one stands: a jump to the label just ahead of it, and a test, too.
	wantNextOf(t, unit(0, 1, label(0), jump(0)), 1, 0)
	wantNextOf(t, unit(0, 1, label(0), unless(0, 0), jump(0)), 1, 0, 2)
	wantNextOf(t, unit(0, 1, jump(0), label(0), jump(0)), 0, 1)
}

// What each op sets is not live ahead of it, what it reads is: with all registers live behind it, and with as few as may be.
func TestLivenessOfEachOp(t *testing.T) {
	for _, f := range tacForms {
		x := ordinaryTac(f)
		if f.op == impl.TcLabel {
			x.N = 10
		}
		ends := f.op == impl.TcRet || f.op == impl.TcHalt
		for _, rest := range [][]int{firstRegs(aroundRegs), {0}, {11}, {}, toldBy(x, f.sets), toldBy(x, f.reads)} {
			code := []impl.Tac{label(8), x, label(aroundLabel)}
			for _, r := range rest {
				code = append(code, show(r))
			}
			u := unit(0, aroundRegs, append(code, label(9), jump(9))...)
			want := slices.Clone(rest)
			if ends {
				want = nil
			}
			want = slices.DeleteFunc(want, func(r int) bool { return slices.Contains(toldBy(x, f.sets), r) })
			want = append(want, toldBy(x, f.reads)...)
			slices.Sort(want)
			want = slices.Compact(want)
			out := impl.LiveOut(u)
			if len(out) != len(u.Code) {
				t.Fatalf("of %d places there is told %v", len(u.Code), out)
			}
			if !slices.Equal(out[0], want) || !slices.Equal(impl.LiveIn(u), want) {
				t.Errorf("ahead of %+v, with %v behind it, there is live %v, not %v", x, rest, out[0], want)
			}
			if ends && len(out[1]) != 0 {
				t.Errorf("behind %+v there is live %v", x, out[1])
			}
			checkLiveness(t, u)
		}
	}
}

func TestLivenessInALine(t *testing.T) {
	wantLiveOf(t, unit(0, 1, ret(0)), these(0), nil)
	wantLiveOf(t, unit(0, 2, number(0, 5), ret(0)), nil, these(0), nil)
	wantLiveOf(t, unit(0, 2, number(1, 5), ret(0)), these(0), these(0), nil)
	wantLiveOf(t, unit(2, 3, sum(2, 0, 1), ret(2)), these(0, 1), these(2), nil)
	// Set and read at once.
	wantLiveOf(t, unit(1, 2, sum(0, 0, 1), ret(0)), these(0, 1), these(0), nil)
	wantLiveOf(t, unit(1, 2, sum(1, 0, 1), ret(1)), these(0, 1), these(1), nil)
	wantLiveOf(t, unit(1, 2, sum(1, 1, 1), ret(0)), these(0, 1), these(0), nil)
	wantLiveOf(t, unit(1, 2, same(1, 1), ret(1)), these(1), these(1), nil)
	// Set ahead of being read, and read ahead of being set.
	wantLiveOf(t, unit(0, 3, number(1, 5), show(1), number(1, 6), show(1), ret(2)), these(2), these(1, 2), these(2), these(1, 2), these(2), nil)
	wantLiveOf(t, unit(0, 3, show(1), number(1, 6), ret(2)), these(1, 2), these(2), these(2), nil)
	// Set twice with nothing between: the first one is for nothing.
	wantLiveOf(t, unit(0, 2, number(1, 5), number(1, 6), ret(1)), nil, nil, these(1), nil)
	// Read twice, by one place and by two.
	wantLiveOf(t, unit(0, 2, sum(0, 1, 1), sum(0, 1, 0), ret(0)), these(1), these(0, 1), these(0), nil)
	// Told ascending, whatever the order of the places.
	wantLiveOf(t, unit(0, 250, show(7), show(249), show(0), show(100), show(3), ret(9)), these(0, 3, 7, 9, 100, 249), these(0, 3, 9, 100, 249), these(0, 3, 9, 100), these(3, 9, 100), these(3, 9), these(9), nil)
}

func TestLivenessBehindTheEnd(t *testing.T) {
	for _, end := range []impl.Tac{ret(3), halts(3)} {
		wantLiveOf(t, unit(0, 4, end, show(1), show(2), ret(0)), these(3), nil, these(0, 2), these(0), nil)
		wantLiveOf(t, unit(0, 4, unless(0, 5), end, label(5), show(2), end), these(0, 2, 3), these(2, 3), nil, these(2, 3), these(3), nil)
		wantLiveOf(t, unit(0, 4, label(5), show(2), end, show(1), jump(5)), these(2, 3), these(2, 3), these(3), nil, these(2, 3), these(2, 3))
	}
}

func TestLivenessByOneWayOfATest(t *testing.T) {
	// By the label alone, and by the next place alone.
	wantLiveOf(t, unit(0, 3, unless(0, 5), ret(1), label(5), ret(2)), these(0, 1, 2), these(1, 2), nil, these(2), nil)
	wantLiveOf(t, unit(0, 3, unless(0, 5), number(2, 7), label(5), ret(2)), these(0, 2), these(2), these(2), these(2), nil)
	wantLiveOf(t, unit(0, 3, unless(0, 5), number(1, 7), show(1), label(5), ret(0)), these(0), these(0), these(0, 1), these(0), these(0), nil)
	// Set by both ways, and by one.
	wantLiveOf(t, unit(0, 3, unless(0, 5), number(1, 7), jump(6), label(5), number(1, 8), label(6), ret(1)), these(0), nil, these(1), these(1), nil, these(1), these(1), nil)
	wantLiveOf(t, unit(0, 3, unless(0, 5), number(1, 7), jump(6), label(5), number(2, 8), label(6), ret(1)), these(0, 1), these(1), these(1), these(1), these(1), these(1), these(1), nil)
	// Its label is the next place.
	wantLiveOf(t, unit(0, 3, unless(0, 5), label(5), ret(1)), these(0, 1), these(1), these(1), nil)
	// What is tested is read by the test itself.
	wantLiveOf(t, unit(0, 3, label(5), unless(2, 5), ret(1)), these(1, 2), these(1, 2), these(1, 2), nil)
}

func TestLivenessInLoops(t *testing.T) {
	// Read in the next round: it is live behind the place that sets it, and about all of the loop.
	wantLiveOf(t, unit(0, 3, label(0), unless(0, 1), show(1), number(1, 4), jump(0), label(1), ret(0)),
		these(0, 1), these(0, 1), these(0, 1), these(0), these(0, 1), these(0, 1), these(0), nil)
	// Set in each round ahead of being read: it is not live behind the round.
	wantLiveOf(t, unit(0, 3, label(0), unless(0, 1), number(1, 4), show(1), jump(0), label(1), ret(0)),
		these(0), these(0), these(0), these(0, 1), these(0), these(0), these(0), nil)
	// Read behind the loop alone.
	wantLiveOf(t, unit(0, 3, label(0), unless(0, 1), sum(0, 0, 0), jump(0), label(1), ret(2)),
		these(0, 2), these(0, 2), these(0, 2), these(0, 2), these(0, 2), these(2), nil)
	// What goes over from one register to the next in each round: all of them are live through three rounds.
	wantLiveOf(t, unit(0, 5, label(0), show(1), same(1, 2), same(2, 3), same(3, 4), unless(0, 0), ret(0)),
		these(0, 1, 2, 3, 4), these(0, 1, 2, 3, 4), these(0, 2, 3, 4), these(0, 1, 3, 4), these(0, 1, 2, 4), these(0, 1, 2, 3, 4), these(0, 1, 2, 3, 4), nil)
	// For ever.
	wantLiveOf(t, unit(0, 3, label(0), show(1), jump(0)), these(1), these(1), these(1), these(1))
	wantLiveOf(t, unit(0, 3, label(0), number(1, 2), jump(0)), nil, nil, nil, nil)
	wantLiveOf(t, unit(0, 3, number(1, 2), number(2, 2), label(0), sum(1, 1, 2), jump(0)), nil, these(1), these(1, 2), these(1, 2), these(1, 2), these(1, 2))
	wantLiveOf(t, unit(0, 0, label(0), jump(0)), nil, nil, nil)
	// Of two loops one behind the other the first one knows what the second one reads.
	wantLiveOf(t, unit(0, 4, label(0), unless(0, 0), label(1), unless(1, 1), label(2), show(2), jump(2)),
		these(0, 1, 2), these(0, 1, 2), these(0, 1, 2), these(1, 2), these(1, 2), these(2), these(2), these(2))
}

func TestLivenessInLoopsWithinLoops(t *testing.T) {
	u := unit(0, 6, label(0), unless(0, 1), label(2), unless(1, 3), sum(1, 1, 4), same(5, 1), jump(2), label(3), sum(0, 0, 4), show(5), jump(0), label(1), ret(3))
	all := these(0, 1, 3, 4, 5)
	wantLiveOf(t, u, all, all, all, all, all, these(0, 1, 3, 4), all, all, all, all, all, all, these(3), nil)
	// Each of many loops within each other reads a register of its own, the innermost one the last one.
	for _, deep := range []int{1, 2, 10, 100, 224} {
		var code []impl.Tac
		for n := range deep {
			code = append(code, label(2*n), unless(n, 2*n+1))
		}
		for n := deep - 1; n >= 0; n-- {
			code = append(code, jump(2*n), label(2*n+1))
		}
		u := unit(0, 250, append(code, ret(249))...)
		wantUnit(t, u)
		out, whole := impl.LiveOut(u), append(firstRegs(deep), 249)
		for i, got := range out[:len(out)-2] {
			// Behind the end of a loop all of it, and of those about it, is live still: only behind the outermost one is it not.
			if !slices.Equal(got, whole) {
				t.Errorf("of %d loops there is live %s behind place %d", deep, clip(got), i)
				break
			}
		}
		if !slices.Equal(out[len(out)-2], these(249)) || len(out[len(out)-1]) != 0 || !slices.Equal(impl.LiveIn(u), whole) {
			t.Errorf("of %d loops there is live %v at the end, %v at the beginning", deep, out[len(out)-2:], impl.LiveIn(u))
		}
	}
}

func TestLivenessWhereNoWayComesTo(t *testing.T) {
	// What no way comes to reads for itself: what stands ahead does not know of it.
	wantLiveOf(t, unit(0, 4, jump(0), show(1), show(2), label(0), ret(3)), these(3), these(3), these(2, 3), these(3), these(3), nil)
	wantLiveOf(t, unit(0, 4, ret(0), label(0), show(1), jump(0)), these(0), nil, these(1), these(1), these(1))
	// It may go to where others come.
	wantLiveOf(t, unit(0, 4, number(1, 2), label(0), show(1), ret(0), number(1, 3), show(2), jump(0)), these(0), these(0, 1), these(0, 1), these(0), nil, these(0, 1, 2), these(0, 1), these(0, 1))
	// Two that go to each other, and to which no one else goes.
	wantLiveOf(t, unit(0, 4, ret(0), label(0), show(1), jump(1), label(1), show(2), jump(0)), these(0), nil, these(1, 2), these(1, 2), these(1, 2), these(1, 2), these(1, 2), these(1, 2))
}

func TestLivenessOfCallsAndCases(t *testing.T) {
	for _, args := range [][]int{nil, {}, {5}, {5, 5}, {6, 5}, {4, 3, 2}, {7, 5, 6, 4}, {0, 0, 0, 0}, {8, 8, 1, 8}} {
		want := slices.Clone(args)
		slices.Sort(want)
		want = slices.Compact(want)
		wantLiveOf(t, unit(0, 10, begin("f", args...), label(0), jump(0)), want, nil, nil, nil)
		wantLiveOf(t, unit(0, 10, into(9, call("f", args...)), label(0), jump(0)), want, nil, nil, nil)
		wantLiveOf(t, unit(0, 10, into(9, call("f", args...)), ret(9)), want, these(9), nil)
	}
	// What the call tells goes into one of its own Args.
	wantLiveOf(t, unit(0, 10, into(5, call("f", 5, 4)), ret(5)), these(4, 5), these(5), nil)
	// What it tells is not read: it is set for nothing, and not live ahead.
	wantLiveOf(t, unit(0, 10, show(5), into(5, call("f", 4)), ret(3)), these(3, 4, 5), these(3, 4), these(3), nil)
	cas := impl.Tac{Op: impl.TcCas, D: 1, A: 2, B: 3, Args: []int{4}}
	wantLiveOf(t, unit(0, 10, cas, ret(1)), these(2, 3, 4), these(1), nil)
	wantLiveOf(t, unit(0, 10, cas, ret(4)), these(2, 3, 4), these(4), nil)
	cas.Args = []int{1}
	wantLiveOf(t, unit(0, 10, cas, ret(1)), these(1, 2, 3), these(1), nil)
	cas.Args = []int{0}
	wantLiveOf(t, unit(0, 10, cas, ret(9)), these(0, 2, 3, 9), these(9), nil)
}

func TestLivenessOfSelects(t *testing.T) {
	shown := []impl.Tac{show(8), show(9), label(0), jump(0)}
	for _, c := range []struct{ args, reads []int }{
		// The 0 of a take is no register; 0 as the channel, or as the value that is given, is one.
		{[]int{1, 3, 0}, these(3)},
		{[]int{1, 0, 0}, these(0)},
		{[]int{2, 3, 0}, these(0, 3)},
		{[]int{2, 0, 3}, these(0, 3)},
		{[]int{2, 4, 4}, these(4)},
		{[]int{1, 5, 0, 1, 4, 0}, these(4, 5)},
		{[]int{1, 5, 0, 2, 4, 3}, these(3, 4, 5)},
		{[]int{2, 7, 6, 1, 5, 0, 2, 4, 3}, these(3, 4, 5, 6, 7)},
		{[]int{1, 7, 0, 1, 5, 0, 1, 3, 0}, these(3, 5, 7)},
		{[]int{2, 1, 2, 2, 1, 2, 2, 2, 1}, these(1, 2)},
	} {
		for n := range 2 {
			// D and B are set.
			u := unit(0, 10, append([]impl.Tac{choose(8, 9, n, c.args...)}, shown...)...)
			wantLiveOf(t, u, c.reads, these(8, 9), these(9), nil, nil, nil)
			u.Code[0].D, u.Code[0].B = 9, 8
			wantLiveOf(t, u, c.reads, these(8, 9), these(9), nil, nil, nil)
			// One of them is, and the other one is for nothing.
			u.Code[0].D, u.Code[0].B = 8, 8
			wantLiveOf(t, u, append(slices.Clone(c.reads), 9), these(8, 9), these(9), nil, nil, nil)
			u.Code[0].D, u.Code[0].B = 9, c.reads[0]
			want := append(slices.Clone(c.reads), 8)
			wantLiveOf(t, u, want, these(8, 9), these(9), nil, nil, nil)
		}
	}
	// What is set by it is read by its own cases in the next round.
	wantLiveOf(t, unit(0, 5, label(0), choose(1, 2, 0, 1, 3, 0, 2, 2, 1), jump(0)), these(1, 2, 3), these(1, 2, 3), these(1, 2, 3), these(1, 2, 3))
}

func TestLivenessAtTheBeginning(t *testing.T) {
	// Params that are read, that are set first, and that are neither.
	wantLiveOf(t, unit(4, 4, number(1, 5), sum(3, 0, 1), ret(3)), these(0), these(0, 1), these(3), nil)
	// Others that are read before they are set.
	wantLiveOf(t, unit(1, 4, sum(3, 0, 2), ret(3)), these(0, 2), these(3), nil)
	// Nothing.
	for _, u := range []impl.Unit{
		unit(0, 1, number(0, 0), ret(0)), unit(4, 4, number(3, 0), ret(3)), unit(0, 0, label(0), jump(0)), unit(0, 3, jump(0), show(1), label(0), number(2, 1), halts(2)),
		unit(0, 3, label(0), impl.Tac{Op: impl.TcCore, D: 1}, show(1), jump(0)), unit(0, 3, addr("f"), show(0), ret(0)), unit(0, 3, into(2, call("f")), ret(2)),
	} {
		if got := impl.LiveIn(u); len(got) != 0 {
			t.Errorf("LiveIn(%s) = %v", clip(u), got)
		}
		checkLiveness(t, u)
	}
	// The first place itself reads, sets, does both, and neither; and it is met again.
	wantLiveOf(t, unit(0, 2, show(1), ret(0)), these(0, 1), these(0), nil)
	wantLiveOf(t, unit(0, 2, same(1, 0), ret(1)), these(0), these(1), nil)
	wantLiveOf(t, unit(0, 2, same(1, 1), ret(1)), these(1), these(1), nil)
	wantLiveOf(t, unit(0, 2, label(0), same(1, 0), same(0, 1), jump(0)), these(0), these(0), these(1), these(0), these(0))
}

// Registers that are never read, never set, and neither.
func TestRegistersThatAreNeverReadOrSet(t *testing.T) {
	var code []impl.Tac
	for r := range 250 {
		code = append(code, number(r, r))
	}
	u := unit(0, 250, append(code, label(0), jump(0))...)
	for i, got := range impl.LiveOut(u) {
		if len(got) != 0 {
			t.Errorf("behind place %d there is live %v, and nothing is ever read", i, got)
		}
	}
	checkLiveness(t, u)
	for r := range 250 {
		u := unit(0, 250, label(0), unless(r, 0), label(1), unless(r, 1), jump(0))
		for i, got := range impl.LiveOut(u) {
			if !slices.Equal(got, these(r)) {
				t.Errorf("behind place %d there is live %v, and %d is never set", i, got, r)
			}
		}
		if got := impl.LiveIn(u); !slices.Equal(got, these(r)) {
			t.Errorf("at the beginning there is live %v, and %d is never set", got, r)
		}
	}
	wantLiveOf(t, unit(4, 250, number(1, 2), jump(0), label(0), ret(1)), nil, these(1), these(1), these(1), nil)
}

// The most registers and the most places: all are live at once, one by one, in a line, forwards, backwards and round.
func TestLivenessOfTheLargestUnits(t *testing.T) {
	all := firstRegs(250)
	// 649 places ahead of 250 that read a register each, and the last one.
	code := slices.Repeat([]impl.Tac{{Op: impl.TcNote, A: 249, B: 0}}, 649)
	for r := range 250 {
		code = append(code, show(249-r))
	}
	u := unit(4, 250, append(code, ret(0))...)
	out := impl.LiveOut(u)
	for i, got := range out {
		want := all[:min(250, max(898-i, 0))]
		switch {
		case i < 649:
			want = all
		case i == 898:
			want = these(0)
		}
		if !slices.Equal(got, want) {
			t.Fatalf("behind place %d there is live %s, not %s", i, clip(got), clip(want))
		}
	}
	checkNext(t, u)
	if len(out) != 900 || !slices.Equal(impl.LiveIn(u), all) {
		t.Errorf("of %d places, %s", len(out), clip(impl.LiveIn(u)))
	}
	// They are gone through from the last one to the first one, by 298 jumps back.
	code = []impl.Tac{jump(298), label(0)}
	for r := range 250 {
		code = append(code, show(r))
	}
	code = append(code, ret(7))
	for n := 1; n <= 298; n++ {
		code = append(code, label(n), jump(n-1))
	}
	for len(code) < 900 {
		code = append(code, jump(298))
	}
	u = unit(0, 250, code...)
	wantUnit(t, u)
	for i, got := range impl.LiveOut(u) {
		want := all
		switch x := u.Code[i]; x.Op {
		case impl.TcRet:
			want = nil
		case impl.TcPrint:
			want = all[x.A+1:]
			if x.A >= 7 {
				want = append(these(7), want...)
			}
		}
		if !slices.Equal(got, want) {
			t.Fatalf("behind place %d there is live %s, not %s", i, clip(got), clip(want))
		}
	}
	// All of them in one round, each set from the next one: to know it takes as many rounds as registers.
	code = []impl.Tac{label(0), show(0)}
	for r := range 249 {
		code = append(code, same(r, r+1))
	}
	u = unit(0, 250, append(code, jump(0))...)
	for i, got := range impl.LiveOut(u)[:251] {
		want := slices.Clone(all)
		if i > 0 && u.Code[i+1].Op == impl.TcCopy {
			want = slices.Delete(want, i-1, i)
		}
		if !slices.Equal(got, want) {
			t.Fatalf("behind place %d there is live %s, not %s", i, clip(got), clip(want))
		}
	}
	checkLiveness(t, u)
}

// flowDrawer draws units with few registers and many ways.
type flowDrawer struct{ *unitDrawer }

func newFlowDrawer(seed uint64) *flowDrawer { return &flowDrawer{newUnitDrawer(seed)} }

func (d *flowDrawer) unit() impl.Unit {
	d.regs, d.labels = 1+d.IntN(8), 1+d.IntN(8)
	u := impl.Unit{Name: d.name(), Params: d.IntN(min(d.regs, 4) + 1), Regs: d.regs}
	for range d.IntN(30) {
		x := d.place()
		switch d.IntN(6) {
		case 0:
			x = unless(d.register(), d.IntN(d.labels))
		case 1:
			x = jump(d.IntN(d.labels))
		case 2, 3:
			x = number(d.register(), d.IntN(9))
		}
		u.Code = append(u.Code, x)
	}
	u.Code = d.ended(u.Code)
	return u
}

// Promise 16 at drawn units, against a count by all ways on.
func TestDrawnUnitsAreLive(t *testing.T) {
	few, many := newFlowDrawer(161), newUnitDrawer(162)
	none, some, everything, loops := 0, 0, 0, 0
	for range 4000 {
		u := few.unit()
		checkLiveness(t, u)
		for i, live := range impl.LiveOut(u) {
			none += flag(len(live) == 0)
			some += flag(len(live) > 0 && len(live) < u.Regs)
			everything += flag(len(live) == u.Regs)
			for _, next := range impl.Next(u, i) {
				loops += flag(next < i)
			}
		}
	}
	if none < 5000 || some < 20000 || everything < 5000 || loops < 5000 {
		t.Errorf("nothing live %d times, some %d, all %d; back %d times", none, some, everything, loops)
	}
	for range 400 {
		checkLiveness(t, many.unit())
	}
}

func TestDrawnUnitsThatAreTurnedAreLive(t *testing.T) {
	d := newFlowDrawer(163)
	right, wrong := 0, 0
	for range 700 {
		u := d.unit()
		for range 8 {
			turned := d.turnUnit(u)
			checkLiveness(t, turned)
			if wantUnitOk(turned) {
				right++
			} else {
				wantNothingLive(t, turned)
				wrong++
			}
		}
	}
	if right < 500 || wrong < 2000 {
		t.Errorf("%d are right, %d are wrong", right, wrong)
	}
}

func TestUnitsOfDrawnProgramsAreLive(t *testing.T) {
	for _, low := range []bool{false, true} {
		d := &rightDrawer{drawer: newDrawer(164), low: low}
		for range 150 {
			for _, u := range impl.Lower(d.program(), low) {
				checkLiveness(t, u)
			}
		}
	}
	talk := newTalkDrawer(165)
	for range 100 {
		for _, u := range impl.Lower(parsed(t, talk.program()), false) {
			checkLiveness(t, u)
			// All values of a program are set ahead of being read: only params are live at the beginning.
			for _, r := range impl.LiveIn(u) {
				if r >= u.Params {
					t.Errorf("register %d of %s, which is no param, is live at the beginning", r, clip(u))
				}
			}
		}
	}
}

// deadTurned is the world with all else in each register that is not live where its frame is.
func deadTurned(w impl.World) (impl.World, int) {
	out, turned := cloneWorld(w), 0
	for _, b := range out.Bodies {
		for _, f := range b.Frames {
			u := out.Units[f.Unit]
			live := readFrom(u, impl.LiveOut(u), f.Pc)
			for r := range f.Regs {
				if !slices.Contains(live, r) {
					f.Regs[r] = wrap(7777 - f.Regs[r])
					turned++
				}
			}
		}
	}
	return out, turned
}

// Promise 16 where bodies run: what is not live is not read, so that it may be anything.
func TestWhatIsNotLiveIsNotRead(t *testing.T) {
	d := newTalkDrawer(166)
	met, printed := 0, 0
	for range 150 {
		w := worldOf(t, d.program())
		for range 6 {
			order := d.order(80)
			other, turned := deadTurned(w)
			met += turned
			one, kinds := impl.Steps(w, order)
			two, otherKinds := impl.Steps(other, order)
			printed += len(one.Out) - len(w.Out)
			if !slices.Equal(kinds, otherKinds) || !slices.Equal(one.Out, two.Out) || one.Over != two.Over || one.Code != two.Code {
				t.Errorf("with other words in what is not live %s goes on otherwise: %s, %s", clip(w), clip(kinds), clip(otherKinds))
			}
			w, _ = impl.Steps(w, d.order(12))
		}
	}
	if met < 20000 || printed < 1000 {
		t.Errorf("%d registers are turned, %d words are printed", met, printed)
	}
}

func TestLivenessWithListsThatAreEmptyAndNil(t *testing.T) {
	for _, empty := range [][]int{nil, {}, make([]int, 0, 9), []int{1, 2, 3}[3:], []int{2, 3, 4}[:0]} {
		for _, f := range tacForms {
			x := ordinaryTac(f)
			x.Args = empty
			checkLiveness(t, around(x))
		}
	}
	for _, code := range [][]impl.Tac{nil, {}, make([]impl.Tac, 0, 9), make([]impl.Tac, 3), []impl.Tac{ret(0)}[:0]} {
		wantNothingLive(t, impl.Unit{Regs: 1, Code: code})
		wantNothingLive(t, impl.Unit{Code: code})
	}
	// A unit without registers.
	wantLiveOf(t, impl.Unit{Code: []impl.Tac{label(0), jump(0)}}, nil, nil, nil)
	wantLiveOf(t, impl.Unit{Code: []impl.Tac{label(0), begin(""), jump(0)}}, nil, nil, nil, nil)
}

func TestLivenessOfVeryLongUnits(t *testing.T) {
	const far = 1000000
	wantNothingLive(t, unit(0, 1, slices.Repeat([]impl.Tac{ret(0)}, far)...))
	wantNothingLive(t, unit(0, 250, append(slices.Repeat([]impl.Tac{sum(1, 2, 3)}, far), ret(0))...))
	long := make([]int, far)
	text := strings.Repeat("a long name ", 200000)
	for _, f := range tacForms {
		x := ordinaryTac(f)
		x.Args = long
		wantNothingLive(t, around(x))
		if strings.Contains(f.names, "S") {
			x = ordinaryTac(f)
			x.S = text
			u := around(x)
			u.Name = text
			if got := impl.LiveOut(u); !sameLists(got, impl.LiveOut(around(ordinaryTac(f)))) {
				t.Errorf("with a very long text op %d is otherwise: %v", f.op, got)
			}
		}
	}
	for _, n := range append(edges(), manyNumbers(300)...) {
		u := impl.Unit{Name: "u", Params: n, Regs: n, Code: []impl.Tac{ret(0)}}
		checkLiveness(t, u)
		checkLiveness(t, unit(0, n, ret(n)))
		checkLiveness(t, unit(0, 250, ret(n)))
		checkLiveness(t, unit(0, 250, label(n), unless(0, n), jump(n)))
		checkLiveness(t, unit(0, 250, impl.Tac{Op: n, D: n, A: n, B: n, N: n, Args: []int{n, n, n}}, ret(0)))
		for _, f := range tacForms {
			for _, put := range registerFields(f) {
				x := ordinaryTac(f)
				put(&x, n)
				checkLiveness(t, around(x))
			}
		}
		u = unit(0, 1, show(0), ret(0))
		if got := impl.Next(u, n); len(got) != 0 && n != 0 {
			t.Errorf("Next at %d is %v", n, got)
		}
	}
}

// unitsToAsk are some that are right, and some of which something is amiss.
func unitsToAsk() []impl.Unit {
	d := newFlowDrawer(167)
	out := []impl.Unit{{}, unit(0, 1, ret(0)), unit(0, 250, show(7), show(249), show(0), ret(9))}
	for range 150 {
		u := d.unit()
		out = append(out, u, d.turnUnit(u))
	}
	for _, f := range tacForms {
		out = append(out, around(ordinaryTac(f)))
	}
	return out
}

func TestLivenessWritesIntoNothing(t *testing.T) {
	list := unitsToAsk()
	given, whole := roomyUnits(list)
	for i, u := range given {
		out, want := impl.LiveOut(u), impl.LiveOut(list[i])
		if !sameLists(out, want) || !slices.Equal(impl.LiveIn(u), impl.LiveIn(list[i])) {
			t.Errorf("%s is answered otherwise with room behind its lists", clip(u))
		}
		spoil(impl.LiveIn(u))
		for k := range u.Code {
			spoil(impl.Next(u, k))
		}
		for _, live := range out {
			spoil(live)
		}
	}
	if !roomIsAsItWas(given, whole) {
		t.Error("the units, or the room behind their lists, are written into")
	}
}

// What one answer holds is its own: no two lists of it share memory, nor do two answers.
func TestEachListOfLivenessIsItsOwn(t *testing.T) {
	for _, u := range append(unitsToAsk(), unit(0, 250, label(0), show(1), show(2), jump(0))) {
		want := impl.LiveOut(u)
		for i := range want {
			out := impl.LiveOut(u)
			spoil(out[i])
			for k, live := range out {
				if k != i && !slices.Equal(live, want[k]) {
					t.Errorf("of %s what is live behind places %d and %d shares memory", clip(u), i, k)
				}
			}
			clear(out[:cap(out)])
		}
		again := impl.LiveOut(u)
		in, in2 := impl.LiveIn(u), impl.LiveIn(u)
		spoil(in)
		if !sameLists(again, want) || !slices.Equal(in2, impl.LiveIn(u)) {
			t.Errorf("what is live in %s is not its own", clip(u))
		}
		for i := range u.Code {
			one, two := impl.Next(u, i), impl.Next(u, i)
			spoil(one)
			if !slices.Equal(two, wantNext(u, i)) || !slices.Equal(impl.Next(u, i), two) {
				t.Errorf("what is next to place %d of %s is not its own", i, clip(u))
			}
		}
	}
}

// The order in which a map is gone through is another each time.
func TestLivenessAnswersTheSameAgain(t *testing.T) {
	units := unitsToAsk()
	for i, u := range units {
		out, in := impl.LiveOut(u), impl.LiveIn(u)
		for range 10 {
			impl.LiveOut(units[(i+1)%len(units)])
			if !sameLists(impl.LiveOut(u), out) || !slices.Equal(impl.LiveIn(u), in) {
				t.Errorf("what is live in %s is not the same again", clip(u))
			}
		}
	}
}

func TestLivenessSideBySide(t *testing.T) {
	units := unitsToAsk()
	var group sync.WaitGroup
	wrong := make([]int, 8)
	for worker := range wrong {
		group.Go(func() {
			for _, u := range units {
				behind, first := readLater(u)
				wrong[worker] += flag(!sameLists(impl.LiveOut(u), behind) || !slices.Equal(impl.LiveIn(u), first))
				for i := range u.Code {
					wrong[worker] += flag(!slices.Equal(impl.Next(u, i), wantNext(u, i)))
				}
			}
		})
	}
	group.Wait()
	if !slices.Equal(wrong, make([]int, 8)) {
		t.Errorf("answers side by side are others: %v", wrong)
	}
}
