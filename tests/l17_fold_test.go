package tests

import (
	"math"
	"slices"
	"strings"
	"sync"
	"testing"

	"loop.example/g00286/impl"
)

// pass makes another unit of each one; want is the document's words of it.
type pass struct {
	name     string
	do, want func(u impl.Unit) impl.Unit
	// several is of one that is made of others: what it made may be turned by it once more, and words may be in other registers.
	several bool
}

var fold = pass{name: "Fold", do: impl.Fold, want: wantFold}

// check holds a pass against the model, and asks what holds of each answer.
func (p pass) check(t *testing.T, u impl.Unit) impl.Unit {
	t.Helper()
	kept := cloneUnit(u)
	got, want := p.do(u), p.want(u)
	if !sameUnit(got, want) {
		t.Errorf("%s(%s) = %s, not %s", p.name, clip(u), unlikeUnits(got, want), clip(want))
	}
	if !sameUnit(u, kept) {
		t.Errorf("%s writes into %s", p.name, clip(kept))
	}
	if wantUnitOk(u) != impl.UnitOk(got) {
		t.Errorf("%s is right: %v, and behind %s: %v", clip(u), wantUnitOk(u), p.name, impl.UnitOk(got))
	}
	// What it would turn is turned, so that nothing more is.
	if again := p.do(got); !p.several && !sameUnit(again, got) {
		t.Errorf("%s is another behind %s once more: %s", clip(got), p.name, unlikeUnits(again, got))
	}
	return got
}

func checkFold(t *testing.T, u impl.Unit) impl.Unit {
	t.Helper()
	return fold.check(t, u)
}

// unlikeUnits tells where two units differ first.
func unlikeUnits(got, want impl.Unit) string {
	for i := range min(len(got.Code), len(want.Code)) {
		if !sameTac(got.Code[i], want.Code[i]) {
			return "at " + impl.Digits(i) + ": " + tacText(got.Code[i]) + ", not " + tacText(want.Code[i]) + ", of " + clip(got)
		}
	}
	return clip(got)
}

// wantMade is of a unit that is right, and of its places behind the pass.
func (p pass) wantMade(t *testing.T, u impl.Unit, code ...impl.Tac) {
	t.Helper()
	if !impl.UnitOk(u) {
		t.Fatalf("%s is not right: %v", clip(u), unitFaults(u))
	}
	want := u
	want.Code = code
	if got := p.do(u); !sameUnit(got, want) {
		t.Errorf("%s of %s is %s, not %s: %s", p.name, clip(codeText(u.Code)), clip(codeText(got.Code)), clip(codeText(code)), unlikeUnits(got, want))
	}
	p.check(t, u)
}

// wantLeft is of a unit that the pass leaves as it is.
func (p pass) wantLeft(t *testing.T, u impl.Unit) {
	t.Helper()
	p.wantMade(t, u, cloneUnit(u).Code...)
}

func wantFolded(t *testing.T, u impl.Unit, code ...impl.Tac) {
	t.Helper()
	fold.wantMade(t, u, code...)
}

func wantAsItIs(t *testing.T, u impl.Unit) {
	t.Helper()
	fold.wantLeft(t, u)
}

// twelve sets each register of twelve to a word of its own, and askedFor asks for each of them, by copies into themselves.
func twelve() []impl.Tac {
	var code []impl.Tac
	for r := range aroundRegs {
		code = append(code, number(r, 100+r))
	}
	return code
}

func askedFor() []impl.Tac {
	var code []impl.Tac
	for r := range aroundRegs {
		code = append(code, same(r, r))
	}
	return code
}

// wantKnownBehind is of a place behind which, where all registers were known ahead of it, all are known but those that are told; stands is what stands in its place.
func wantKnownBehind(t *testing.T, x impl.Tac, stands []impl.Tac, lost ...int) {
	t.Helper()
	end := []impl.Tac{label(aroundLabel), ret(0)}
	want := append(twelve(), stands...)
	for r, x := range askedFor() {
		if !slices.Contains(lost, r) {
			x = number(r, 100+r)
		}
		want = append(want, x)
	}
	wantFolded(t, unit(2, aroundRegs, slices.Concat(twelve(), []impl.Tac{x}, askedFor(), end)...), append(want, end...)...)
}

func TestFoldOfAProgram(t *testing.T) {
	for _, c := range []struct{ src, want string }{
		{"func main() { let a = 2; let b = a * 3 + 1; print b - a; return b; }",
			"num 0 0; num 1 0; num 2 2; num 0 2; num 3 3; num 4 6; num 5 1; num 6 7; num 1 7; num 7 5; print 7; ret 1; num 8 0; ret 8"},
		{"func main() { let a = 1; if a { print 4; } else { print 5; } }",
			"num 0 0; num 1 1; num 0 1; num 2 4; print 2; jump 1; label 0; num 3 5; print 3; label 1; num 4 0; ret 4"},
		{"func main() { let a = 3 < 2; if a { print 4; } else { print 5; } }",
			"num 0 0; num 1 3; num 2 2; num 3 0; num 0 0; jump 0; num 4 4; print 4; jump 1; label 0; num 5 5; print 5; label 1; num 6 0; ret 6"},
		// In a loop nothing is known of what was set ahead of it, nor of what is set behind where one goes back to.
		{"func main() { let a = 2; while a { a = a - 1; } print a + 2147483647; }",
			"num 0 0; num 1 2; num 0 2; label 0; zero 0 1; num 2 1; sub 3 0 2; copy 0 3; jump 0; label 1; num 4 2147483647; add 5 0 4; print 5; num 6 0; ret 6"},
		{"func f(n) { return n + 1 * 2; } func main() { print f(3 - 4); }", "num 1 1; num 2 2; num 3 2; add 4 0 3; ret 4; num 5 0; ret 5 & num 0 3; num 1 4; num 2 -1; call 3 f 2; print 3; num 4 0; ret 4"},
	} {
		var got []string
		for _, u := range impl.Lower(parsed(t, c.src), false) {
			got = append(got, codeText(checkFold(t, u).Code))
		}
		if text := strings.Join(got, " & "); text != c.want {
			t.Errorf("%q is folded to %q, not %q", c.src, text, c.want)
		}
	}
}

// wantNotTurned is of a unit that is not right.
func (p pass) wantNotTurned(t *testing.T, u impl.Unit) {
	t.Helper()
	if got := p.do(u); !sameUnit(got, u) || impl.UnitOk(u) {
		t.Errorf("%s(%s) = %s, of what is not right", p.name, clip(u), unlikeUnits(got, u))
	}
}

// wantWrongNotTurned is of units that are not right, as they are and with places ahead of all that the pass would turn.
func (p pass) wantWrongNotTurned(t *testing.T, turned ...impl.Tac) {
	t.Helper()
	for _, wrong := range wrongUnits() {
		ahead := wrong
		ahead.Code = slices.Concat(turned, wrong.Code)
		for _, u := range []impl.Unit{wrong, ahead} {
			p.wantNotTurned(t, u)
			p.check(t, u)
		}
	}
	// One place that is amiss among the most of them.
	for _, at := range []int{0, 1, 2, 450, 898, 899} {
		u := unit(0, 250, append(slices.Repeat(turned, 900/len(turned))[:899], ret(0))...)
		wantUnit(t, u)
		if sameUnit(p.do(u), u) {
			t.Errorf("%s turns nothing of %s", p.name, clip(u))
		}
		u.Code[at].Op = 29
		p.wantNotTurned(t, u)
	}
}

func TestFoldOfUnitsThatAreNotRight(t *testing.T) {
	fold.wantWrongNotTurned(t, number(0, 5), same(0, 0), sum(0, 0, 0))
}

func TestNothingIsKnownAtTheBeginning(t *testing.T) {
	for r := range 6 {
		other := (r + 1) % 6
		for params := range 5 {
			for _, x := range []impl.Tac{same(other, r), same(r, r), sum(other, r, r), place(impl.TcSub, other, r, r), place(impl.TcMul, r, r, r), place(impl.TcLess, other, r, r), place(impl.TcSame, other, r, r), show(r)} {
				wantAsItIs(t, unit(params, 6, x, ret(other)))
			}
			wantAsItIs(t, unit(params, 6, unless(r, 3), show(other), label(3), ret(r)))
			// It is known as soon as it is set, and that alone.
			wantFolded(t, unit(params, 6, same(other, r), number(r, 4), same(r, r), sum(other, r, other), ret(0)), same(other, r), number(r, 4), number(r, 4), sum(other, r, other), ret(0))
		}
	}
}

func TestNumbersAreKnown(t *testing.T) {
	for _, n := range words() {
		for _, d := range []int{0, 1, 125, 248, 249} {
			other := 249 - d
			u := unit(4, 250, number(d, n), same(other, d), show(other), ret(d))
			if n < least || n > greatest {
				if got := impl.Fold(u); !sameUnit(got, u) {
					t.Errorf("with %d, which is no word, there is %s", n, clip(got))
				}
				continue
			}
			wantFolded(t, u, number(d, n), number(other, n), show(other), ret(d))
		}
	}
	// What was set last counts.
	wantFolded(t, unit(0, 3, number(0, 5), number(0, 6), same(1, 0), number(0, 7), same(2, 0), same(2, 1), ret(2)), number(0, 5), number(0, 6), number(1, 6), number(0, 7), number(2, 7), number(2, 6), ret(2))
	wantFolded(t, unit(0, 3, number(0, 5), number(1, 5), number(1, 6), same(2, 0), ret(2)), number(0, 5), number(1, 5), number(1, 6), number(2, 5), ret(2))
}

func TestCopiesOfWhatIsKnown(t *testing.T) {
	wantFolded(t, unit(0, 4, number(0, 5), same(1, 0), same(2, 1), same(3, 2), same(0, 3), ret(0)), number(0, 5), number(1, 5), number(2, 5), number(3, 5), number(0, 5), ret(0))
	// Into itself.
	wantFolded(t, unit(0, 2, number(0, 0), same(0, 0), same(0, 0), ret(0)), number(0, 0), number(0, 0), number(0, 0), ret(0))
	wantAsItIs(t, unit(0, 2, same(0, 0), same(0, 0), ret(0)))
	// It has the word of then, whatever becomes of the other one.
	wantFolded(t, unit(0, 4, number(0, 5), same(1, 0), number(0, 6), same(2, 1), into(1, call("f")), same(3, 2), same(3, 0), same(3, 1), ret(0)), number(0, 5), number(1, 5), number(0, 6), number(2, 5), into(1, call("f")), number(3, 5), number(3, 6), same(3, 1), ret(0))
	// What is not known makes what was known not known.
	wantFolded(t, unit(1, 3, number(1, 5), same(1, 0), same(2, 1), ret(2)), number(1, 5), same(1, 0), same(2, 1), ret(2))
	wantFolded(t, unit(1, 4, number(1, 5), number(2, 6), same(1, 0), same(3, 1), same(3, 2), same(1, 3), ret(2)), number(1, 5), number(2, 6), same(1, 0), same(3, 1), number(3, 6), number(1, 6), ret(2))
	for d := range 5 {
		for a := range 5 {
			for known := range 5 {
				set, x := number(known, -9), same(d, a)
				want := []impl.Tac{set, x, same(0, known)}
				if a == known {
					want[1] = number(d, -9)
				}
				if d != known || a == known {
					want[2] = number(0, -9)
				}
				wantFolded(t, unit(2, 5, set, x, same(0, known), ret(0)), append(want, ret(0))...)
			}
		}
	}
}

// theFive are TcAdd to TcSame, with what they make of two words.
func theFive(a, b int) map[int]int {
	return map[int]int{impl.TcAdd: wrap(a + b), impl.TcSub: wrap(a - b), impl.TcMul: wrap(a * b), impl.TcLess: flag(a < b), impl.TcSame: flag(a == b)}
}

func TestWhatIsMadeOfTwoThatAreKnown(t *testing.T) {
	for _, pair := range wordPairs() {
		a, b := pair[0], pair[1]
		set := []impl.Tac{number(1, a), number(2, b)}
		for op, word := range theFive(a, b) {
			// Into a third one, and into each of both; and it is known then.
			for d := range 3 {
				wantFolded(t, unit(1, 4, append(set, place(op, d, 1, 2), same(3, d), ret(3))...), append(slices.Clone(set), number(d, word), number(3, word), ret(3))...)
			}
		}
		for op, word := range theFive(a, a) {
			for d := range 3 {
				wantFolded(t, unit(1, 4, append(set, place(op, d, 1, 1), same(3, d), ret(3))...), append(slices.Clone(set), number(d, word), number(3, word), ret(3))...)
			}
		}
	}
	for _, c := range []struct{ op, a, b, word int }{
		{impl.TcAdd, greatest, 1, least}, {impl.TcAdd, least, -1, greatest}, {impl.TcAdd, least, least, 0}, {impl.TcAdd, greatest, greatest, -2},
		{impl.TcSub, least, 1, greatest}, {impl.TcSub, greatest, -1, least}, {impl.TcSub, 0, least, least}, {impl.TcSub, 2, 40, -38}, {impl.TcSub, least, greatest, 1},
		{impl.TcMul, 65536, 65536, 0}, {impl.TcMul, 65536, 32768, least}, {impl.TcMul, least, -1, least}, {impl.TcMul, least, least, 0}, {impl.TcMul, greatest, greatest, 1}, {impl.TcMul, 46341, 46341, -2147479015},
		{impl.TcLess, least, greatest, 1}, {impl.TcLess, greatest, least, 0}, {impl.TcLess, 3, 3, 0}, {impl.TcLess, -1, 0, 1},
		{impl.TcSame, least, greatest, 0}, {impl.TcSame, least, least, 1}, {impl.TcSame, 0, 0, 1}, {impl.TcSame, 1, -1, 0},
	} {
		wantFolded(t, unit(0, 3, number(0, c.a), number(1, c.b), place(c.op, 2, 0, 1), ret(2)), number(0, c.a), number(1, c.b), number(2, c.word), ret(2))
	}
}

func TestWhatIsMadeWhereOneOrNoneIsKnown(t *testing.T) {
	for op := range theFive(0, 0) {
		for _, n := range []int{0, 1, -1, 2, least, greatest} {
			for d := range 4 {
				// Registers 0 and 3 are not known, 1 is, and 2 is, too, so that it is seen whether it is still.
				for _, ab := range [][2]int{{0, 1}, {1, 0}, {0, 0}, {0, 3}, {3, 0}, {0, 2}, {2, 3}} {
					x := place(op, d, ab[0], ab[1])
					want := []impl.Tac{number(1, n), number(2, 33), x, same(4, 1), same(5, 2), same(4, d), ret(4)}
					if d != 1 {
						want[3] = number(4, n)
					}
					if d != 2 {
						want[4] = number(5, 33)
					}
					wantFolded(t, unit(1, 6, number(1, n), number(2, 33), x, same(4, 1), same(5, 2), same(4, d), ret(4)), want...)
				}
			}
		}
		// Not known by the same place twice, and not by what is the same on both sides.
		wantAsItIs(t, unit(1, 3, place(op, 1, 0, 0), place(op, 2, 1, 1), place(op, 1, 1, 2), ret(1)))
		// D is A or B, and both are known: what it had is read ahead of being set.
		wantFolded(t, unit(0, 2, number(0, 6), number(1, 7), place(op, 0, 0, 1), place(op, 1, 0, 1), ret(1)), number(0, 6), number(1, 7), number(0, theFive(6, 7)[op]), number(1, theFive(theFive(6, 7)[op], 7)[op]), ret(1))
	}
}

func TestTestsOfWhatIsKnown(t *testing.T) {
	for _, n := range []int{0, 1, -1, 2, 7, 256, 65536, -65536, least, least + 1, greatest} {
		for _, to := range []int{0, 7, 900} {
			u := unit(1, 4, number(1, n), unless(1, to), same(2, 1), show(2), label(to), ret(2))
			if n == 0 {
				// What is known goes on behind it, though nobody comes there then.
				wantFolded(t, u, number(1, 0), jump(to), number(2, 0), show(2), label(to), ret(2))
			} else {
				wantFolded(t, u, number(1, n), number(2, n), show(2), label(to), ret(2))
			}
			// Back to a label that stands ahead of it.
			u = unit(1, 4, label(to), show(0), number(3, n), unless(3, to), same(2, 3), ret(2))
			if n == 0 {
				wantFolded(t, u, label(to), show(0), number(3, 0), jump(to), number(2, 0), ret(2))
			} else {
				wantFolded(t, u, label(to), show(0), number(3, n), number(2, n), ret(2))
			}
		}
	}
	// One by what was reckoned.
	wantFolded(t, unit(0, 3, number(0, 4), place(impl.TcSub, 1, 0, 0), unless(1, 5), label(5), ret(1)), number(0, 4), number(1, 0), jump(5), label(5), ret(1))
	wantFolded(t, unit(0, 3, number(0, 4), place(impl.TcSame, 1, 0, 0), unless(1, 5), label(5), ret(1)), number(0, 4), number(1, 1), label(5), ret(1))
	// Many, one behind the other, at the beginning of what is known and right ahead of the end.
	wantFolded(t, unit(0, 2, number(0, 1), unless(0, 3), unless(0, 3), unless(0, 4), label(3), label(4), ret(1)), number(0, 1), label(3), label(4), ret(1))
	wantFolded(t, unit(0, 2, number(0, 0), unless(0, 3), unless(0, 4), unless(0, 3), label(3), label(4), ret(1)), number(0, 0), jump(3), jump(4), jump(3), label(3), label(4), ret(1))
	wantFolded(t, unit(0, 2, label(3), number(0, 1), unless(0, 3), ret(1)), label(3), number(0, 1), ret(1))
	wantFolded(t, unit(0, 2, label(3), number(0, 1), unless(0, 3), halts(1)), label(3), number(0, 1), halts(1))
	wantFolded(t, unit(0, 2, label(3), number(0, 1), unless(0, 3), jump(3)), label(3), number(0, 1), jump(3))
}

func TestTestsOfWhatIsNotKnown(t *testing.T) {
	// Neither is it known behind such a test that it is not 0, nor at its label that it is.
	wantAsItIs(t, unit(1, 3, unless(0, 5), same(1, 0), unless(0, 5), show(1), label(5), same(2, 0), unless(0, 5), ret(2)))
	// Others are known behind it as ahead of it.
	wantFolded(t, unit(1, 3, number(1, 8), unless(0, 5), same(2, 1), unless(1, 5), label(5), ret(2)), number(1, 8), unless(0, 5), number(2, 8), label(5), ret(2))
	// Known no more.
	wantAsItIs(t, unit(1, 3, number(1, 0), into(1, call("f")), unless(1, 5), label(5), ret(1)))
	wantAsItIs(t, unit(1, 3, number(1, 8), same(1, 0), unless(1, 5), label(5), ret(1)))
	wantAsItIs(t, unit(1, 3, number(1, 8), sum(1, 1, 0), unless(1, 5), label(5), ret(1)))
	wantAsItIs(t, unit(1, 3, number(1, 8), label(5), unless(1, 5), ret(1)))
}

func TestNothingIsKnownBehindALabel(t *testing.T) {
	// To which nothing goes, to which one goes from ahead, and from behind, and both.
	wantAsItIs(t, unit(0, 3, number(0, 5), label(1), same(1, 0), ret(1)))
	wantAsItIs(t, unit(0, 3, number(0, 5), jump(1), label(1), same(1, 0), ret(1)))
	wantAsItIs(t, unit(0, 3, number(0, 5), label(1), same(1, 0), jump(1)))
	wantAsItIs(t, unit(0, 3, number(0, 5), jump(1), show(0), label(1), same(1, 0), jump(1)))
	wantAsItIs(t, unit(1, 3, number(1, 5), unless(0, 1), show(1), label(1), sum(2, 1, 1), ret(2)))
	wantAsItIs(t, unit(1, 3, number(1, 5), label(1), unless(1, 1), ret(2)))
	// By all ways that come there a register has the same word; it is not known all the same.
	wantAsItIs(t, unit(1, 3, unless(0, 1), number(1, 5), jump(2), label(1), number(1, 5), label(2), same(2, 1), ret(2)))
	// Right at the beginning, and right behind another one: what is set behind it is known.
	wantFolded(t, unit(0, 3, label(1), same(1, 0), number(0, 5), same(1, 0), ret(1)), label(1), same(1, 0), number(0, 5), number(1, 5), ret(1))
	wantFolded(t, unit(0, 3, number(0, 5), label(1), label(2), same(1, 0), number(0, 5), same(1, 0), label(3), label(4), same(1, 0), ret(1)), number(0, 5), label(1), label(2), same(1, 0), number(0, 5), number(1, 5), label(3), label(4), same(1, 0), ret(1))
	wantFolded(t, unit(0, 3, label(900), label(0), number(2, 1), unless(2, 0), label(450), unless(2, 900), ret(1)), label(900), label(0), number(2, 1), label(450), unless(2, 900), ret(1))
	// A TcZero whose label is the next place.
	wantFolded(t, unit(0, 3, number(0, 0), unless(0, 1), label(1), unless(0, 2), label(2), ret(1)), number(0, 0), jump(1), label(1), unless(0, 2), label(2), ret(1))
	// Of all registers at once.
	wantKnownBehind(t, label(8), []impl.Tac{label(8)}, firstRegs(aroundRegs)...)
	var code []impl.Tac
	for r := range 250 {
		code = append(code, number(r, r-125))
	}
	code = append(code, label(3))
	for r := range 250 {
		code = append(code, same(r, 249-r))
	}
	wantAsItIs(t, unit(4, 250, append(code, ret(0))...))
}

// Place by place: what is known goes on behind an end, to what comes there only by a label, up to that label.
func TestWhatIsKnownGoesOnBehindAnEnd(t *testing.T) {
	for _, end := range []impl.Tac{ret(1), halts(1), jump(9)} {
		wantFolded(t, unit(0, 3, number(0, 5), end, same(1, 0), show(1), label(9), same(1, 0), ret(1)), number(0, 5), end, number(1, 5), show(1), label(9), same(1, 0), ret(1))
		wantFolded(t, unit(0, 3, label(9), number(0, 0), end, unless(0, 9), sum(1, 0, 0), ret(1)), label(9), number(0, 0), end, jump(9), number(1, 0), ret(1))
	}
}

// Each op, with all registers known ahead of it: those that it sets are not known behind it, unless it makes a word, and all others are.
func TestWhatIsKnownBehindEachOp(t *testing.T) {
	for _, f := range tacForms {
		x := ordinaryTac(f)
		switch {
		case f.op == impl.TcLabel:
		case f.op == impl.TcZero:
			wantKnownBehind(t, x, nil)
		case f.op > impl.TcSame:
			wantKnownBehind(t, x, []impl.Tac{x}, toldBy(x, f.sets)...)
			for _, put := range registerFields(f) {
				for r := range aroundRegs {
					x := ordinaryTac(f)
					put(&x, r)
					wantKnownBehind(t, x, []impl.Tac{x}, toldBy(x, f.sets)...)
				}
			}
		default:
			checkFold(t, unit(2, aroundRegs, slices.Concat(twelve(), []impl.Tac{x}, askedFor(), []impl.Tac{ret(0)})...))
		}
	}
	// A select sets two registers, or one of them twice, and its cases may name them, too.
	for d := range 5 {
		for b := range 5 {
			for n := range 2 {
				for _, args := range [][]int{{1, 3, 0}, {2, 3, 4}, {2, 4, 4}, {1, 0, 0, 2, 1, 2}, {2, 7, 6, 1, 5, 0, 2, 4, 3}} {
					x := choose(d, b, n, args...)
					wantKnownBehind(t, x, []impl.Tac{x}, d, b)
				}
			}
		}
	}
	for _, args := range [][]int{nil, {}, {5}, {5, 5}, {6, 5}, {4, 3, 2}, {7, 5, 6, 4}, {0, 0, 0, 0}} {
		for d := range 8 {
			x := into(d, call("f", args...))
			wantKnownBehind(t, x, []impl.Tac{x}, d)
		}
		x := begin("f", args...)
		wantKnownBehind(t, x, []impl.Tac{x})
	}
	// The core's number, and where a unit begins, are words that are the same each time, and not known.
	wantAsItIs(t, unit(0, 3, impl.Tac{Op: impl.TcCore, D: 1}, same(2, 1), ret(2)))
	wantAsItIs(t, unit(0, 3, impl.Tac{Op: impl.TcAddr, D: 1, S: "f"}, same(2, 1), ret(2)))
}

func TestAllElseIsAsItWas(t *testing.T) {
	for _, name := range []string{"", "u", "main", "let", "a name\x00 of bytes \xff", strings.Repeat("long ", 5000)} {
		for params := range 5 {
			for _, regs := range []int{4, 5, 249, 250} {
				code := []impl.Tac{number(0, 5), same(1, 0), into(2, call(name, 0, 1)), begin(name, 3), {Op: impl.TcAddr, D: 3, S: name}, ret(2)}
				u := impl.Unit{Name: name, Params: params, Regs: regs, Code: code}
				got := checkFold(t, u)
				if got.Name != name || got.Params != params || got.Regs != regs || len(got.Code) != len(code) || !sameTac(got.Code[1], number(1, 5)) {
					t.Errorf("of %s there is %s", clip(u), clip(got))
				}
				for i, x := range code {
					if i != 1 && !sameTac(got.Code[i], x) {
						t.Errorf("place %d of %s is %s", i, clip(u), clip(got.Code[i]))
					}
				}
			}
		}
	}
	// In their order.
	var code, want []impl.Tac
	for n := range 100 {
		code = append(code, number(1, n), unless(1, 0), same(2, 1), show(n%3), label(n), show(2))
		if n == 0 {
			want = append(want, number(1, 0), jump(0), number(2, 0), show(0), label(0), show(2))
		} else {
			want = append(want, number(1, n), number(2, n), show(n%3), label(n), show(2))
		}
	}
	wantFolded(t, unit(3, 3, append(code, ret(0))...), append(want, ret(0))...)
}

// knownDrawer draws units in which much is known.
type knownDrawer struct{ *unitDrawer }

func newKnownDrawer(seed uint64) *knownDrawer { return &knownDrawer{newUnitDrawer(seed)} }

func (d *knownDrawer) unit() impl.Unit {
	d.regs, d.labels = 1+d.IntN(6), 1+d.IntN(5)
	u := impl.Unit{Name: d.name(), Params: d.IntN(min(d.regs, 4) + 1), Regs: d.regs}
	for range d.IntN(40) {
		var x impl.Tac
		switch d.IntN(10) {
		case 0, 1:
			x = number(d.register(), []int{least, -1, 0, 0, 1, 2, 7, greatest}[d.IntN(8)])
		case 2, 3, 4, 5:
			x = place(impl.TcAdd+d.IntN(5), d.register(), d.register(), d.register())
		case 6:
			x = same(d.register(), d.register())
		case 7, 8:
			x = unless(d.register(), d.IntN(d.labels))
		default:
			x = d.place()
		}
		u.Code = append(u.Code, x)
	}
	u.Code = d.ended(u.Code)
	return u
}

// countFolds counts how often what is known is met, and what comes of it.
func countFolds(u, folded impl.Unit, met map[string]int) {
	count := func(u impl.Unit, op int) int {
		return len(slices.DeleteFunc(slices.Clone(u.Code), func(x impl.Tac) bool { return x.Op != op }))
	}
	for op := impl.TcCopy; op <= impl.TcSame; op++ {
		met["known "+tacWords[op-1]] += count(u, op) - count(folded, op)
		met["unknown "+tacWords[op-1]] += count(folded, op)
	}
	met["jump"] += count(folded, impl.TcJump) - count(u, impl.TcJump)
	met["nothing"] += len(u.Code) - len(folded.Code)
	met["unknown zero"] += count(folded, impl.TcZero)
}

func TestDrawnUnitsAreFolded(t *testing.T) {
	known, few, many := newKnownDrawer(171), newFlowDrawer(172), newUnitDrawer(173)
	met := map[string]int{}
	for range 4000 {
		u := known.unit()
		countFolds(u, checkFold(t, u), met)
		checkFold(t, few.unit())
	}
	for _, name := range strings.Split("known copy,unknown copy,known add,unknown add,known sub,unknown sub,known mul,unknown mul,known less,unknown less,known same,unknown same,jump,nothing,unknown zero", ",") {
		if met[name] < 500 {
			t.Errorf("%s is met %d times", name, met[name])
		}
	}
	for range 1000 {
		checkFold(t, many.unit())
	}
}

// wantTurnedUnits is of drawn units of which one thing is turned, so that most of them are not right.
func (p pass) wantTurnedUnits(t *testing.T, d interface {
	unit() impl.Unit
	turnUnit(u impl.Unit) impl.Unit
}) {
	t.Helper()
	right, wrong := 0, 0
	for range 1000 {
		u := d.unit()
		for range 8 {
			turned := d.turnUnit(u)
			p.check(t, turned)
			if wantUnitOk(turned) {
				right++
			} else {
				wrong++
				p.wantNotTurned(t, turned)
			}
		}
	}
	if right < 500 || wrong < 2000 {
		t.Errorf("%d are right, %d are wrong", right, wrong)
	}
}

func TestDrawnUnitsThatAreTurnedAreFolded(t *testing.T) {
	fold.wantTurnedUnits(t, newKnownDrawer(174))
}

func TestUnitsOfDrawnProgramsAreFolded(t *testing.T) {
	for _, low := range []bool{false, true} {
		d := &rightDrawer{drawer: newDrawer(175), low: low}
		for range 200 {
			units := impl.Lower(d.program(), low)
			if folded := foldedUnits(t, units); impl.UnitsOk(units) != impl.UnitsOk(folded) {
				t.Errorf("%s is right: %v, and folded: %v", clip(units), impl.UnitsOk(units), impl.UnitsOk(folded))
			}
		}
	}
}

func foldedUnits(t *testing.T, units []impl.Unit) []impl.Unit {
	t.Helper()
	var out []impl.Unit
	for _, u := range units {
		out = append(out, checkFold(t, u))
	}
	return out
}

// wantSameDiary is of a unit that is right: folded it does the same from the same words on, with no more places.
func wantSameDiary(t *testing.T, u impl.Unit, regs []int) (lines int, whole bool) {
	t.Helper()
	const most = 300
	was, ended := diary(u, regs, most)
	now, endedNow := diary(impl.Fold(u), regs, most)
	// Without the tests that are no more it comes further by as many places.
	if len(now) < len(was) || ended && (!endedNow || len(now) > len(was)) || !slices.Equal(now[:len(was)], was) {
		t.Errorf("%s, from %v on, does %s, and folded %s", codeText(u.Code), regs, clip(was), clip(now))
	}
	return len(was), ended
}

// Promise 17 at drawn units, one place behind the other, with the same words in their registers.
func TestDrawnUnitsDoTheSameFolded(t *testing.T) {
	t.Parallel()
	lines, ended := 0, 0
	for seed, unit := range []func() impl.Unit{newKnownDrawer(176).unit, newFlowDrawer(177).unit, newUnitDrawer(178).unit} {
		d := newDrawer(uint64(170 + seed))
		for range 1500 {
			u := unit()
			for range 4 {
				regs := make([]int, u.Regs)
				for r := range regs {
					regs[r] = []int{0, 0, 1, -1, 5, least, greatest}[d.IntN(7)]
				}
				count, whole := wantSameDiary(t, u, regs)
				lines += count
				ended += flag(whole)
			}
		}
	}
	if lines < 200000 || ended < 3000 {
		t.Errorf("%d lines, %d come to an end", lines, ended)
	}
}

// wantSameWorld is of two worlds whose units differ by being folded: but for these, and for the places where their frames are, they are the same.
func wantSameWorld(t *testing.T, was, now impl.World) {
	t.Helper()
	now = cloneWorld(now)
	now.Units = was.Units
	if len(now.Bodies) == len(was.Bodies) {
		for id, b := range now.Bodies {
			for i := range min(len(b.Frames), len(was.Bodies[id].Frames)) {
				b.Frames[i].Pc = was.Bodies[id].Frames[i].Pc
			}
		}
	}
	if !sameWorld(was, now) {
		t.Errorf("folded it is another:\n%s", unlikeWorlds(now, was))
	}
}

// Promise 17 where bodies run: what they do, print and have in their registers is the same, step by step.
func TestWorldsOfFoldedUnitsGoOnTheSame(t *testing.T) {
	d := newTalkDrawer(179)
	printed, over, folds := 0, 0, 0
	for range 300 {
		src := d.program()
		w := worldOf(t, src)
		folded := foldedUnits(t, w.Units)
		now, ok := impl.WorldNew(folded)
		if !ok {
			t.Fatalf("%q, folded, has no world", src)
		}
		for i, u := range folded {
			folds += flag(!sameUnit(u, w.Units[i]))
		}
		for range 4 {
			var kinds, kindsNow []int
			order := d.order(40)
			w, kinds = impl.Steps(w, order)
			now, kindsNow = impl.Steps(now, order)
			if !slices.Equal(kinds, kindsNow) {
				t.Errorf("%q by %v does %v, and folded %v", src, order, kinds, kindsNow)
			}
			wantSameWorld(t, w, now)
		}
		printed += len(w.Out)
		over += flag(w.Over)
		if t.Failed() {
			t.Fatalf("%q", src)
		}
	}
	if printed < 1000 || over < 50 || folds < 500 {
		t.Errorf("%d words are printed, %d are over, %d units are folded", printed, over, folds)
	}
}

// What is lowered, folded and run is what the trees reckon.
func TestWhatIsFoldedReckonsTheSame(t *testing.T) {
	d := &runDrawer{drawer: newDrawer(170)}
	done, printed := 0, 0
	for range 800 {
		list := d.program()
		if units := foldedUnits(t, impl.Lower(list, false)); len(units) > 0 {
			some, prints := d.wantUnitsReckonTheSame(t, list, units)
			done, printed = done+some, printed+prints
		}
	}
	if done < 700 || printed < 400 {
		t.Errorf("%d are done, %d print", done, printed)
	}
}

// The most registers and the most places.
func TestFoldOfTheLargestUnits(t *testing.T) {
	// Each of 250 registers is known, and each copy of one.
	var code, want []impl.Tac
	for r := range 250 {
		code = append(code, number(r, greatest-r))
	}
	want = slices.Clone(code)
	for i := range 649 {
		code = append(code, sum(i%250, (i+1)%250, 249-i%250))
	}
	u := unit(4, 250, append(code, ret(249))...)
	regs := make([]int, 250)
	for _, x := range u.Code[:899] {
		regs[x.D] = madeWords[x.Op](x.N, []int{regs[x.A], regs[x.B]})
		if x.Op != impl.TcNum {
			want = append(want, number(x.D, regs[x.D]))
		}
	}
	wantFolded(t, u, append(want, ret(249))...)
	// One word that is doubled 898 times, and goes round to 0.
	code, want = []impl.Tac{number(0, 1)}, []impl.Tac{number(0, 1)}
	for i := range 898 {
		code = append(code, sum(0, 0, 0))
		word := 0
		if i < 31 {
			word = wrap(2 << i)
		}
		want = append(want, number(0, word))
	}
	wantFolded(t, unit(0, 250, append(code, ret(0))...), append(want, ret(0))...)
	// As many tests: nothing stands in the place of each, or a jump.
	tests := slices.Repeat([]impl.Tac{unless(0, 900)}, 897)
	wantFolded(t, unit(0, 1, slices.Concat([]impl.Tac{label(900), number(0, 1)}, tests, []impl.Tac{ret(0)})...), label(900), number(0, 1), ret(0))
	jumps := slices.Repeat([]impl.Tac{jump(900)}, 897)
	wantFolded(t, unit(0, 1, slices.Concat([]impl.Tac{label(900), number(0, 0)}, tests, []impl.Tac{ret(0)})...), slices.Concat([]impl.Tac{label(900), number(0, 0)}, jumps, []impl.Tac{ret(0)})...)
	wantAsItIs(t, unit(0, 1, slices.Concat([]impl.Tac{label(900), takes(0, 0)}, tests, []impl.Tac{ret(0)})...))
	// As many labels: what is set between two of them is not known behind the next one.
	code = nil
	for n := range 449 {
		code = append(code, label(n), sum(1, 0, 0))
	}
	code[1] = number(0, 3)
	wantAsItIs(t, unit(0, 2, append(code, label(900), jump(900))...))
	// One place more is not right.
	u = unit(0, 1, slices.Concat([]impl.Tac{label(900), number(0, 1)}, tests, []impl.Tac{unless(0, 900), ret(0)})...)
	if got := impl.Fold(u); !sameUnit(got, u) || impl.UnitOk(u) {
		t.Errorf("of %d places there is %s", len(u.Code), clip(got))
	}
	u = unit(0, 251, number(0, 1), same(1, 0), ret(1))
	if got := impl.Fold(u); !sameUnit(got, u) || impl.UnitOk(u) {
		t.Errorf("of 251 registers there is %s", clip(got))
	}
}

// wantEmptyLists is of lists that are empty or nil, at each op with places ahead of it that the pass turns.
func (p pass) wantEmptyLists(t *testing.T, ahead []impl.Tac) {
	t.Helper()
	for _, empty := range [][]int{nil, {}, make([]int, 0, 9), []int{1, 2, 3}[3:], []int{2, 3, 4}[:0]} {
		for _, f := range tacForms {
			x := ordinaryTac(f)
			x.Args = empty
			p.check(t, around(x))
			x = ordinaryTac(f)
			x.Args = nil
			u := unit(2, aroundRegs, append(slices.Clone(ahead), x, ret(0))...)
			with := cloneUnit(u)
			for i := range with.Code {
				with.Code[i].Args = empty
			}
			if got, want := p.do(with), p.do(u); !sameUnit(got, want) {
				t.Errorf("with empty lists %s is %s, not %s", clip(u), clip(got), clip(want))
			}
			p.check(t, with)
		}
	}
	for _, code := range [][]impl.Tac{nil, {}, make([]impl.Tac, 0, 9), make([]impl.Tac, 3), []impl.Tac{ret(0)}[:0]} {
		for _, u := range []impl.Unit{{Code: code}, {Regs: 1, Code: code}, {Name: "f", Params: 1, Regs: 4, Code: code}} {
			p.wantNotTurned(t, u)
			p.check(t, u)
		}
	}
	// A unit without registers.
	p.wantLeft(t, impl.Unit{Code: []impl.Tac{label(0), jump(0)}})
	p.check(t, impl.Unit{Code: []impl.Tac{label(0), begin("", []int{}...), jump(0)}})
}

func TestFoldWithListsThatAreEmptyAndNil(t *testing.T) {
	fold.wantEmptyLists(t, twelve())
}

// wantVeryLong is of very long lists and texts, and of very large numbers at each field, with places ahead that the pass turns.
func (p pass) wantVeryLong(t *testing.T, ahead []impl.Tac) {
	t.Helper()
	const far = 1000000
	p.wantNotTurned(t, unit(0, 1, slices.Repeat([]impl.Tac{ret(0)}, far)...))
	p.wantNotTurned(t, unit(0, 250, append(slices.Repeat(ahead, far/len(ahead)), ret(0))...))
	long := make([]int, far)
	text := strings.Repeat("a long name ", 200000)
	for _, f := range tacForms {
		x := ordinaryTac(f)
		x.Args = long
		p.wantNotTurned(t, around(x))
		if strings.Contains(f.names, "S") {
			x = ordinaryTac(f)
			x.S = text
			u := around(x)
			u.Name = text
			want := p.want(u)
			if got := p.do(u); got.Name != text || !sameUnit(got, want) {
				t.Errorf("with a very long text op %d is %s", f.op, clip(got))
			}
		}
	}
	for _, n := range append(append(edges(), farPlaces()...), manyNumbers(300)...) {
		p.check(t, impl.Unit{Name: "u", Params: n, Regs: n, Code: []impl.Tac{ret(0)}})
		p.check(t, impl.Unit{Name: "u", Params: n, Regs: n, Code: []impl.Tac{number(0, 1), same(0, 0), ret(0)}})
		p.check(t, unit(0, n, number(0, 1), same(n, 0), same(0, n), ret(n)))
		p.check(t, unit(0, 250, number(0, n), same(1, 0), sum(2, 0, 1), unless(2, 1), label(1), ret(n)))
		p.check(t, unit(0, 250, number(1, 0), label(n), unless(1, n), number(1, 0), same(2, 1), unless(2, n), jump(n)))
		p.check(t, unit(0, 250, impl.Tac{Op: n, D: n, A: n, B: n, N: n, Args: []int{n, n, n}}, ret(0)))
		for _, f := range tacForms {
			for _, put := range registerFields(f) {
				x := ordinaryTac(f)
				put(&x, n)
				p.check(t, unit(2, aroundRegs, append(slices.Clone(ahead), x, label(aroundLabel), ret(0))...))
			}
		}
	}
	for _, a := range []int{math.MinInt, least - 1, greatest + 1, turn, math.MaxInt} {
		p.wantNotTurned(t, unit(0, 3, number(0, 2), number(1, a), same(2, 0), sum(2, 2, 0), ret(2)))
	}
}

func TestFoldOfVeryLongUnits(t *testing.T) {
	t.Parallel()
	fold.wantVeryLong(t, twelve())
}

// unitsToFold are some that are right, and some of which something is amiss.
func unitsToFold() []impl.Unit {
	d, many := newKnownDrawer(180), newUnitDrawer(181)
	out := append(wrongUnits(), unit(0, 1, ret(0)), unit(1, 3, number(1, 5), into(2, call("f", 0, 1)), same(0, 1), choose(0, 1, 1, 1, 2, 0, 2, 1, 0), ret(0)))
	for range 200 {
		u := d.unit()
		out = append(out, u, d.turnUnit(u), many.unit())
	}
	for _, f := range tacForms {
		out = append(out, around(ordinaryTac(f)), unit(2, aroundRegs, append(twelve(), ordinaryTac(f), label(aroundLabel+1), ret(0))...))
	}
	return out
}

func (p pass) wantNothingWrittenInto(t *testing.T, list []impl.Unit) {
	t.Helper()
	given, whole := roomyUnits(list)
	for i, u := range given {
		got := p.do(u)
		if !sameUnit(got, p.do(list[i])) {
			t.Errorf("%s(%s) is another with room behind its lists", p.name, clip(u))
		}
		spoilWorld(impl.World{Units: []impl.Unit{got}})
	}
	if !roomIsAsItWas(given, whole) {
		t.Errorf("%s writes into the units, or into the room behind their lists", p.name)
	}
}

func TestFoldWritesIntoNothing(t *testing.T) {
	fold.wantNothingWrittenInto(t, unitsToFold())
}

// wantOwn is that what one answer holds is its own: no two of its lists share any memory, nor with another answer or with what was given, and its texts do not lie in what was given. What stands behind its last place is none of its lists either.
func (p pass) wantOwn(t *testing.T, list []impl.Unit) {
	t.Helper()
	met := 0
	list, _ = roomyUnits(list)
	for _, u := range list {
		u.Name = strings.Clone(u.Name)
		for k := range u.Code {
			u.Code[k].S = strings.Clone(u.Code[k].S)
		}
		given := []impl.Unit{u}
		one, other := []impl.Unit{p.do(u)}, []impl.Unit{p.do(u)}
		if !apart(slices.Concat(listsOf(given), listsOf(one), listsOf(other))) {
			t.Fatalf("%s(%s) shares memory", p.name, clip(u))
		}
		if meet(textsOfUnits(given), append(textsOfUnits(one), textsOfUnits(other)...)) {
			t.Fatalf("a text of %s(%s) lies in what was given", p.name, clip(u))
		}
		kept, was := cloneUnits(other), cloneUnits(given)
		spoilWorld(impl.World{Units: one})
		if !sameUnit(other[0], kept[0]) || !sameUnit(u, was[0]) || !sameUnit(p.do(u), kept[0]) {
			t.Fatalf("%s(%s) is not its own", p.name, clip(u))
		}
		for _, x := range other[0].Code[len(other[0].Code):cap(other[0].Code)] {
			spoil(x.Args)
		}
		spoilWorld(impl.World{Units: given})
		if !sameUnit(other[0], kept[0]) {
			t.Fatalf("%s(%s) is turned with what was given, or with what stands behind it", p.name, clip(was[0]))
		}
		for _, x := range kept[0].Code {
			met += flag(len(x.Args) > 0)
		}
	}
	if met < 300 {
		t.Errorf("%d lists of Args are met", met)
	}
}

func TestEachFoldedUnitIsItsOwn(t *testing.T) {
	fold.wantOwn(t, append(unitsToFold(), unit(1, 4, number(1, 5), unless(1, 0), unless(1, 0), label(0), into(2, call("f", 0, 1)), begin("f", 3, 2), ret(0))))
}

func (p pass) wantSameAgain(t *testing.T, units []impl.Unit) {
	t.Helper()
	for i, u := range units {
		first := p.do(u)
		for range 5 {
			p.do(units[(i+1)%len(units)])
			if !sameUnit(p.do(u), first) {
				t.Errorf("%s(%s) is not the same again", p.name, clip(u))
			}
		}
	}
}

func TestFoldAnswersTheSameAgain(t *testing.T) {
	fold.wantSameAgain(t, unitsToFold())
}

func (p pass) wantSideBySide(t *testing.T, units []impl.Unit) {
	t.Helper()
	var group sync.WaitGroup
	wrong := make([]int, 8)
	for worker := range wrong {
		group.Go(func() {
			for _, u := range units {
				wrong[worker] += flag(!sameUnit(p.do(u), p.want(u)))
			}
		})
	}
	group.Wait()
	if !slices.Equal(wrong, make([]int, 8)) {
		t.Errorf("answers of %s side by side are others: %v", p.name, wrong)
	}
}

func TestFoldSideBySide(t *testing.T) {
	fold.wantSideBySide(t, unitsToFold())
}
