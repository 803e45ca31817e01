package tests

import (
	"math"
	"slices"
	"strings"
	"sync"
	"testing"

	"loop.example/g00286/impl"
)

var (
	clean  = pass{name: "Clean", do: impl.Clean, want: wantClean}
	better = pass{name: "Better", do: impl.Better, want: wantBetter, several: true}
)

// checkAll holds BetterAll against the model, and asks what holds of each answer.
func checkAll(t *testing.T, list []impl.Unit) []impl.Unit {
	t.Helper()
	kept := cloneUnits(list)
	got, want := impl.BetterAll(list), wantBetterAll(list)
	if !slices.EqualFunc(got, want, sameUnit) {
		t.Errorf("BetterAll(%s) = %s, not %s", clip(list), clip(got), clip(want))
	}
	if !slices.EqualFunc(list, kept, sameUnit) {
		t.Errorf("BetterAll writes into %s", clip(kept))
	}
	if impl.UnitsOk(got) != impl.UnitsOk(kept) {
		t.Errorf("%s is right: %v, and bettered: %v", clip(kept), impl.UnitsOk(kept), impl.UnitsOk(got))
	}
	return got
}

// wantAllLeft is of a list that is not right, by what is told.
func wantAllLeft(t *testing.T, list []impl.Unit, amiss string) {
	t.Helper()
	if got := impl.BetterAll(list); impl.UnitsOk(list) || !slices.EqualFunc(got, list, sameUnit) {
		t.Errorf("%s: BetterAll(%s) = %s", amiss, clip(list), clip(got))
	}
}

func TestProgramsThatAreCleanedAndBettered(t *testing.T) {
	for _, c := range []struct{ src, clean, better string }{
		// What stands behind a return, and the loop that always goes on.
		{"func main() { let a = 2; let b = a * 3 + 1; print b - a; return b; }",
			"num 0 0; num 1 0; num 2 2; copy 0 2; num 3 3; mul 4 0 3; num 5 1; add 6 4 5; copy 1 6; sub 7 1 0; print 7; ret 1",
			"num 1 7; num 7 5; print 7; ret 1"},
		{"func main() { while 1 { print 1; } print 2; }",
			"label 0; num 0 1; zero 0 1; num 1 1; print 1; jump 0; label 1; num 2 2; print 2; num 3 0; ret 3",
			"label 0; num 1 1; print 1; jump 0"},
		// One of two blocks.
		{"func main() { let a = 1; if a { print 4; } else { print 5; } }",
			"num 0 0; num 1 1; copy 0 1; zero 0 0; num 2 4; print 2; jump 1; label 0; num 3 5; print 3; label 1; num 4 0; ret 4",
			"num 2 4; print 2; num 4 0; ret 4"},
		{"func main() { let a = 3 < 2; if a { print 4; } else { print 5; } }",
			"num 0 0; num 1 3; num 2 2; less 3 1 2; copy 0 3; zero 0 0; num 4 4; print 4; jump 1; label 0; num 5 5; print 5; label 1; num 6 0; ret 6",
			"num 5 5; print 5; num 6 0; ret 6"},
		{"func main() { if 1 { if 0 { print 1; } else { if 2 { print 2; } } print 3; } while 0 { print 4; } }",
			"num 0 1; zero 0 0; num 1 0; zero 1 1; num 2 1; print 2; jump 2; label 1; num 3 2; zero 3 3; num 4 2; print 4; label 3; label 2; num 5 3; print 5; label 0; label 4; num 6 0; zero 6 5; num 7 4; print 7; jump 4; label 5; num 8 0; ret 8",
			"num 4 2; print 4; num 5 3; print 5; num 8 0; ret 8"},
		// A block that returns: nobody comes to the jump behind it.
		{"func f(n) { if n == 0 { return 1; } else { return 2; } } func main() { print f(3); }",
			"num 1 0; same 2 0 1; zero 2 0; num 3 1; ret 3; label 0; num 4 2; ret 4 & num 0 3; call 1 f 0; print 1; num 2 0; ret 2",
			"num 1 0; same 2 0 1; zero 2 0; num 3 1; ret 3; label 0; num 4 2; ret 4 & num 0 3; call 1 f 0; print 1; num 2 0; ret 2"},
		{"func main() { let a = 2; while a { a = a - 1; } print a + 2147483647; }",
			"num 0 0; num 1 2; copy 0 1; label 0; zero 0 1; num 2 1; sub 3 0 2; copy 0 3; jump 0; label 1; num 4 2147483647; add 5 0 4; print 5; num 6 0; ret 6",
			"num 0 2; label 0; zero 0 1; num 2 1; sub 3 0 2; copy 0 3; jump 0; label 1; num 4 2147483647; add 5 0 4; print 5; num 6 0; ret 6"},
		{"func f(c chan) { let x = 1; while x { recv x, c; if x < 0 { return 3; } } } func main() { let c = make(0); go f(c); send c, 5; }",
			"num 1 0; num 2 1; copy 1 2; label 0; zero 1 1; recv 3 0; copy 1 3; num 4 0; less 5 1 4; zero 5 2; num 6 3; ret 6; label 2; jump 0; label 1; num 7 0; ret 7 & num 0 0; num 1 0; make 2 1; copy 0 2; go f 0; num 3 5; send 0 3; num 4 0; ret 4",
			"num 1 1; label 0; zero 1 1; recv 3 0; copy 1 3; num 4 0; less 5 3 4; zero 5 2; num 6 3; ret 6; label 2; jump 0; label 1; num 7 0; ret 7 & num 1 0; make 2 1; go f 2; num 3 5; send 2 3; num 4 0; ret 4"},
	} {
		units := impl.Lower(parsed(t, c.src), false)
		var cleaned []string
		for _, u := range units {
			cleaned = append(cleaned, codeText(clean.check(t, u).Code))
			better.check(t, u)
		}
		var bettered []string
		for _, u := range checkAll(t, units) {
			bettered = append(bettered, codeText(u.Code))
		}
		if text := strings.Join(cleaned, " & "); text != c.clean {
			t.Errorf("%q is cleaned to\n%q, not\n%q", c.src, text, c.clean)
		}
		if text := strings.Join(bettered, " & "); text != c.better {
			t.Errorf("%q is bettered to\n%q, not\n%q", c.src, text, c.better)
		}
	}
}

func TestCleanAndBetterOfUnitsThatAreNotRight(t *testing.T) {
	for _, p := range []pass{clean, better} {
		p.wantWrongNotTurned(t, ret(0), show(0))
		p.wantWrongNotTurned(t, halts(0), number(0, 5), same(0, 0))
	}
	better.wantWrongNotTurned(t, number(0, 5), same(0, 0), sum(0, 0, 0))
	// A label that stands twice, or one to which one goes that is not there, where nobody comes to.
	for _, u := range []impl.Unit{unit(0, 1, ret(0), jump(1), ret(0)), unit(0, 1, jump(1), label(1), label(1), ret(0)), unit(0, 1, ret(0), label(2), label(2), ret(0)), unit(0, 1, ret(0), show(1), ret(0)), unit(0, 1, jump(1), label(1)), unit(0, 1, ret(0), label(901), ret(0))} {
		clean.wantNotTurned(t, u)
		better.wantNotTurned(t, u)
	}
}

// between are places that may stand where nobody comes to: one of each op, but for the label.
func between() []impl.Tac {
	var code []impl.Tac
	for _, f := range tacForms {
		if f.op != impl.TcLabel {
			code = append(code, ordinaryTac(f))
		}
	}
	return code
}

// What stands between an end and the next label goes, whatever it is and however many there are.
func TestWhatStandsBehindAnEnd(t *testing.T) {
	rest := []impl.Tac{label(aroundLabel), show(1), unless(1, aroundLabel), ret(2)}
	for _, end := range []impl.Tac{ret(1), halts(1), jump(aroundLabel)} {
		// One goes to the label from elsewhere, too, so that it stays, and the end with it.
		begin := []impl.Tac{show(0), unless(3, aroundLabel), show(4), end}
		if end.Op == impl.TcJump {
			rest = slices.Insert(slices.Clone(rest), 0, label(aroundLabel+1))
			begin[1].N++
		}
		want := slices.Concat(begin, rest)
		clean.wantLeft(t, unit(2, aroundRegs, want...))
		for _, x := range between() {
			clean.wantMade(t, unit(2, aroundRegs, slices.Concat(begin, []impl.Tac{x}, rest)...), want...)
			clean.wantMade(t, unit(2, aroundRegs, slices.Concat(begin, []impl.Tac{x, x, x}, rest)...), want...)
			// With no label behind it at all.
			ahead := slices.Concat([]impl.Tac{label(aroundLabel), unless(5, aroundLabel)}, begin[:1], begin[2:])
			clean.wantMade(t, unit(2, aroundRegs, slices.Concat(ahead, []impl.Tac{x, halts(2)})...), ahead...)
			clean.wantMade(t, unit(2, aroundRegs, slices.Concat(ahead, []impl.Tac{x, x, ret(2)})...), ahead...)
		}
		clean.wantMade(t, unit(2, aroundRegs, slices.Concat(begin, between(), rest)...), want...)
		for _, other := range []impl.Tac{ret(4), halts(4), jump(aroundLabel)} {
			clean.wantMade(t, unit(2, aroundRegs, slices.Concat(begin, []impl.Tac{other}, rest)...), want...)
			clean.wantMade(t, unit(2, aroundRegs, slices.Concat(begin, []impl.Tac{other, show(5), other, other}, rest)...), want...)
		}
	}
	// No other op ends anything.
	for _, x := range between() {
		if !isEnd(x) {
			clean.wantLeft(t, unit(2, aroundRegs, x, show(1), x, label(aroundLabel), x, unless(2, aroundLabel), ret(3)))
		}
	}
	// Each of several gaps, up to its own label.
	clean.wantMade(t, unit(1, 3, unless(0, 1), unless(1, 2), ret(0), show(1), label(1), show(2), halts(1), show(1), show(1), label(2), show(0), jump(1), show(2), ret(1)),
		unless(0, 1), unless(1, 2), ret(0), label(1), show(2), halts(1), label(2), show(0), jump(1))
	// What is behind a label to which one goes stays, though nobody comes there.
	clean.wantLeft(t, unit(1, 3, ret(0), label(1), show(1), jump(1)))
	clean.wantMade(t, unit(1, 3, ret(0), show(2), label(1), show(1), unless(1, 1), ret(1), show(2), ret(2)), ret(0), label(1), show(1), unless(1, 1), ret(1))
}

// wantLoop is of places ahead of which there is a label, and behind which one goes there, so that nothing of that goes.
func wantLoop(t *testing.T, code, want []impl.Tac) {
	t.Helper()
	begin, end := []impl.Tac{label(900), show(0)}, []impl.Tac{show(0), unless(0, 900), halts(0)}
	clean.wantMade(t, unit(1, 3, slices.Concat(begin, code, end)...), slices.Concat(begin, want, end)...)
}

func TestJumpsToTheNextPlace(t *testing.T) {
	for _, n := range []int{0, 1, 450, 899} {
		other := (n + 1) % 900
		wantLoop(t, []impl.Tac{jump(n), label(n)}, nil)
		wantLoop(t, []impl.Tac{unless(1, n), jump(n), label(n)}, []impl.Tac{unless(1, n), label(n)})
		wantLoop(t, []impl.Tac{jump(n), label(n), unless(1, n)}, []impl.Tac{label(n), unless(1, n)})
		// Behind another label, which stays, or goes.
		wantLoop(t, []impl.Tac{unless(2, other), jump(n), label(other), label(n)}, []impl.Tac{unless(2, other), jump(n), label(other), label(n)})
		wantLoop(t, []impl.Tac{jump(n), label(other), label(n)}, nil)
		wantLoop(t, []impl.Tac{jump(n), label(other), label(n), unless(2, other)}, []impl.Tac{jump(n), label(other), label(n), unless(2, other)})
		// To the next one of two that stay.
		wantLoop(t, []impl.Tac{unless(2, other), jump(n), label(n), label(other)}, []impl.Tac{unless(2, other), label(other)})
		// Further on, behind a place that stays or goes, and back.
		wantLoop(t, []impl.Tac{unless(1, other), jump(n), label(other), show(1), label(n)}, []impl.Tac{unless(1, other), jump(n), label(other), show(1), label(n)})
		wantLoop(t, []impl.Tac{jump(n), show(1), label(n)}, nil)
		wantLoop(t, []impl.Tac{jump(n), show(1), takes(1, 0), ret(2), halts(1), label(n)}, nil)
		wantLoop(t, []impl.Tac{label(n), jump(n), label(other), unless(1, other)}, []impl.Tac{label(n), jump(n), label(other), unless(1, other)})
		wantLoop(t, []impl.Tac{label(n), show(1), jump(n), label(other), unless(1, other)}, []impl.Tac{label(n), show(1), jump(n), label(other), unless(1, other)})
		// Two of them, to the same label and to two.
		wantLoop(t, []impl.Tac{jump(n), jump(n), label(n)}, nil)
		wantLoop(t, []impl.Tac{unless(1, other), jump(n), label(other), jump(n), label(n)}, []impl.Tac{unless(1, other), jump(n), label(other), label(n)})
		wantLoop(t, []impl.Tac{jump(n), label(n), jump(other), label(other)}, nil)
		wantLoop(t, []impl.Tac{jump(n), jump(other), label(n), label(other)}, nil)
		// A test whose label is the next place stays.
		wantLoop(t, []impl.Tac{unless(1, n), label(n)}, []impl.Tac{unless(1, n), label(n)})
		wantLoop(t, []impl.Tac{unless(1, n), unless(2, n), label(n)}, []impl.Tac{unless(1, n), unless(2, n), label(n)})
		wantLoop(t, []impl.Tac{jump(n), label(n), unless(1, other), label(other)}, []impl.Tac{unless(1, other), label(other)})
	}
	// Other places whose number is that of the label ahead of which they stand.
	wantLoop(t, []impl.Tac{number(1, 7), label(7), unless(1, 7)}, []impl.Tac{number(1, 7), label(7), unless(1, 7)})
	wantLoop(t, []impl.Tac{choose(1, 2, 1, 1, 0, 0), label(1), unless(1, 1)}, []impl.Tac{choose(1, 2, 1, 1, 0, 0), label(1), unless(1, 1)})
	// And a jump ahead of a place of another op with that number.
	wantLoop(t, []impl.Tac{unless(2, 8), jump(7), label(8), number(1, 7), label(7)}, []impl.Tac{unless(2, 8), jump(7), label(8), number(1, 7), label(7)})
}

func TestLabelsToWhichNoPlaceGoes(t *testing.T) {
	for _, n := range []int{0, 1, 450, 899, 900} {
		other := (n + 7) % 900
		for _, end := range []impl.Tac{ret(0), halts(0)} {
			clean.wantMade(t, unit(1, 3, label(n), show(1), end), show(1), end)
			clean.wantMade(t, unit(1, 3, show(1), label(n), end), show(1), end)
			clean.wantMade(t, unit(1, 3, label(n), label(other), show(1), end), show(1), end)
			// From ahead and from behind, by a test and by a jump, and by several.
			clean.wantLeft(t, unit(1, 3, unless(1, n), show(1), label(n), end))
			clean.wantLeft(t, unit(1, 3, label(n), show(1), unless(1, n), end))
			clean.wantLeft(t, unit(1, 3, unless(1, n), show(1), label(n), unless(2, n), end))
			clean.wantLeft(t, unit(1, 3, unless(1, other), jump(n), label(other), show(1), label(n), end))
			clean.wantLeft(t, unit(1, 3, label(n), show(1), jump(n)))
			clean.wantLeft(t, unit(1, 3, label(n), jump(n)))
			// One of two goes.
			clean.wantMade(t, unit(1, 3, unless(1, n), show(1), label(other), label(n), end), unless(1, n), show(1), label(n), end)
			clean.wantMade(t, unit(1, 3, unless(1, n), show(1), label(n), label(other), end), unless(1, n), show(1), label(n), end)
			clean.wantMade(t, unit(1, 3, label(n), show(1), label(other), show(2), unless(1, n), end), label(n), show(1), show(2), unless(1, n), end)
			// The one that goes there goes itself, and is the only one, or not.
			clean.wantMade(t, unit(1, 3, end, unless(1, n), label(n), show(1), end), end)
			clean.wantMade(t, unit(1, 3, end, jump(n), label(n), show(1), end), end)
			clean.wantMade(t, unit(1, 3, show(1), jump(n), label(n), show(2), end), show(1), show(2), end)
			clean.wantMade(t, unit(1, 3, label(n), end, unless(1, n), jump(n)), end)
			clean.wantMade(t, unit(1, 3, unless(2, n), end, unless(1, n), label(n), show(1), end), unless(2, n), end, label(n), show(1), end)
			clean.wantMade(t, unit(1, 3, unless(2, n), end, jump(n), label(n), show(1), end), unless(2, n), end, label(n), show(1), end)
		}
	}
	// Numbers of other places are no labels to which they go.
	clean.wantMade(t, unit(1, 3, number(1, 4), label(4), choose(1, 2, 1, 1, 0, 0), label(1), choose(1, 2, 0, 2, 0, 0), label(0), ret(0)), number(1, 4), choose(1, 2, 1, 1, 0, 0), choose(1, 2, 0, 2, 0, 0), ret(0))
	// All that there are, and each of them alone.
	var all []impl.Tac
	for n := range 450 {
		all = append(all, label(2*n))
	}
	clean.wantMade(t, unit(1, 1, append(slices.Clone(all), ret(0))...), ret(0))
	for _, at := range []int{0, 1, 255, 256, 257, 448, 449} {
		clean.wantMade(t, unit(1, 1, append(slices.Clone(all), unless(0, 2*at), ret(0))...), label(2*at), unless(0, 2*at), ret(0))
	}
}

// What one turn leaves makes another one possible.
func TestTurnsOneBehindTheOther(t *testing.T) {
	for _, c := range []struct {
		code, want []impl.Tac
	}{
		// What stands behind an end, then the jump, then its label.
		{[]impl.Tac{jump(1), show(1), label(1), ret(0)}, []impl.Tac{ret(0)}},
		// Then what is behind it, as it stands behind another end.
		{[]impl.Tac{ret(1), jump(1), show(1), label(1), show(2), ret(0)}, []impl.Tac{ret(1)}},
		{[]impl.Tac{ret(1), unless(0, 1), label(2), show(1), unless(0, 2), label(1), ret(0)}, []impl.Tac{ret(1), label(2), show(1), unless(0, 2), ret(0)}},
		// A label, and with it all up to the next one, in which one went there.
		{[]impl.Tac{ret(1), label(0), unless(0, 1), ret(0), label(1), unless(0, 2), ret(0), label(2), unless(0, 3), ret(0), label(3), ret(2)}, []impl.Tac{ret(1)}},
		{[]impl.Tac{halts(1), label(3), jump(2), label(2), jump(1), label(1), jump(0), label(0), show(1), halts(2)}, []impl.Tac{halts(1)}},
		// Back: the last one goes to the one ahead of it, and so on.
		{[]impl.Tac{unless(0, 9), ret(1), label(0), show(0), ret(0), label(1), show(1), jump(0), label(2), show(2), jump(1), label(3), show(0), jump(2), label(9), ret(2)}, []impl.Tac{unless(0, 9), ret(1), label(9), ret(2)}},
		// Jumps over labels that go with what went there.
		{[]impl.Tac{show(1), jump(1), unless(0, 2), label(2), label(1), show(2), ret(0)}, []impl.Tac{show(1), show(2), ret(0)}},
		{[]impl.Tac{show(1), jump(1), label(2), show(0), label(1), show(2), ret(0), unless(0, 2), ret(0)}, []impl.Tac{show(1), show(2), ret(0)}},
		{[]impl.Tac{jump(3), label(1), jump(4), label(2), jump(1), label(3), show(1), label(4), ret(0)}, []impl.Tac{show(1), ret(0)}},
		// As far as something stays that one goes to.
		{[]impl.Tac{ret(1), label(0), unless(0, 1), ret(0), label(1), unless(0, 2), ret(0), label(2), unless(0, 2), ret(2)}, []impl.Tac{ret(1), label(2), unless(0, 2), ret(2)}},
		{[]impl.Tac{jump(1), label(0), show(0), jump(1), label(1), show(1), unless(0, 0), ret(0)}, []impl.Tac{jump(1), label(0), show(0), label(1), show(1), unless(0, 0), ret(0)}},
		// Two that go to each other, though nobody comes there.
		{[]impl.Tac{ret(1), label(0), show(0), unless(0, 1), ret(2), label(2), ret(0), label(1), show(1), jump(0)}, []impl.Tac{ret(1), label(0), show(0), unless(0, 1), ret(2), label(1), show(1), jump(0)}},
	} {
		clean.wantMade(t, unit(1, 3, c.code...), c.want...)
		clean.wantLeft(t, unit(1, 3, c.want...))
	}
}

// What is cleaned already, and what is none of what may go.
func TestWhatCleanLeaves(t *testing.T) {
	for _, code := range [][]impl.Tac{
		{ret(0)}, {halts(0)}, {label(5), jump(5)}, {label(0), jump(0)}, {show(0), ret(0)}, {label(0), show(0), jump(0)},
		{unless(0, 0), ret(1), label(0), ret(2)}, {unless(0, 0), jump(1), label(0), show(0), label(1), halts(2)},
		// What is known, what is the same and what is for nobody is for other passes.
		{number(0, 0), unless(0, 3), show(1), label(3), ret(0)}, {number(0, 1), number(0, 2), same(0, 0), same(1, 0), sum(2, 1, 0), ret(0)}, {number(1, 0), unless(1, 3), label(3), ret(0)},
	} {
		clean.wantLeft(t, unit(1, 3, code...))
	}
}

// The last place stays an end: what goes stands behind another end, or ahead of a label.
func TestTheLastPlaceStaysAnEnd(t *testing.T) {
	// Units of one place, and of one beside a label.
	for _, end := range []impl.Tac{ret(0), ret(2), halts(0), halts(2)} {
		clean.wantLeft(t, unit(1, 3, end))
		better.wantLeft(t, unit(1, 3, end))
		clean.wantMade(t, unit(1, 3, label(4), end), end)
		better.wantMade(t, unit(1, 3, label(4), end), end)
		clean.wantMade(t, unit(1, 3, jump(4), label(4), end), end)
		better.wantMade(t, unit(1, 3, jump(4), label(4), end), end)
		for _, other := range []impl.Tac{ret(1), halts(1), jump(4)} {
			clean.wantMade(t, unit(1, 3, end, label(4), other), append([]impl.Tac{end}, []impl.Tac{label(4), other}[:2*flag(other.Op == impl.TcJump)]...)...)
			clean.wantMade(t, unit(1, 3, label(4), end, other), end)
			clean.wantMade(t, unit(1, 3, unless(1, 4), label(4), end, other), unless(1, 4), label(4), end)
		}
	}
	// A jump to the label ahead of it, and to one further up.
	clean.wantLeft(t, unit(0, 1, label(4), jump(4)))
	clean.wantLeft(t, unit(0, 1, show(0), label(4), jump(4)))
	clean.wantLeft(t, unit(0, 1, label(4), show(0), jump(4)))
	clean.wantLeft(t, unit(0, 1, label(4), unless(0, 4), jump(4)))
	clean.wantMade(t, unit(0, 1, label(4), label(5), jump(4)), label(4), jump(4))
	clean.wantMade(t, unit(0, 1, label(4), label(5), jump(5)), label(5), jump(5))
	clean.wantMade(t, unit(0, 1, jump(4), label(4), jump(4)), label(4), jump(4))
	clean.wantMade(t, unit(0, 1, jump(5), label(4), label(5), jump(4)), jump(5), label(4), label(5), jump(4))
	clean.wantMade(t, unit(0, 1, label(4), jump(4), jump(4)), label(4), jump(4))
	clean.wantMade(t, unit(0, 1, label(4), jump(4), show(0), jump(4)), label(4), jump(4))
	// Behind another end it goes with its label, as far as to the place ahead.
	clean.wantMade(t, unit(0, 1, label(4), ret(0), jump(4)), ret(0))
	clean.wantMade(t, unit(0, 1, show(0), label(4), halts(0), show(0), jump(4)), show(0), halts(0))
	// All short units of these places: what comes of them ends as a unit does, whatever goes, and in whatever order.
	d := newDrawer(201)
	turned := map[int]int{}
	places := []impl.Tac{jump(0), jump(1), unless(0, 0), unless(0, 1), label(0), label(1), ret(0), show(0)}
	for count := range 5 {
		eachShort(count, places, func(code []impl.Tac) {
			for _, end := range []impl.Tac{ret(0), halts(0), jump(0), jump(1)} {
				u := unit(0, 1, append(slices.Clone(code), end)...)
				got := clean.check(t, u)
				if !impl.UnitOk(u) {
					continue
				}
				if !isEnd(got.Code[len(got.Code)-1]) || !sameUnit(got, cleanOneByOne(u, d.IntN)) {
					t.Errorf("%s is cleaned to %s", codeText(u.Code), codeText(got.Code))
				}
				turned[len(u.Code)-len(got.Code)]++
			}
		})
	}
	for fewer := range 5 {
		if turned[fewer] < 20 {
			t.Errorf("by %d places fewer there are %d", fewer, turned[fewer])
		}
	}
}

func TestWhatCleanAndBetterLeaveAsItWas(t *testing.T) {
	for _, name := range []string{"", "u", "main", "let", "a name\x00 of bytes \xff", strings.Repeat("long ", 5000)} {
		for params := range 5 {
			for _, regs := range []int{5, 6, 249, 250} {
				left := []impl.Tac{takes(1, 0), into(2, call(name, 0, 1)), {Op: impl.TcAddr, D: 4, S: name}, begin(name, 4, 2), unless(2, 9), choose(3, 4, 1, 2, 1, 2, 1, 0, 0), {Op: impl.TcCas, D: 1, A: 2, B: 3, Args: []int{4}}, label(9), ret(1)}
				u := impl.Unit{Name: name, Params: params, Regs: regs, Code: left}
				clean.wantLeft(t, u)
				better.wantLeft(t, u)
				u.Code = slices.Concat([]impl.Tac{label(900)}, left[:4], []impl.Tac{jump(7), show(1), label(7)}, left[4:], []impl.Tac{into(1, call(name)), ret(0)})
				clean.wantMade(t, u, left...)
				better.wantMade(t, u, left...)
			}
		}
	}
	// In their order.
	var code, want []impl.Tac
	for n := range 100 {
		code = append(code, takes(n%3, n%5), jump(n), gives(n%2, n%4), label(n), show(n%6), label(100+n))
		want = append(want, takes(n%3, n%5), show(n%6))
	}
	clean.wantMade(t, unit(3, 7, append(code, ret(0))...), append(want, ret(0))...)
	better.wantMade(t, unit(3, 7, append(code, ret(0))...), append(want, ret(0))...)
}

// testsInARow are tests of what is known, each to the label behind it: by turns of all passes one of them goes after the other, as nothing is known behind the label of the one ahead of it.
func testsInARow(first, count int) []impl.Tac {
	var code []impl.Tac
	for n := first; n < first+count; n++ {
		code = append(code, unless(0, n), label(n))
	}
	return code
}

func TestBetterIsThreeTurns(t *testing.T) {
	for _, n := range []int{0, 5, -3} {
		for count := range 9 {
			code, want := []impl.Tac{number(0, n)}, []impl.Tac{number(0, n)}
			code = append(code, testsInARow(0, count)...)
			if count > 3 {
				want = append(want, testsInARow(3, count-3)...)
			}
			u := unit(1, 2, append(code, ret(0))...)
			better.wantMade(t, u, append(want, ret(0))...)
			// A fourth one, and more, would still turn something.
			once := better.check(t, u)
			if twice := better.check(t, once); sameUnit(twice, once) == (count > 3) {
				t.Errorf("%s is bettered once more to %s", codeText(once.Code), codeText(twice.Code))
			}
		}
	}
	// The most of them: of 900 places three are left out by two.
	u := unit(1, 2, append(append([]impl.Tac{number(0, 0)}, testsInARow(0, 449)...), ret(0))...)
	better.wantMade(t, u, append(append([]impl.Tac{number(0, 0)}, testsInARow(3, 446)...), ret(0))...)
}

// What each of the four turns, and what it turns only behind the one ahead of it.
func TestBetterIsAllFourInTheirOrder(t *testing.T) {
	t.Parallel()
	for _, c := range []struct {
		code, want []impl.Tac
	}{
		{[]impl.Tac{number(1, 2), number(2, 3), sum(3, 1, 2), show(3), ret(0)}, []impl.Tac{number(3, 5), show(3), ret(0)}},
		{[]impl.Tac{same(1, 0), show(1), ret(1)}, []impl.Tac{show(0), ret(0)}},
		{[]impl.Tac{number(1, 2), ret(0)}, []impl.Tac{ret(0)}},
		{[]impl.Tac{jump(1), label(1), ret(0)}, []impl.Tac{ret(0)}},
		// The copy of a number is a number, ahead of being the same.
		{[]impl.Tac{number(1, 2), same(2, 1), show(2), ret(0)}, []impl.Tac{number(2, 2), show(2), ret(0)}},
		// What is live only where nobody comes to is dead in the next turn.
		{[]impl.Tac{number(1, 2), takes(2, 0), unless(2, 1), ret(0), label(2), show(1), ret(1), label(1), show(2), ret(0)}, []impl.Tac{takes(2, 0), unless(2, 1), ret(0), label(1), show(2), ret(0)}},
		{[]impl.Tac{number(1, 2), takes(2, 0), unless(1, 1), ret(0), label(1), show(2), ret(1)}, []impl.Tac{takes(2, 0), ret(0)}},
		// What is the same behind a label is seen when it has gone.
		{[]impl.Tac{same(1, 0), jump(1), label(1), show(1), ret(1)}, []impl.Tac{show(0), ret(0)}},
		{[]impl.Tac{number(1, 0), unless(1, 1), show(1), label(1), same(2, 1), show(2), ret(1)}, []impl.Tac{number(1, 0), show(1), ret(1)}},
	} {
		better.wantMade(t, unit(1, 4, c.code...), c.want...)
	}
	// Drawn units that would be others by fewer turns, or by any other order; but for that of Dead and Clean, as what the one leaves out is nothing to the other.
	others := map[string]func(u impl.Unit) impl.Unit{}
	passes := []pass{fold, forward, dead, clean}
	for _, times := range []int{1, 2} {
		others[impl.Digits(times)+" times"] = inTurns(times, impl.Fold, impl.Forward, impl.Dead, impl.Clean)
	}
	eachShort(4, []impl.Tac{number(0, 0), number(0, 1), number(0, 2), number(0, 3)}, func(order []impl.Tac) {
		name, met := "", [4]int{}
		var row []func(u impl.Unit) impl.Unit
		for _, x := range order {
			name += " " + passes[x.N].name
			row = append(row, passes[x.N].do)
			met[x.N]++
		}
		if met == [4]int{1, 1, 1, 1} && !strings.HasPrefix(name, " Fold Forward") {
			others["by"+name] = inTurns(3, row...)
		}
	})
	unlike := map[string]int{}
	for _, unit := range drawnUnits(202) {
		for range 400 {
			u := unit()
			got := better.check(t, u)
			for name, do := range others {
				unlike[name] += flag(!sameUnit(do(u), got))
			}
		}
	}
	for name := range others {
		if unlike[name] < 3 {
			t.Errorf("%d drawn units are others %s", unlike[name], name)
		}
	}
	if len(others) != 24 {
		t.Errorf("there are %d other ways", len(others))
	}
}

// wantNothingToClean is that of what is left there is nothing that goes, and that nothing went but what the reasons tell of.
func wantNothingToClean(t *testing.T, was, now impl.Unit) {
	t.Helper()
	if gone := goneFrom(now.Code); len(gone) > 0 {
		t.Errorf("there may go still %v of %s", gone, codeText(now.Code))
	}
	// In its order, though some is left out.
	at := 0
	for _, x := range was.Code {
		at += flag(at < len(now.Code) && sameTac(x, now.Code[at]))
	}
	if at < len(now.Code) {
		t.Errorf("%s is no part of %s", codeText(now.Code), codeText(was.Code))
	}
}

func TestDrawnUnitsAreCleanedAndBettered(t *testing.T) {
	t.Parallel()
	d := newDrawer(203)
	fewer, kept, jumps, ends := 0, 0, 0, map[int]int{}
	for i, unit := range drawnUnits(204) {
		for range []int{1500, 800, 2500, 500}[i] {
			u := unit()
			for _, u := range []impl.Unit{u, impl.Fold(u)} {
				c := clean.check(t, u)
				wantNothingToClean(t, u, c)
				if one := cleanOneByOne(u, d.IntN); !sameUnit(one, c) {
					t.Errorf("%s, cleaned one place after the other, is %s, not %s", codeText(u.Code), codeText(one.Code), codeText(c.Code))
				}
				fewer += flag(len(c.Code) < len(u.Code)-3)
				kept += flag(len(c.Code) > 10)
				for i, x := range u.Code {
					jumps += flag(goneFor["jump"](u.Code, i))
					if isEnd(x) && i < len(u.Code)-1 {
						ends[x.Op]++
					}
				}
			}
			b := better.check(t, u)
			if !impl.UnitOk(b) || len(b.Code) > len(u.Code) {
				t.Errorf("%s is bettered to %s", codeText(u.Code), codeText(b.Code))
			}
		}
	}
	if fewer < 1500 || kept < 1500 || jumps < 300 || ends[impl.TcJump] < 2000 || ends[impl.TcRet] < 1000 || ends[impl.TcHalt] < 1000 {
		t.Errorf("%d are by many fewer, %d are of some places still, %d jumps to the next place, %v ends", fewer, kept, jumps, ends)
	}
}

func TestDrawnUnitsThatAreTurnedCleanAndBetter(t *testing.T) {
	clean.wantTurnedUnits(t, newFlowDrawer(208))
	better.wantTurnedUnits(t, newCopyDrawer(209))
}

func TestUnitsOfDrawnProgramsAreBettered(t *testing.T) {
	fewer := 0
	for _, low := range []bool{false, true} {
		d := &rightDrawer{drawer: newDrawer(210), low: low}
		for range 120 {
			units := impl.Lower(d.program(), low)
			for _, u := range units {
				wantNothingToClean(t, u, clean.check(t, u))
			}
			for i, u := range checkAll(t, units) {
				fewer += flag(len(u.Code) < len(units[i].Code))
			}
		}
	}
	if fewer < 100 {
		t.Errorf("%d units have fewer places", fewer)
	}
}

func TestBetterAllIsBetterOfEach(t *testing.T) {
	for _, none := range [][]impl.Unit{nil, {}, make([]impl.Unit, 0, 3), manyUnits(3)[:0]} {
		if got := checkAll(t, none); len(got) != 0 {
			t.Errorf("of none there are %s", clip(got))
		}
	}
	for _, count := range []int{1, 2, 79, 80, 81} {
		list := manyUnits(count)
		for i := range list {
			list[i].Code = []impl.Tac{number(1, i), same(2, 1), jump(i), label(i), show(2), ret(0), show(1), ret(1)}
		}
		got := checkAll(t, list)
		for i, u := range got {
			want := list[i]
			if count <= 80 {
				want.Code = []impl.Tac{number(2, i), show(2), ret(0)}
			}
			if !sameUnit(u, want) {
				t.Errorf("unit %d of %d is bettered to %s", i, count, clip(u))
			}
		}
	}
	// Each by itself: what is called, begun or named is not looked into, nor left out.
	f := impl.Unit{Name: "f", Params: 1, Regs: 3, Code: []impl.Tac{number(1, 4), ret(1)}}
	g := impl.Unit{Name: "g", Params: 0, Regs: 3, Code: []impl.Tac{number(1, 4), same(0, 1), into(2, call("f", 0)), begin("f", 2), ret(1), into(2, call("f", 0)), ret(2)}}
	want := []impl.Unit{g, f}
	want[0].Code = []impl.Tac{number(1, 4), number(0, 4), into(2, call("f", 0)), begin("f", 2), ret(1)}
	if got := checkAll(t, []impl.Unit{g, f}); !slices.EqualFunc(got, want, sameUnit) {
		t.Errorf("there is %s, not %s", clip(got), clip(want))
	}
	// What names a unit goes where nobody comes to; the unit stays.
	g.Code = []impl.Tac{ret(1), begin("f", 2), ret(2)}
	want[0].Code = []impl.Tac{ret(1)}
	if got := checkAll(t, []impl.Unit{g, f}); !slices.EqualFunc(got, want, sameUnit) {
		t.Errorf("there is %s, not %s", clip(got), clip(want))
	}
	d := newUnitDrawer(211)
	for range 150 {
		checkAll(t, d.units())
	}
}

func TestBetterAllOfListsThatAreNotRight(t *testing.T) {
	turned := func(name string, params int) impl.Unit {
		return namedUnit(name, params, number(1, 4), same(2, 1), jump(1), label(1), show(2), ret(1), show(0))
	}
	some := func() []impl.Unit { return []impl.Unit{turned("f", 1), turned("g", 2), turned("main", 0)} }
	if got := checkAll(t, some()); slices.EqualFunc(got, some(), sameUnit) {
		t.Error("nothing of the units is turned")
	}
	for at := range 3 {
		// One that is not right.
		for _, wrong := range wrongUnits() {
			list := some()
			list[at] = wrong
			list[at].Name = some()[at].Name
			wantAllLeft(t, list, "a wrong unit")
			checkAll(t, list)
		}
		// Two of one name.
		list := some()
		list[at].Name = list[(at+1)%3].Name
		wantAllLeft(t, list, "a name twice")
		checkAll(t, list)
		// Another number of Args, and a name that is none; where nobody comes to, too, so that what is named wrongly would go.
		for _, x := range []impl.Tac{call("f"), call("g", 0), call("main", 0), begin("f", 1, 2), begin("main", 0), call("nowhere"), begin(""), addr("F"), addr("")} {
			for _, place := range []int{0, 6} {
				list := some()
				list[at].Code = slices.Insert(list[at].Code, place, x)
				wantAllLeft(t, list, "a name that is amiss")
				checkAll(t, list)
			}
		}
	}
	// The right ones, at the same places, are no hindrance.
	for _, x := range []impl.Tac{call("f", 0), begin("g", 1, 2), call("main"), addr("g")} {
		list := some()
		list[0].Code = slices.Insert(list[0].Code, 0, x)
		if got := checkAll(t, list); len(got[0].Code) >= len(list[0].Code) || len(got[2].Code) >= len(list[2].Code) {
			t.Errorf("%s is bettered to %s", clip(list), clip(got))
		}
	}
	// Lists that were turned, of which most are not right.
	d := newUnitDrawer(212)
	right, wrong := 0, 0
	for range 300 {
		list := d.units()
		list[d.IntN(len(list))] = d.turnUnit(list[d.IntN(len(list))])
		checkAll(t, list)
		if wantUnitsOk(list) {
			right++
		} else {
			wrong++
			wantAllLeft(t, list, "turned")
		}
	}
	if right < 20 || wrong < 100 {
		t.Errorf("%d lists are right, %d are not", right, wrong)
	}
}

// Promise 19 where bodies of programs run: bettered, all of them do and print the same.
func TestBetteredProgramsDoAndPrintTheSame(t *testing.T) {
	t.Parallel()
	d := newTalkDrawer(213)
	printed, over, fewer := 0, 0, 0
	for range 200 {
		units := impl.Lower(parsed(t, d.program()), false)
		bettered := impl.BetterAll(units)
		if !slices.EqualFunc(bettered, better.eachOf(units), sameUnit) {
			t.Fatalf("BetterAll(%s) = %s", unitsText(units), unitsText(bettered))
		}
		for i, u := range units {
			fewer += flag(len(bettered[i].Code) < len(u.Code))
		}
		for range 2 {
			w, _ := wantSameSteps(t, units, []pass{better, better}, 6, func(impl.World) []int { return d.order(20) })
			printed += len(w.Out)
			over += flag(w.Over)
		}
	}
	if printed < 1000 || over < 60 || fewer < 300 {
		t.Errorf("%d words are printed, %d are over, %d units have fewer places", printed, over, fewer)
	}
}

// What is lowered and bettered reckons what the trees do.
func TestWhatIsBetteredReckonsTheSame(t *testing.T) {
	d := &runDrawer{drawer: newDrawer(214)}
	done, printed := 0, 0
	for range 600 {
		list := d.program()
		if units := impl.BetterAll(impl.Lower(list, false)); len(units) > 0 {
			some, prints := d.wantUnitsReckonTheSame(t, list, units)
			done, printed = done+some, printed+prints
		}
	}
	if done < 500 || printed < 300 {
		t.Errorf("%d are done, %d print", done, printed)
	}
}

// gaps are ends, each with a label behind it to which one goes from the gap ahead of that one only: turn by turn one gap goes.
func gaps(count int) []impl.Tac {
	code := []impl.Tac{ret(0)}
	for n := range count {
		code = append(code, label(n), unless(249, n+1), halts(1))
	}
	return append(code, label(count))
}

// The most registers and the most places.
func TestCleanOfTheLargestUnits(t *testing.T) {
	t.Parallel()
	clean.wantMade(t, unit(0, 250, append(slices.Repeat([]impl.Tac{ret(249)}, 899), ret(0))...), ret(249))
	clean.wantMade(t, unit(0, 250, slices.Concat([]impl.Tac{ret(249)}, shown(250), []impl.Tac{ret(0)})...), ret(249))
	u := unit(0, 250, append(append(gaps(298), show(3)), ret(0))...)
	clean.wantMade(t, u, ret(0))
	better.wantMade(t, u, ret(0))
	// Jumps to the next place, of which all go at once, and jumps over one label more each.
	var code []impl.Tac
	for n := range 449 {
		code = append(code, jump(n), label(n))
	}
	clean.wantMade(t, unit(0, 250, append(code, takes(0, 249), ret(0))...), takes(0, 249), ret(0))
	code = nil
	for n := range 449 {
		code = append(code, jump(n))
	}
	for n := range 449 {
		code = append(code, label(448-n))
	}
	clean.wantMade(t, unit(0, 250, append(code, takes(0, 249), ret(0))...), takes(0, 249), ret(0))
	// Blocks from the last one back to the first one: each goes when the one behind it has gone.
	code = []impl.Tac{takes(249, 0), ret(0), label(0), ret(1)}
	for n := range 447 {
		code = append(code, label(n+1), jump(n))
	}
	clean.wantMade(t, unit(0, 250, append(code, label(900), jump(447))...), takes(249, 0), ret(0))
	// Nothing goes.
	code = nil
	for n := range 450 {
		code = append(code, label(2*n), unless(n%250, 898-2*n))
	}
	code[899] = jump(0)
	clean.wantLeft(t, unit(0, 250, code...))
	better.wantLeft(t, unit(0, 250, code...))
	// One place, or one register, more is not right.
	for _, p := range []pass{clean, better} {
		p.wantNotTurned(t, unit(0, 250, slices.Repeat([]impl.Tac{ret(0)}, 901)...))
		p.wantNotTurned(t, unit(0, 251, ret(0), ret(0)))
	}
}

func TestBetterOfTheLargestUnits(t *testing.T) {
	t.Parallel()
	better.wantMade(t, unit(0, 250, append(linked(899, 2), ret(2))...), ret(2))
	better.wantMade(t, unit(0, 250, append(linked(899, 250), ret(2))...), append(linked(752, 250), ret(2))...)
	// Each register is known, and copied into itself behind a label, so that it is known there in the next turn only.
	var code, want []impl.Tac
	for r := 249; r >= 0; r-- {
		code = append(code, number(r, 1000+r))
	}
	for r := 198; r >= 150; r-- {
		want = append(want, number(r, 1000+r))
	}
	for r := range 150 {
		code, want = append(code, same(r, r), jump(r), label(r)), append(want, number(r, 1000+r))
	}
	end := append(shown(199), ret(0))
	better.wantMade(t, unit(0, 250, append(code, end...)...), append(want, end...)...)
	// As many units as there may be, of as many places each.
	var list []impl.Unit
	for i := range 80 {
		u := unit(0, 250, append(append(gaps(298), show(3)), ret(i))...)
		u.Name = "u" + impl.Digits(i)
		list = append(list, u)
	}
	for i, u := range impl.BetterAll(list) {
		want := list[i]
		want.Code = []impl.Tac{ret(0)}
		if !sameUnit(u, want) {
			t.Errorf("unit %d of the most is %s", i, clip(u))
		}
	}
	list = append(list, unit(0, 1, ret(0)))
	wantAllLeft(t, list, "one more than the most")
}

func TestCleanAndBetterWithListsThatAreEmptyAndNil(t *testing.T) {
	clean.wantEmptyLists(t, []impl.Tac{label(900), jump(7), show(1), takes(1, 2), label(7)})
	better.wantEmptyLists(t, []impl.Tac{label(900), same(0, 1), jump(7), show(1), number(0, 2), label(7), same(2, 0), same(4, 2)})
	for _, empty := range [][]int{nil, {}, make([]int, 0, 9), []int{1, 2, 3}[3:]} {
		for _, none := range [][]impl.Tac{nil, {}, make([]impl.Tac, 0, 9)} {
			f := namedUnit("f", 0, jump(1), show(1), label(1))
			for i := range f.Code {
				f.Code[i].Args = empty
			}
			main := namedUnit("main", 0, into(1, call("f", empty...)), begin("f", empty...), ret(0), call("f", empty...))
			if got := checkAll(t, []impl.Unit{f, main}); len(got[0].Code) != 1 || len(got[1].Code) != 3 {
				t.Errorf("with empty lists there is %s", clip(got))
			}
			checkAll(t, []impl.Unit{f, {Name: "g", Code: none}, main})
			checkAll(t, []impl.Unit{{Code: none}})
		}
	}
}

func TestCleanAndBetterOfVeryLongUnits(t *testing.T) {
	t.Parallel()
	clean.wantVeryLong(t, []impl.Tac{jump(8), show(1), same(0, 1), label(8)})
	better.wantVeryLong(t, []impl.Tac{same(0, 1), same(2, 0), jump(8), number(0, 5), label(8), same(4, 2)})
}

func TestBetterAllOfVeryLongLists(t *testing.T) {
	const far = 300000
	wantAllLeft(t, slices.Repeat([]impl.Unit{unit(0, 1, ret(0), ret(0))}, far), "very many units")
	wantAllLeft(t, []impl.Unit{namedUnit("f", 0), unit(0, 1, slices.Repeat([]impl.Tac{ret(0)}, far)...)}, "very many places")
	wantAllLeft(t, []impl.Unit{namedUnit("f", 0), unit(0, 1, call("f", make([]int, far)...), ret(0))}, "very many Args")
	name := strings.Repeat("a long name ", far)
	got := checkAll(t, []impl.Unit{namedUnit(name, 0, begin(name), ret(0)), namedUnit("f", 0, into(1, addr(name)))})
	if len(got) != 2 || len(got[0].Code) != 2 || got[0].Code[0].S != name || len(got[1].Code) != 1 {
		t.Errorf("with a very long name there is %s", clip(got))
	}
	for _, n := range append(append(edges(), farPlaces()...), math.MinInt, math.MaxInt, least-1, greatest+1) {
		f := namedUnit("f", 0, number(1, 4), jump(1), label(1), show(1), ret(1))
		for _, wrong := range []impl.Unit{{Name: "g", Params: n, Regs: n, Code: []impl.Tac{ret(0)}}, namedUnit("g", n), namedUnit("g", 0, number(1, n), show(1)), namedUnit("g", 0, ret(n), ret(n)), namedUnit("g", 0, jump(n), label(n)), namedUnit("g", 0, place(n, n, n, n)), namedUnit("g", 0, call("f", n)), namedUnit("g", 0, unless(0, n), label(n))} {
			checkAll(t, []impl.Unit{f, wrong})
			checkAll(t, []impl.Unit{wrong, f})
		}
	}
}

// unitsToClean are some that are right, and some of which something is amiss.
func unitsToClean() []impl.Unit {
	d, flow := newCopyDrawer(215), newFlowDrawer(216)
	out := wrongUnits()
	for range 150 {
		u, v := d.unit(), flow.unit()
		out = append(out, u, d.turnUnit(u), v, flow.turnUnit(v))
	}
	for _, f := range tacForms {
		if f.op != impl.TcLabel {
			out = append(out, around(ordinaryTac(f)), unit(2, aroundRegs, jump(aroundLabel), ordinaryTac(f), label(aroundLabel), ordinaryTac(f), ret(0)))
		}
	}
	return append(out, unit(0, 1, ret(0)), unit(1, 4, into(2, call("f", 0, 1)), jump(0), begin("f", 3), label(0), begin("f", 3, 2), choose(0, 1, 1, 1, 2, 0, 2, 1, 0), ret(0), into(2, call("f", 1))))
}

func TestCleanAndBetterWriteIntoNothing(t *testing.T) {
	clean.wantNothingWrittenInto(t, unitsToClean())
	better.wantNothingWrittenInto(t, unitsToClean())
	for _, list := range listsToBetter() {
		given, whole := roomyUnits(list)
		got := impl.BetterAll(given)
		if !slices.EqualFunc(got, impl.BetterAll(list), sameUnit) {
			t.Errorf("BetterAll(%s) is another with room behind its lists", clip(list))
		}
		spoilWorld(impl.World{Units: got[:cap(got)]})
		if !roomIsAsItWas(given, whole) {
			t.Errorf("BetterAll writes into %s, or into the room behind its lists", clip(list))
		}
	}
}

// listsToBetter are some that are right, and some of which something is amiss.
func listsToBetter() [][]impl.Unit {
	out := listsOfUnits()
	return append(out[:100:100], out[len(out)-1], []impl.Unit{namedUnit("f", 1, show(1), ret(0), show(1)), namedUnit("g", 0, into(1, call("f", 2)), jump(3), begin("f", 2), label(3), begin("f", 1))})
}

func TestEachUnitOfCleanAndBetterIsItsOwn(t *testing.T) {
	clean.wantOwn(t, unitsToClean())
	better.wantOwn(t, unitsToClean())
	for _, list := range listsToBetter() {
		list, _ = roomyUnits(list)
		for i := range list {
			list[i].Name = strings.Clone(list[i].Name)
		}
		one, other := impl.BetterAll(list), impl.BetterAll(list)
		if !apart(slices.Concat(listsOf(list), listsOf(one), listsOf(other))) {
			t.Fatalf("BetterAll(%s) shares memory", clip(list))
		}
		kept, was := cloneUnits(other), cloneUnits(list)
		spoilWorld(impl.World{Units: one})
		if !slices.EqualFunc(other, kept, sameUnit) || !slices.EqualFunc(list, was, sameUnit) {
			t.Fatalf("BetterAll(%s) is not its own", clip(was))
		}
		spoilWorld(impl.World{Units: list})
		if !slices.EqualFunc(other, kept, sameUnit) {
			t.Fatalf("BetterAll(%s) is turned with what was given", clip(was))
		}
	}
}

func TestCleanAndBetterAnswerTheSameAgain(t *testing.T) {
	clean.wantSameAgain(t, unitsToClean())
	better.wantSameAgain(t, unitsToClean())
	lists := listsToBetter()
	for i, list := range lists {
		first := impl.BetterAll(list)
		for range 3 {
			impl.BetterAll(lists[(i+1)%len(lists)])
			if !slices.EqualFunc(impl.BetterAll(list), first, sameUnit) {
				t.Errorf("BetterAll(%s) is not the same again", clip(list))
			}
		}
	}
}

func TestCleanAndBetterSideBySide(t *testing.T) {
	clean.wantSideBySide(t, unitsToClean())
	better.wantSideBySide(t, unitsToClean())
	lists := listsToBetter()
	var group sync.WaitGroup
	wrong := make([]int, 8)
	for worker := range wrong {
		group.Go(func() {
			for _, list := range lists {
				wrong[worker] += flag(!slices.EqualFunc(impl.BetterAll(list), wantBetterAll(list), sameUnit))
			}
		})
	}
	group.Wait()
	if !slices.Equal(wrong, make([]int, 8)) {
		t.Errorf("answers of BetterAll side by side are others: %v", wrong)
	}
}
