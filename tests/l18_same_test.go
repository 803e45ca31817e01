package tests

import (
	"slices"
	"strings"
	"testing"

	"loop.example/g00286/impl"
)

var (
	forward = pass{name: "Forward", do: impl.Forward, want: wantForward}
	dead    = pass{name: "Dead", do: impl.Dead, want: wantDead}
)

// copied makes each of twelve registers a copy of one of twelve others, and shown shows all of both.
func copied() []impl.Tac {
	var code []impl.Tac
	for r := range aroundRegs {
		code = append(code, same(r, aroundRegs+r))
	}
	return code
}

func shown(count int) []impl.Tac {
	var code []impl.Tac
	for r := range count {
		code = append(code, show(r))
	}
	return code
}

// first is the one of which a register is a copy behind copied.
func first(r int) int {
	if r < aroundRegs {
		return aroundRegs + r
	}
	return r
}

// wantCopiesBehind is of a place with all that is copied ahead of it, and of what stands in its stead: what it sets is no copy behind it, unless it copies, nor is any a copy of it, and all others are what they were.
func wantCopiesBehind(t *testing.T, x, stands impl.Tac) {
	t.Helper()
	sets := wantSets(x)
	want := append(copied(), stands)
	for r := range 2 * aroundRegs {
		now := first(r)
		if slices.Contains(sets, r) || slices.Contains(sets, now) || x.Op == impl.TcLabel {
			now = r
		}
		if x.Op == impl.TcCopy && x.D == r {
			now = first(x.A)
		}
		want = append(want, show(now))
	}
	end := []impl.Tac{label(aroundLabel), ret(0)}
	forward.wantMade(t, unit(2, 2*aroundRegs, slices.Concat(copied(), []impl.Tac{x}, shown(2*aroundRegs), end)...), append(want, end...)...)
}

func TestProgramsWithFewerCopies(t *testing.T) {
	for _, c := range []struct{ src, forward, dead, all string }{
		{"func main() { let a = 2; let b = a * 3 + 1; print b - a; return b; }",
			"num 0 0; num 1 0; num 2 2; copy 0 2; num 3 3; mul 4 2 3; num 5 1; add 6 4 5; copy 1 6; sub 7 6 2; print 7; ret 6; num 8 0; ret 8",
			"num 2 2; copy 0 2; num 3 3; mul 4 0 3; num 5 1; add 6 4 5; copy 1 6; sub 7 1 0; print 7; ret 1; num 8 0; ret 8",
			"num 1 7; num 7 5; print 7; ret 1; num 8 0; ret 8"},
		// What is copied ahead of a loop is no copy in it.
		{"func f(n) { let a = n; while a { let b = a; a = b - 1; print b; } return n; } func main() { print f(3); }",
			"num 1 0; num 2 0; copy 1 0; label 0; zero 1 1; copy 2 1; num 3 1; sub 4 1 3; copy 1 4; print 2; jump 0; label 1; ret 0; num 5 0; ret 5 & num 0 3; call 1 f 0; print 1; num 2 0; ret 2",
			"copy 1 0; label 0; zero 1 1; copy 2 1; num 3 1; sub 4 2 3; copy 1 4; print 2; jump 0; label 1; ret 0; num 5 0; ret 5 & num 0 3; call 1 f 0; print 1; num 2 0; ret 2",
			"copy 1 0; label 0; zero 1 1; copy 2 1; num 3 1; sub 4 1 3; copy 1 4; print 2; jump 0; label 1; ret 0; num 5 0; ret 5 & num 0 3; call 1 f 0; print 1; num 2 0; ret 2"},
		{"func main() { let c = make(1); let d = c; let x = 0; send d, x; recv x, c; print x; select { case recv x, d { } case send c, x { } } }",
			"num 0 0; num 1 0; num 2 0; num 3 1; make 4 3; copy 0 4; copy 1 4; num 5 0; copy 2 5; send 4 5; recv 6 4; copy 2 6; print 6; select 7 8 0 1 4 0 2 4 6; num 9 0; same 10 7 9; zero 10 1; copy 2 8; jump 0; label 1; num 11 1; same 12 7 11; zero 12 2; jump 0; label 2; label 0; num 13 0; ret 13",
			"num 3 1; make 4 3; copy 0 4; copy 1 0; num 5 0; copy 2 5; send 1 2; recv 6 0; copy 2 6; print 2; select 7 8 0 1 1 0 2 0 2; num 9 0; same 10 7 9; zero 10 1; jump 0; label 1; num 11 1; same 12 7 11; zero 12 2; jump 0; label 2; label 0; num 13 0; ret 13",
			"num 3 1; make 4 3; num 2 0; send 4 2; recv 6 4; print 6; select 7 8 0 1 4 0 2 4 6; num 9 0; same 10 7 9; zero 10 1; jump 0; label 1; num 11 1; same 12 7 11; zero 12 2; jump 0; label 2; label 0; num 13 0; ret 13"},
	} {
		var got [3][]string
		for _, u := range impl.Lower(parsed(t, c.src), false) {
			got[0] = append(got[0], codeText(forward.check(t, u).Code))
			got[1] = append(got[1], codeText(dead.check(t, u).Code))
			got[2] = append(got[2], codeText(dead.check(t, forward.check(t, fold.check(t, u))).Code))
		}
		for i, want := range []string{c.forward, c.dead, c.all} {
			if text := strings.Join(got[i], " & "); text != want {
				t.Errorf("%q is\n%q, not\n%q", c.src, text, want)
			}
		}
	}
}

func TestForwardAndDeadOfUnitsThatAreNotRight(t *testing.T) {
	forward.wantWrongNotTurned(t, same(0, 1), same(0, 0), sum(1, 0, 0))
	dead.wantWrongNotTurned(t, same(0, 1), same(1, 0), number(0, 5))
}

func TestNothingIsACopyAtTheBeginning(t *testing.T) {
	for params := range 5 {
		for r := range 6 {
			other := (r + 1) % 6
			forward.wantLeft(t, unit(params, 6, append(shown(6), ret(r))...))
			forward.wantLeft(t, unit(params, 6, same(other, r), ret(r)))
			forward.wantLeft(t, unit(params, 6, sum(r, other, r), unless(r, 3), label(3), ret(other)))
			// One is a copy as soon as it is made one, and that alone.
			forward.wantMade(t, unit(params, 6, slices.Concat([]impl.Tac{show(other), same(other, r)}, shown(6), []impl.Tac{ret(other)})...),
				slices.Concat([]impl.Tac{show(other), same(other, r)}, slices.Replace(shown(6), other, other+1, show(r)), []impl.Tac{ret(r)})...)
		}
	}
}

func TestNothingIsACopyBehindALabel(t *testing.T) {
	// To which nothing goes, to which one goes from ahead, and from behind, and both.
	forward.wantLeft(t, unit(0, 3, same(1, 0), label(1), show(1), ret(1)))
	forward.wantLeft(t, unit(0, 3, same(1, 0), jump(1), label(1), show(1), ret(1)))
	forward.wantLeft(t, unit(0, 3, same(1, 0), label(1), show(1), jump(1)))
	forward.wantLeft(t, unit(0, 3, same(1, 0), jump(1), show(0), label(1), show(1), jump(1)))
	forward.wantLeft(t, unit(0, 3, same(1, 0), unless(2, 1), show(2), label(1), show(1), ret(1)))
	forward.wantLeft(t, unit(0, 3, same(1, 0), label(1), unless(1, 1), ret(1)))
	// It is a copy by all ways that come there; that is not known all the same.
	forward.wantLeft(t, unit(0, 3, unless(2, 1), same(1, 0), jump(2), label(1), same(1, 0), label(2), show(1), ret(1)))
	// What is copied behind it is a copy, up to the next one.
	forward.wantMade(t, unit(0, 3, label(1), same(1, 0), show(1), label(2), label(0), show(1), same(2, 1), show(2), show(1), label(900), ret(2)), label(1), same(1, 0), show(0), label(2), label(0), show(1), same(2, 1), show(1), show(1), label(900), ret(2))
	forward.wantMade(t, unit(0, 3, same(1, 0), show(1), label(1), same(2, 1), show(2), ret(1)), same(1, 0), show(0), label(1), same(2, 1), show(1), ret(1))
	wantCopiesBehind(t, label(8), label(8))
	var code []impl.Tac
	for r := range 249 {
		code = append(code, same(r, 249))
	}
	code = append(code, label(3))
	forward.wantLeft(t, unit(4, 250, slices.Concat(code, shown(250), []impl.Tac{ret(0)})...))
}

// Place by place: a copy is one behind an end, too, to what comes there only by a label, up to that label.
func TestCopiesGoOnBehindAnEnd(t *testing.T) {
	for _, c := range [][2]impl.Tac{{ret(1), ret(0)}, {halts(1), halts(0)}, {jump(9), jump(9)}, {unless(1, 9), unless(0, 9)}} {
		forward.wantMade(t, unit(0, 3, same(1, 0), c[0], show(1), label(9), show(1), ret(1)), same(1, 0), c[1], show(0), label(9), show(1), ret(1))
		forward.wantMade(t, unit(0, 3, label(9), same(1, 0), c[0], sum(2, 1, 2), ret(1)), label(9), same(1, 0), c[1], sum(2, 0, 2), ret(0))
	}
}

// What each op reads is replaced, and what it sets, its number and its name are as they were.
func TestWhatEachOpReadsIsReplaced(t *testing.T) {
	cas := func(d, a, b, arg int) impl.Tac {
		return impl.Tac{Op: impl.TcCas, D: d, A: a, B: b, Args: []int{arg}}
	}
	core := impl.Tac{Op: impl.TcCore, D: 1}
	for _, c := range [][2]impl.Tac{
		{number(1, 2), number(1, 2)},
		{same(1, 2), same(1, 14)},
		{sum(1, 2, 3), sum(1, 14, 15)},
		{place(impl.TcSub, 1, 2, 3), place(impl.TcSub, 1, 14, 15)},
		{place(impl.TcMul, 2, 3, 3), place(impl.TcMul, 2, 15, 15)},
		{place(impl.TcLess, 1, 13, 3), place(impl.TcLess, 1, 13, 15)},
		{place(impl.TcSame, 1, 2, 15), place(impl.TcSame, 1, 14, 15)},
		{jump(7), jump(7)},
		{unless(1, 7), unless(13, 7)},
		{into(1, call("f", 2, 3, 14, 2)), into(1, call("f", 14, 15, 14, 14))},
		{ret(3), ret(15)},
		{show(0), show(12)},
		{begin("f", 11, 0), begin("f", 23, 12)},
		{begin("f"), begin("f")},
		{makes(1, 2), makes(1, 14)},
		{gives(1, 2), gives(13, 14)},
		{takes(1, 2), takes(1, 14)},
		{shuts(2), shuts(14)},
		{choose(3, 4, 1, 2, 1, 2, 1, 5, 0, 2, 0, 0), choose(3, 4, 1, 2, 13, 14, 1, 17, 0, 2, 12, 12)},
		{choose(0, 1, 0, 1, 0, 0, 1, 1, 0, 1, 2, 0), choose(0, 1, 0, 1, 12, 0, 1, 13, 0, 1, 14, 0)},
		{choose(2, 2, 1, 2, 2, 2), choose(2, 2, 1, 2, 14, 14)},
		{place(impl.TcPeek, 1, 2, 0), place(impl.TcPeek, 1, 14, 0)},
		{place(impl.TcPoke, 0, 1, 2), place(impl.TcPoke, 0, 13, 14)},
		{cas(1, 2, 3, 4), cas(1, 14, 15, 16)},
		{cas(1, 1, 1, 1), cas(1, 13, 13, 13)},
		{core, core},
		{impl.Tac{Op: impl.TcAddr, D: 1, S: "f"}, impl.Tac{Op: impl.TcAddr, D: 1, S: "f"}},
		{place(impl.TcOut, 0, 1, 0), place(impl.TcOut, 0, 13, 0)},
		{place(impl.TcNote, 0, 1, 2), place(impl.TcNote, 0, 13, 14)},
		{place(impl.TcSwap, 0, 1, 2), place(impl.TcSwap, 0, 13, 14)},
		{halts(1), halts(13)},
	} {
		wantCopiesBehind(t, c[0], c[1])
	}
	for _, f := range tacForms {
		if f.op == impl.TcLabel {
			continue
		}
		wantCopiesBehind(t, ordinaryTac(f), withReads(ordinaryTac(f), first))
		for _, put := range registerFields(f) {
			for r := range 2 * aroundRegs {
				x := ordinaryTac(f)
				put(&x, r)
				wantCopiesBehind(t, x, withReads(x, first))
			}
		}
	}
}

func TestCopiesOfCopies(t *testing.T) {
	forward.wantMade(t, unit(1, 4, same(1, 0), same(2, 1), same(3, 2), show(3), show(2), ret(1)), same(1, 0), same(2, 0), same(3, 0), show(0), show(0), ret(0))
	forward.wantMade(t, unit(1, 4, same(2, 3), same(1, 2), same(0, 1), show(0), ret(0)), same(2, 3), same(1, 3), same(0, 3), show(3), ret(3))
	// One that is copied ahead of becoming a copy itself.
	forward.wantMade(t, unit(1, 3, same(2, 1), same(1, 0), show(2), show(1), ret(2)), same(2, 1), same(1, 0), show(2), show(0), ret(2))
	// One that becomes a copy of another one, and what was copied from it till then and later.
	forward.wantMade(t, unit(1, 5, same(1, 0), same(2, 1), same(1, 3), same(4, 1), show(1), show(2), ret(4)), same(1, 0), same(2, 0), same(1, 3), same(4, 3), show(3), show(0), ret(3))
	// As many as there are, up and down.
	for _, back := range []bool{false, true} {
		at := func(r int) int {
			if back {
				return 249 - r
			}
			return r
		}
		var code, want []impl.Tac
		for r := range 249 {
			code, want = append(code, same(at(r+1), at(r))), append(want, same(at(r+1), at(0)))
		}
		for r := range 250 {
			code, want = append(code, show(at(r))), append(want, show(at(0)))
		}
		forward.wantMade(t, unit(4, 250, append(code, ret(at(249)))...), append(want, ret(at(0)))...)
	}
}

// A TcCopy whose register, replaced, is its own: nothing is known of it then, nor of those that were copies of it.
func TestCopiesOfItself(t *testing.T) {
	forward.wantMade(t, unit(1, 3, same(1, 0), same(0, 1), show(0), show(1), ret(1)), same(1, 0), same(0, 0), show(0), show(1), ret(1))
	forward.wantMade(t, unit(1, 3, same(1, 0), same(2, 1), same(0, 2), show(0), show(1), show(2), ret(1)), same(1, 0), same(2, 0), same(0, 0), show(0), show(1), show(2), ret(1))
	forward.wantMade(t, unit(1, 3, same(1, 0), same(0, 1), same(1, 0), show(1), same(0, 1), ret(1)), same(1, 0), same(0, 0), same(1, 0), show(0), same(0, 0), ret(1))
	forward.wantLeft(t, unit(1, 3, same(0, 0), show(0), same(0, 0), ret(0)))
	forward.wantLeft(t, unit(1, 3, same(0, 0), show(1), ret(2)))
	forward.wantMade(t, unit(1, 3, same(1, 0), same(0, 0), show(1), same(1, 0), ret(1)), same(1, 0), same(0, 0), show(1), same(1, 0), ret(0))
	forward.wantMade(t, unit(1, 4, same(1, 0), same(2, 0), same(3, 2), same(0, 0), show(1), show(2), sum(1, 3, 0), ret(1)), same(1, 0), same(2, 0), same(3, 0), same(0, 0), show(1), show(2), sum(1, 3, 0), ret(1))
	// Of itself, but it is a copy of another one, and stays so.
	forward.wantMade(t, unit(1, 3, same(1, 0), same(1, 1), show(1), ret(1)), same(1, 0), same(1, 0), show(0), ret(0))
	forward.wantMade(t, unit(1, 3, same(1, 0), same(2, 1), same(1, 1), same(1, 2), show(1), show(2), ret(0)), same(1, 0), same(2, 0), same(1, 0), same(1, 0), show(0), show(0), ret(0))
}

func TestCopiesOfWhatIsSetAgain(t *testing.T) {
	for _, set := range []impl.Tac{number(0, 5), sum(0, 4, 4), place(impl.TcSame, 0, 4, 5), into(0, call("f", 4)), makes(0, 4), takes(0, 4), choose(0, 5, 1, 1, 4, 0), choose(5, 0, 1, 2, 4, 4), choose(0, 0, 0, 1, 4, 0), place(impl.TcPeek, 0, 4, 0), {Op: impl.TcCas, D: 0, A: 4, B: 4, Args: []int{4}}, {Op: impl.TcCore}, addr("f"), same(0, 4), same(0, 0)} {
		// The copy itself.
		on := func(r int) impl.Tac {
			x := set
			if x.D == 0 {
				x.D = r
			}
			if x.Op == impl.TcSelect && x.B == 0 {
				x.B = r
			}
			return x
		}
		now := func(r int) impl.Tac {
			if set.Op == impl.TcCopy && set.A == 4 {
				return show(4)
			}
			return show(r)
		}
		if set.Op != impl.TcCopy || set.A != 0 {
			forward.wantMade(t, unit(1, 6, same(1, 0), on(1), show(1), show(0), ret(2)), same(1, 0), on(1), now(1), show(0), ret(2))
			forward.wantMade(t, unit(1, 6, same(1, 0), same(2, 1), on(1), show(1), show(2), ret(2)), same(1, 0), same(2, 0), on(1), now(1), show(0), ret(0))
		}
		// What it is a copy of, with several copies, of which none is known to be one of another then.
		forward.wantMade(t, unit(1, 6, same(1, 0), same(2, 1), same(3, 0), on(0), show(0), show(1), show(2), show(3), ret(1)), same(1, 0), same(2, 0), same(3, 0), on(0), now(0), show(1), show(2), show(3), ret(1))
		// And copied again.
		forward.wantMade(t, unit(1, 6, same(1, 0), same(2, 1), on(0), same(3, 2), show(3), show(1), same(2, 1), show(2), show(3), ret(1)), same(1, 0), same(2, 0), on(0), same(3, 2), show(2), show(1), same(2, 1), show(1), show(3), ret(1))
	}
	// Copies of two: what is set is known no more, and the others are.
	forward.wantMade(t, unit(1, 6, same(1, 0), same(3, 2), same(4, 3), same(5, 1), number(2, 7), show(1), show(3), show(4), show(5), ret(4)), same(1, 0), same(3, 2), same(4, 2), same(5, 0), number(2, 7), show(0), show(3), show(4), show(0), ret(4))
	// Copied over by another one.
	forward.wantMade(t, unit(1, 5, same(1, 0), same(1, 2), show(1), number(0, 5), show(1), number(2, 5), show(1), ret(1)), same(1, 0), same(1, 2), show(2), number(0, 5), show(2), number(2, 5), show(1), ret(1))
	forward.wantMade(t, unit(1, 5, same(1, 0), same(3, 2), same(0, 3), show(0), show(1), show(3), ret(1)), same(1, 0), same(3, 2), same(0, 2), show(2), show(1), show(2), ret(1))
	// Changed about by a third one.
	forward.wantMade(t, unit(2, 3, same(2, 0), same(0, 1), same(1, 2), show(0), show(1), show(2), ret(0)), same(2, 0), same(0, 1), same(1, 2), show(0), show(2), show(2), ret(0))
}

// A place that sets what it reads reads it as it was known ahead of it.
func TestWhatReadsWhatItSets(t *testing.T) {
	for op := impl.TcAdd; op <= impl.TcSame; op++ {
		forward.wantMade(t, unit(1, 4, same(1, 0), place(op, 1, 1, 1), show(1), show(0), ret(1)), same(1, 0), place(op, 1, 0, 0), show(1), show(0), ret(1))
		forward.wantMade(t, unit(1, 4, same(1, 0), place(op, 0, 1, 0), show(1), show(0), ret(1)), same(1, 0), place(op, 0, 0, 0), show(1), show(0), ret(1))
		forward.wantMade(t, unit(1, 4, same(1, 0), same(3, 2), place(op, 1, 3, 1), show(1), show(3), ret(1)), same(1, 0), same(3, 2), place(op, 1, 2, 0), show(1), show(2), ret(1))
		forward.wantMade(t, unit(1, 4, same(1, 0), same(3, 2), place(op, 2, 3, 1), show(1), show(3), ret(1)), same(1, 0), same(3, 2), place(op, 2, 2, 0), show(0), show(3), ret(0))
	}
	for _, op := range []int{impl.TcMake, impl.TcRecv, impl.TcPeek} {
		forward.wantMade(t, unit(1, 3, same(1, 0), place(op, 1, 1, 0), show(1), ret(0)), same(1, 0), place(op, 1, 0, 0), show(1), ret(0))
		forward.wantMade(t, unit(1, 3, same(1, 0), place(op, 0, 1, 0), show(1), ret(0)), same(1, 0), place(op, 0, 0, 0), show(1), ret(0))
	}
	forward.wantMade(t, unit(1, 4, same(1, 0), same(2, 3), into(1, call("f", 1, 2, 1)), show(1), show(2), ret(0)), same(1, 0), same(2, 3), into(1, call("f", 0, 3, 0)), show(1), show(3), ret(0))
	forward.wantMade(t, unit(1, 4, same(1, 0), same(2, 0), into(0, call("f", 1, 2)), begin("f", 1, 2), ret(0)), same(1, 0), same(2, 0), into(0, call("f", 0, 0)), begin("f", 1, 2), ret(0))
	forward.wantMade(t, unit(1, 6, same(1, 0), same(2, 3), choose(1, 2, 0, 2, 1, 2, 1, 2, 0), show(1), show(2), ret(0)), same(1, 0), same(2, 3), choose(1, 2, 0, 2, 0, 3, 1, 3, 0), show(1), show(2), ret(0))
	forward.wantMade(t, unit(1, 6, same(1, 0), same(2, 3), choose(0, 3, 0, 2, 1, 2, 1, 2, 0), show(1), show(2), ret(0)), same(1, 0), same(2, 3), choose(0, 3, 0, 2, 0, 3, 1, 3, 0), show(1), show(2), ret(0))
	cas := impl.Tac{Op: impl.TcCas, D: 1, A: 1, B: 2, Args: []int{1}}
	forward.wantMade(t, unit(1, 4, same(1, 0), same(2, 3), cas, show(1), show(2), ret(0)), same(1, 0), same(2, 3), impl.Tac{Op: impl.TcCas, D: 1, A: 0, B: 3, Args: []int{0}}, show(1), show(3), ret(0))
}

// eachShort goes over all lists of so many of these places.
func eachShort(count int, places []impl.Tac, do func(code []impl.Tac)) {
	at := make([]int, count)
	for {
		var code []impl.Tac
		for _, i := range at {
			code = append(code, places[i])
		}
		do(code)
		i := 0
		for ; i < count && at[i] == len(places)-1; i++ {
			at[i] = 0
		}
		if i == count {
			return
		}
		at[i]++
	}
}

// All ways to copy and to set three registers by four places, one of which may be a label.
func TestAllShortUnitsOfCopies(t *testing.T) {
	var places []impl.Tac
	for d := range 3 {
		places = append(places, number(d, 7), same(d, 0), same(d, 1), same(d, 2))
	}
	eachShort(4, append(places, label(0)), func(code []impl.Tac) {
		for n, i := 0, 0; i < len(code); i++ {
			if code[i].Op == impl.TcLabel {
				code[i].N = n
				n++
			}
		}
		forward.check(t, unit(0, 3, slices.Concat(code, shown(3), []impl.Tac{ret(0)})...))
	})
}

// All short units of three places beside a label, with a test, a jump, copies and numbers in two registers.
func TestAllShortUnitsOfWays(t *testing.T) {
	places := []impl.Tac{jump(0)}
	for d := range 2 {
		places = append(places, number(d, 7), same(d, 0), same(d, 1), sum(d, d, 1-d), show(d), unless(d, 0))
	}
	eachShort(3, places, func(code []impl.Tac) {
		for at := range len(code) + 1 {
			for _, end := range []impl.Tac{ret(0), jump(0)} {
				u := unit(0, 2, append(slices.Insert(slices.Clone(code), at, label(0)), end)...)
				forward.check(t, u)
				dead.check(t, u)
			}
		}
	})
}

func TestWhatForwardAndDeadLeaveAsItWas(t *testing.T) {
	for _, name := range []string{"", "u", "main", "let", "a name\x00 of bytes \xff", strings.Repeat("long ", 5000)} {
		for params := range 5 {
			for _, regs := range []int{5, 6, 249, 250} {
				code := []impl.Tac{number(1, 5), same(0, 1), number(3, 6), into(2, call(name, 0, 3)), {Op: impl.TcAddr, D: 4, S: name}, begin(name, 4, 2), label(9), ret(2)}
				u := impl.Unit{Name: name, Params: params, Regs: regs, Code: code}
				forward.wantMade(t, u, code[0], code[1], code[2], into(2, call(name, 1, 3)), code[4], code[5], code[6], code[7])
				dead.wantLeft(t, u)
				u.Code = slices.Insert(slices.Clone(code), 5, number(0, 7), impl.Tac{Op: impl.TcAddr, D: 1, S: name})
				dead.wantMade(t, u, code...)
			}
		}
	}
	// In their order.
	var code, ahead, left []impl.Tac
	for n := range 100 {
		code = append(code, same(1, 0), number(2, n), show(1), label(n), same(1, 2), show(2))
		ahead = append(ahead, same(1, 0), number(2, n), show(0), label(n), same(1, 2), show(2))
		left = append(left, same(1, 0), number(2, n), show(1), label(n), show(2))
	}
	u := unit(3, 3, append(code, ret(0))...)
	forward.wantMade(t, u, append(ahead, ret(0))...)
	dead.wantMade(t, u, append(left, ret(0))...)
}

// Each op whose register nobody reads: those that do nothing but set it are left out, and no others.
func TestWhatNobodyReads(t *testing.T) {
	for _, f := range tacForms {
		x := ordinaryTac(f)
		if f.op == impl.TcLabel {
			x.N = aroundLabel + 1
		}
		leaves := strings.Contains(" num copy add sub mul less same core addr ", " "+tacWords[f.op-1]+" ")
		end := []impl.Tac{label(aroundLabel), ret(0)}
		for d := range aroundRegs {
			if strings.Contains(f.sets, "D") {
				x.D = d
			}
			if strings.Contains(f.sets, "B") {
				x.B = (d + 1) % aroundRegs
			}
			u := unit(2, aroundRegs, append([]impl.Tac{x}, end...)...)
			if leaves && d != 0 {
				dead.wantMade(t, u, end...)
			} else {
				dead.wantLeft(t, u)
			}
			// It is read right behind it.
			dead.wantLeft(t, unit(2, aroundRegs, slices.Concat([]impl.Tac{x, show(d)}, end)...))
			// It is set again ahead of being read.
			u = unit(2, aroundRegs, slices.Concat([]impl.Tac{x, takes(d, 0), show(d)}, end)...)
			if leaves && d != 0 {
				dead.wantMade(t, u, u.Code[1:]...)
			} else {
				dead.wantLeft(t, u)
			}
		}
	}
	// With what it reads: the same register, and others.
	for op := impl.TcAdd; op <= impl.TcSame; op++ {
		dead.wantMade(t, unit(1, 3, place(op, 1, 1, 1), ret(0)), ret(0))
		dead.wantMade(t, unit(1, 3, place(op, 1, 1, 0), ret(0)), ret(0))
		dead.wantLeft(t, unit(1, 3, place(op, 1, 1, 1), ret(1)))
	}
	dead.wantMade(t, unit(1, 3, same(1, 1), ret(0)), ret(0))
	dead.wantLeft(t, unit(1, 3, same(1, 1), ret(1)))
	// All there is but the end.
	dead.wantMade(t, unit(0, 3, number(0, 1), number(1, 2), addr("f"), impl.Tac{Op: impl.TcCore, D: 2}, ret(1)), number(1, 2), ret(1))
	dead.wantMade(t, unit(0, 3, number(0, 1), label(1), number(1, 2), jump(1)), label(1), jump(1))
}

// What is set again is for nobody, whoever sets it.
func TestWhatIsSetAgainUnread(t *testing.T) {
	for _, x := range []impl.Tac{number(1, 6), same(1, 0), sum(1, 0, 0), into(1, call("f", 0)), makes(1, 0), takes(1, 0), choose(1, 2, 0, 1, 0, 0), choose(2, 1, 0, 2, 0, 0), place(impl.TcPeek, 1, 0, 0), {Op: impl.TcCas, D: 1, Args: []int{0}}, {Op: impl.TcCore, D: 1}, {Op: impl.TcAddr, D: 1, S: "f"}} {
		dead.wantMade(t, unit(1, 3, number(1, 5), x, show(1), ret(0)), x, show(1), ret(0))
		dead.wantMade(t, unit(1, 3, number(1, 5), show(0), x, ret(1)), show(0), x, ret(1))
		dead.wantLeft(t, unit(1, 3, number(1, 5), show(1), x, ret(1)))
	}
	// By a place that reads it, too.
	dead.wantLeft(t, unit(1, 3, number(1, 5), sum(1, 1, 0), ret(1)))
	dead.wantLeft(t, unit(1, 3, number(1, 5), takes(1, 1), ret(0)))
	dead.wantLeft(t, unit(1, 3, number(1, 5), choose(1, 1, 0, 2, 0, 1), ret(0)))
	// What a select sets is set, as chapter 10 names it, where its default is told, too.
	dead.wantMade(t, unit(1, 3, number(1, 5), number(2, 5), choose(2, 1, 1, 1, 0, 0), show(1), ret(0)), choose(2, 1, 1, 1, 0, 0), show(1), ret(0))
}

// What is read by such a place alone goes with it.
func TestChainsThatNobodyReads(t *testing.T) {
	dead.wantMade(t, unit(1, 5, number(1, 5), same(2, 1), sum(3, 2, 1), place(impl.TcMul, 4, 3, 3), ret(0)), ret(0))
	dead.wantMade(t, unit(1, 5, number(4, 5), same(3, 4), sum(2, 3, 4), place(impl.TcMul, 1, 2, 2), ret(0)), ret(0))
	dead.wantMade(t, unit(1, 5, impl.Tac{Op: impl.TcCore, D: 3}, impl.Tac{Op: impl.TcAddr, D: 1, S: "f"}, place(impl.TcLess, 2, 3, 1), place(impl.TcSame, 4, 2, 2), ret(0)), ret(0))
	// In one register.
	dead.wantMade(t, unit(1, 2, number(1, 5), sum(1, 1, 1), same(1, 1), place(impl.TcSub, 1, 1, 0), ret(0)), ret(0))
	// As far as it is read by others.
	dead.wantMade(t, unit(1, 5, number(1, 5), same(2, 1), sum(3, 2, 1), place(impl.TcMul, 4, 3, 3), ret(2)), number(1, 5), same(2, 1), ret(2))
	dead.wantMade(t, unit(1, 5, number(1, 5), same(2, 1), show(2), sum(2, 2, 1), ret(0)), number(1, 5), same(2, 1), show(2), ret(0))
	dead.wantMade(t, unit(1, 5, number(1, 5), number(2, 6), sum(3, 1, 2), show(2), ret(0)), number(2, 6), show(2), ret(0))
	// Read by what stays, though nobody reads what that sets.
	for _, x := range []impl.Tac{into(2, call("f", 1)), makes(2, 1), takes(2, 1), choose(2, 2, 1, 1, 1, 0), choose(2, 2, 0, 2, 0, 1), place(impl.TcPeek, 2, 1, 0), {Op: impl.TcCas, D: 2, A: 1, Args: []int{0}}, {Op: impl.TcCas, D: 2, B: 1, Args: []int{0}}, {Op: impl.TcCas, D: 2, Args: []int{1}}} {
		dead.wantLeft(t, unit(1, 3, number(1, 5), x, ret(0)))
		dead.wantMade(t, unit(1, 3, number(1, 5), x, same(1, 2), ret(0)), number(1, 5), x, ret(0))
	}
	// Over labels, tests and jumps, which stay.
	dead.wantMade(t, unit(1, 4, number(1, 5), label(1), same(2, 1), unless(0, 2), sum(3, 2, 1), label(2), sum(3, 1, 2), jump(3), show(0), label(3), ret(0)), label(1), unless(0, 2), label(2), jump(3), show(0), label(3), ret(0))
}

func TestWhatIsReadByOneWayOnly(t *testing.T) {
	for _, u := range []impl.Unit{
		unit(1, 3, number(1, 5), unless(0, 7), show(1), label(7), ret(0)),
		unit(1, 3, number(1, 5), unless(0, 7), jump(8), label(7), show(1), label(8), ret(0)),
		unit(1, 3, number(1, 5), unless(0, 7), number(1, 6), label(7), ret(1)),
		unit(1, 3, number(1, 5), unless(0, 7), ret(0), label(7), ret(1)),
		unit(1, 3, number(1, 5), jump(7), label(8), ret(1), label(7), jump(8)),
		unit(1, 3, number(1, 5), unless(1, 7), label(7), ret(0)),
		// Back to a label.
		unit(1, 3, label(3), show(1), number(1, 5), unless(0, 3), ret(0)),
		unit(1, 3, label(3), show(1), number(1, 5), jump(3)),
		unit(1, 3, jump(4), label(3), show(1), label(4), number(1, 5), unless(0, 3), ret(0)),
		unit(1, 3, label(3), unless(1, 4), show(0), label(4), same(1, 0), number(0, 0), jump(3)),
	} {
		dead.wantLeft(t, u)
	}
	// By no way.
	dead.wantMade(t, unit(1, 3, number(1, 5), unless(0, 7), number(1, 6), jump(8), label(7), takes(1, 0), label(8), ret(1)), unless(0, 7), number(1, 6), jump(8), label(7), takes(1, 0), label(8), ret(1))
	dead.wantMade(t, unit(1, 3, number(1, 5), jump(9), show(1), label(9), ret(0)), jump(9), show(1), label(9), ret(0))
	dead.wantMade(t, unit(1, 3, show(1), number(1, 5), label(3), unless(0, 3), ret(0)), show(1), label(3), unless(0, 3), ret(0))
	dead.wantMade(t, unit(1, 3, number(1, 5), label(0), jump(0), show(1), ret(1)), label(0), jump(0), show(1), ret(1))
	for _, end := range []impl.Tac{ret(0), halts(0)} {
		dead.wantMade(t, unit(1, 3, number(1, 5), end, show(1), ret(1)), end, show(1), ret(1))
		// Places that no way comes to are as all others.
		dead.wantMade(t, unit(1, 3, end, number(1, 5), number(2, 5), ret(1)), end, number(1, 5), ret(1))
	}
}

func TestLoopsThatNobodyReads(t *testing.T) {
	// Round by round: what is read in the next one by a place that goes.
	dead.wantMade(t, unit(1, 4, label(0), same(3, 2), same(2, 1), takes(1, 0), jump(0)), label(0), takes(1, 0), jump(0))
	dead.wantMade(t, unit(1, 4, number(1, 1), number(2, 2), label(0), same(3, 2), same(2, 1), unless(0, 0), ret(0)), label(0), unless(0, 0), ret(0))
	// What is read in the next round by itself, or by one that it is made of, is live.
	dead.wantLeft(t, unit(1, 3, number(1, 0), number(2, 1), label(0), sum(1, 1, 2), jump(0)))
	dead.wantLeft(t, unit(1, 3, number(1, 0), label(0), same(1, 1), jump(0)))
	dead.wantLeft(t, unit(1, 3, label(0), same(1, 2), same(2, 1), jump(0)))
	dead.wantMade(t, unit(1, 4, number(1, 1), label(0), same(3, 1), same(1, 2), same(2, 0), unless(0, 0), ret(0)), label(0), unless(0, 0), ret(0))
	// A loop in a loop.
	dead.wantMade(t, unit(1, 4, label(0), number(1, 3), label(1), same(2, 1), same(3, 2), unless(0, 1), sum(2, 3, 3), jump(0)), label(0), label(1), unless(0, 1), jump(0))
	dead.wantMade(t, unit(1, 4, label(0), number(1, 3), label(1), same(2, 1), same(3, 2), unless(0, 1), show(2), jump(0)), label(0), number(1, 3), label(1), same(2, 1), unless(0, 1), show(2), jump(0))
	// As many as there are, each read in the next round by the one ahead of it.
	var code []impl.Tac
	for r := range 249 {
		code = append(code, same(r, r+1))
	}
	u := unit(0, 250, slices.Concat([]impl.Tac{label(0)}, code, []impl.Tac{jump(0)})...)
	dead.wantMade(t, u, label(0), jump(0))
	u = unit(0, 250, slices.Concat([]impl.Tac{label(0), show(0)}, code, []impl.Tac{jump(0)})...)
	dead.wantLeft(t, u)
}

// linked are sums in a row, each of what the one ahead of it sets.
func linked(count, regs int) []impl.Tac {
	var code []impl.Tac
	for i := range count {
		code = append(code, sum((i+1)%regs, i%regs, i%regs))
	}
	return code
}

// The most registers and the most places.
func TestDeadOfTheLargestUnits(t *testing.T) {
	t.Parallel()
	// A row of which nobody reads the last one goes from its end on, as far as to what is read: all of it, and a part.
	dead.wantMade(t, unit(0, 250, append(linked(899, 2), ret(2))...), ret(2))
	dead.wantMade(t, unit(0, 250, append(linked(899, 250), ret(2))...), append(linked(752, 250), ret(2))...)
	dead.wantLeft(t, unit(0, 250, append(linked(899, 250), ret(149))...))
	// With all other registers live all the time.
	dead.wantMade(t, unit(0, 250, slices.Concat(linked(649, 2), shown(250)[2:], []impl.Tac{ret(2)})...), append(shown(250)[2:], ret(2))...)
	// With a label ahead of each, or a test behind each; with nothing else live, and with all others.
	for _, others := range [][]impl.Tac{nil, shown(250)[2:]} {
		end := append(slices.Clone(others), ret(2))
		var code, left []impl.Tac
		for n, x := range linked((900-len(end))/2, 2) {
			code, left = append(code, label(n), x), append(left, label(n))
		}
		dead.wantMade(t, unit(0, 250, append(code, end...)...), append(left, end...)...)
		code, left = []impl.Tac{label(900), number(0, 5)}, []impl.Tac{label(900)}
		for _, x := range linked((898-len(end))/2, 2) {
			code, left = append(code, x, unless(2, 900)), append(left, unless(2, 900))
		}
		dead.wantMade(t, unit(0, 250, append(code, end...)...), append(left, end...)...)
	}
	// One place, or one register, more is not right.
	dead.wantNotTurned(t, unit(0, 250, append(linked(900, 2), ret(2))...))
	dead.wantNotTurned(t, unit(0, 251, append(linked(899, 2), ret(2))...))
}

func TestForwardOfTheLargestUnits(t *testing.T) {
	// Each of 249 registers is a copy of the last one, and each place reads two of them.
	var code, want []impl.Tac
	for r := range 249 {
		code = append(code, same(r, 249))
	}
	want = slices.Clone(code)
	for i := range 650 {
		code, want = append(code, gives(i%249, (i*7+1)%250)), append(want, gives(249, 249))
	}
	forward.wantMade(t, unit(4, 250, append(code, ret(0))...), append(want, ret(249))...)
	// Each is a copy of another one, and what it is a copy of is set again, one after the other.
	code, want = nil, nil
	for r := range 125 {
		code, want = append(code, same(r, 125+r)), append(want, same(r, 125+r))
	}
	for r := range 125 {
		code, want = append(code, show(r), takes(125+r, r), show(r), show((r+1)%125), gives(r, (r+1)%125)), append(want, show(125+r), takes(125+r, 125+r), show(r))
		if r < 124 {
			want = append(want, show(126+r), gives(r, 126+r))
		} else {
			want = append(want, show(0), gives(r, 0))
		}
	}
	forward.wantMade(t, unit(0, 250, append(code, ret(124))...), append(want, ret(124))...)
	// A copy, and what it is a copy of set again, over and over.
	code, want = nil, nil
	for range 299 {
		code, want = append(code, same(249, 0), show(249), makes(0, 249)), append(want, same(249, 0), show(0), makes(0, 0))
	}
	forward.wantMade(t, unit(0, 250, append(code, ret(249))...), append(want, ret(249))...)
	// Selects of three cases.
	code, want = []impl.Tac{same(1, 249), same(2, 1)}, []impl.Tac{same(1, 249), same(2, 249)}
	for range 897 {
		code, want = append(code, choose(3, 4, 1, 2, 1, 2, 1, 2, 0, 2, 2, 1)), append(want, choose(3, 4, 1, 2, 249, 249, 1, 249, 0, 2, 249, 249))
	}
	forward.wantMade(t, unit(0, 250, append(code, ret(2))...), append(want, ret(249))...)
	// One place, or one register, more is not right.
	forward.wantNotTurned(t, unit(0, 250, append(slices.Repeat([]impl.Tac{same(1, 0), show(1)}, 450), ret(1))...))
	forward.wantNotTurned(t, unit(0, 251, same(1, 0), show(1), ret(1)))
}

func TestForwardAndDeadWithListsThatAreEmptyAndNil(t *testing.T) {
	ahead := append(copied()[:0:0], same(0, 1), same(2, 0), number(0, 5), same(4, 2), same(5, 2), same(6, 4))
	forward.wantEmptyLists(t, ahead)
	dead.wantEmptyLists(t, ahead)
}

func TestForwardAndDeadOfVeryLongUnits(t *testing.T) {
	t.Parallel()
	ahead := []impl.Tac{same(0, 1), same(2, 0), number(0, 5), same(4, 2), same(5, 2), same(6, 4)}
	forward.wantVeryLong(t, ahead)
	dead.wantVeryLong(t, ahead)
}

// copyDrawer draws units in which much is copied, and much is for nobody.
type copyDrawer struct{ *unitDrawer }

func newCopyDrawer(seed uint64) *copyDrawer { return &copyDrawer{newUnitDrawer(seed)} }

func (d *copyDrawer) unit() impl.Unit {
	d.regs, d.labels = 1+d.IntN(7), 1+d.IntN(5)
	u := impl.Unit{Name: d.name(), Params: d.IntN(min(d.regs, 4) + 1), Regs: d.regs}
	for range d.IntN(40) {
		var x impl.Tac
		switch d.IntN(12) {
		case 0, 1, 2, 3, 4:
			x = same(d.register(), d.register())
		case 5, 6:
			x = number(d.register(), []int{least, -1, 0, 1, 2, 3, greatest}[d.IntN(7)])
		case 7:
			x = place(impl.TcAdd+d.IntN(5), d.register(), d.register(), d.register())
		case 8:
			x = unless(d.register(), d.IntN(d.labels))
		default:
			x = d.place()
		}
		u.Code = append(u.Code, x)
	}
	u.Code = d.ended(u.Code)
	return u
}

// drawnUnits are drawers of units of each kind.
func drawnUnits(seed uint64) []func() impl.Unit {
	return []func() impl.Unit{newCopyDrawer(seed).unit, newKnownDrawer(seed + 1).unit, newFlowDrawer(seed + 2).unit, newUnitDrawer(seed + 3).unit}
}

// wantNothingDead is that of what is left there is nothing that may be left out, and of what was left out nothing that may not.
func wantNothingDead(t *testing.T, was, now impl.Unit) {
	t.Helper()
	live := impl.LiveOut(now)
	for i, x := range now.Code {
		if slices.Contains(setsAlone, x.Op) && !slices.Contains(live[i], x.D) {
			t.Errorf("%s is left in %s", tacText(x), codeText(now.Code))
		}
	}
	others := func(u impl.Unit) []impl.Tac {
		return slices.DeleteFunc(slices.Clone(u.Code), func(x impl.Tac) bool { return slices.Contains(setsAlone, x.Op) })
	}
	if !slices.EqualFunc(others(was), others(now), sameTac) {
		t.Errorf("of %s there is left %s", codeText(was.Code), codeText(now.Code))
	}
}

// wantOnlyReads is that two units differ in nothing but in the registers that are read.
func wantOnlyReads(t *testing.T, was, now impl.Unit) {
	t.Helper()
	zero := func(u impl.Unit) impl.Unit {
		u = cloneUnit(u)
		for i, x := range u.Code {
			u.Code[i] = withReads(x, func(int) int { return 0 })
		}
		return u
	}
	if !sameUnit(zero(was), zero(now)) {
		t.Errorf("%s differs from %s in more than in what is read", codeText(now.Code), codeText(was.Code))
	}
}

func TestDrawnUnitsForwardAndDead(t *testing.T) {
	t.Parallel()
	replaced, out, left, rounds := 0, map[int]int{}, map[int]int{}, 0
	count := func(u impl.Unit, met map[int]int, by int) {
		for _, x := range u.Code {
			met[x.Op] += by
		}
	}
	for i, unit := range drawnUnits(181) {
		for range []int{4000, 1000, 2000, 500}[i] {
			u := unit()
			for _, u := range []impl.Unit{u, impl.Fold(u), impl.Dead(u), impl.Forward(u)} {
				f, d := forward.check(t, u), dead.check(t, u)
				wantOnlyReads(t, u, f)
				wantNothingDead(t, u, d)
				replaced += flag(!sameUnit(u, f))
				count(u, out, 1)
				count(d, out, -1)
				count(d, left, 1)
				rounds += flag(len(u.Code)-len(d.Code) > 3)
			}
		}
	}
	for _, op := range setsAlone {
		if out[op] < 500 || left[op] < 500 {
			t.Errorf("%s is left out %d times, left %d times", tacWords[op-1], out[op], left[op])
		}
	}
	if replaced < 5000 || rounds < 2000 {
		t.Errorf("%d are others by Forward, of %d many places are left out", replaced, rounds)
	}
}

func TestDrawnUnitsThatAreTurnedForwardAndDead(t *testing.T) {
	forward.wantTurnedUnits(t, newCopyDrawer(185))
	dead.wantTurnedUnits(t, newCopyDrawer(186))
}

func TestUnitsOfDrawnProgramsForwardAndDead(t *testing.T) {
	for _, low := range []bool{false, true} {
		d := &rightDrawer{drawer: newDrawer(187), low: low}
		for range 150 {
			units := impl.Lower(d.program(), low)
			var done []impl.Unit
			for _, u := range units {
				done = append(done, dead.check(t, forward.check(t, impl.Fold(u))))
			}
			if impl.UnitsOk(units) != impl.UnitsOk(done) {
				t.Errorf("%s is right: %v, and then: %v", clip(units), impl.UnitsOk(units), impl.UnitsOk(done))
			}
		}
	}
}

// passRows are all passes, each alone as the first of a row, and one behind the other.
func passRows() [][]pass {
	return [][]pass{slices.Repeat([]pass{fold, forward, dead, clean}, 3), {clean, forward, dead, forward, fold}, {forward, clean, fold, clean}, {dead, forward, dead}, {fold, dead}, {better, better}}
}

// eachOf is a pass of each of a list.
func (p pass) eachOf(units []impl.Unit) []impl.Unit {
	var out []impl.Unit
	for _, u := range units {
		out = append(out, p.do(u))
	}
	return out
}

// wantSameDeeds is of a unit that is right: behind the pass it does the same from the same words on, with the same words in all that is read later, and over no more places.
func (p pass) wantSameDeeds(t *testing.T, was impl.Unit, regs []int) (now impl.Unit, count int, whole bool) {
	t.Helper()
	const most = 200
	now = p.do(was)
	deeds, ended := deedsOf(was, regs, most)
	deedsNow, endedNow := deedsOf(now, regs, most)
	if len(deedsNow) < len(deeds) || ended && (!endedNow || len(deedsNow) > len(deeds)) {
		t.Fatalf("%s, from %v on, does %d, and behind %s, %s, %d", codeText(was.Code), regs, len(deeds), p.name, codeText(now.Code), len(deedsNow))
	}
	live := impl.LiveOut(now)
	for i, x := range deeds {
		same := x.told == deedsNow[i].told
		for _, r := range readFrom(now, live, deedsNow[i].at) {
			same = same && (p.several || x.words[r] == deedsNow[i].words[r])
		}
		if !same {
			t.Fatalf("%s, from %v on, does %+v, and behind %s, %s, %+v", codeText(was.Code), regs, x, p.name, codeText(now.Code), deedsNow[i])
		}
	}
	return now, len(deeds), ended
}

// wantSameDeedsBehindAll is so of all passes of a row, one behind the other.
func wantSameDeedsBehindAll(t *testing.T, u impl.Unit, row []pass, regs []int) (count int, whole bool) {
	t.Helper()
	for _, p := range row {
		u, count, whole = p.wantSameDeeds(t, u, regs)
	}
	return count, whole
}

// Promise 18 at drawn units by themselves.
func TestDrawnUnitsDoTheSameBehindPasses(t *testing.T) {
	t.Parallel()
	deeds, ended := 0, 0
	d := newDrawer(188)
	for i, unit := range drawnUnits(189) {
		for range []int{1200, 500, 500, 150}[i] {
			u := unit()
			for _, row := range passRows() {
				for range 3 {
					regs := make([]int, u.Regs)
					for r := range regs {
						regs[r] = []int{0, 0, 1, -1, 5, least, greatest}[d.IntN(7)]
					}
					count, whole := wantSameDeedsBehindAll(t, u, row, regs)
					deeds += count
					ended += flag(whole)
				}
			}
		}
	}
	if deeds < 200000 || ended < 10000 {
		t.Errorf("%d deeds, %d come to an end", deeds, ended)
	}
}

func TestUnitsOfDrawnProgramsDoTheSameBehindPasses(t *testing.T) {
	deeds := 0
	for _, low := range []bool{false, true} {
		d := &rightDrawer{drawer: newDrawer(193), low: low}
		for range 100 {
			for _, u := range impl.Lower(d.program(), low) {
				for _, row := range passRows() {
					regs := make([]int, u.Regs)
					for r := range regs {
						regs[r] = d.IntN(5) - 1
					}
					count, _ := wantSameDeedsBehindAll(t, u, row, regs)
					deeds += count
				}
			}
		}
	}
	if deeds < 5000 {
		t.Errorf("%d deeds", deeds)
	}
}

// wantSameLater is of two worlds by the same steps, the second one of units behind the pass: they are the same but for the places where frames are, and for registers that are not read later; of several passes, for all of them.
func (p pass) wantSameLater(t *testing.T, was, now impl.World) {
	t.Helper()
	now, was = cloneWorld(now), cloneWorld(was)
	units := now.Units
	now.Units = was.Units
	for id := range min(len(was.Bodies), len(now.Bodies)) {
		b, before := now.Bodies[id], was.Bodies[id]
		for i := range min(len(b.Frames), len(before.Frames)) {
			f := &b.Frames[i]
			later := wordsReadLater(units[f.Unit], b, i)
			if now.Over || b.Ended || p.several {
				later = nil
			}
			for r := range min(len(f.Regs), len(before.Frames[i].Regs)) {
				if !slices.Contains(later, r) {
					f.Regs[r] = before.Frames[i].Regs[r]
				}
			}
			f.Pc = before.Frames[i].Pc
		}
	}
	if !sameWorld(was, now) {
		t.Errorf("behind %s it is another:\n%s", p.name, unlikeWorlds(now, was))
	}
}

// wordsReadLater are the registers of a frame that are read later, as they are now: what the frame above gives back, and what is waited for, is set ahead of that.
func wordsReadLater(u impl.Unit, b impl.Body, frame int) []int {
	f := b.Frames[frame]
	var set []int
	if frame+1 < len(b.Frames) {
		set = append(set, b.Frames[frame+1].Dst)
	} else if b.Waits {
		set = append(set, b.Dst, b.Two)
	}
	return slices.DeleteFunc(readFrom(u, impl.LiveOut(u), f.Pc), func(r int) bool { return slices.Contains(set, r) })
}

// wantSameSteps is of units behind all passes of a row, one behind the other: by the same orders of bodies, each drawn of the world as it is by then, they do and print the same. It tells the world in the end, and how often each kind was done.
func wantSameSteps(t *testing.T, units []impl.Unit, row []pass, rounds int, order func(w impl.World) []int) (impl.World, map[int]int) {
	t.Helper()
	w, ok := impl.WorldNew(units)
	worlds, met := []impl.World{w}, map[int]int{}
	for _, p := range row {
		units = p.eachOf(units)
		w, okNow := impl.WorldNew(units)
		worlds, ok = append(worlds, w), ok && okNow
	}
	if !ok {
		t.Fatalf("there is no world of %s", unitsText(worlds[0].Units))
	}
	for range rounds {
		by := order(worlds[0])
		var kinds []int
		worlds[0], kinds = impl.Steps(worlds[0], by)
		for _, kind := range kinds {
			met[kind]++
		}
		for i, p := range row {
			now, kindsNow := impl.Steps(worlds[i+1], by)
			if !slices.Equal(kinds, kindsNow) {
				t.Errorf("by %v there is done %v, and behind %s %v", by, kinds, p.name, kindsNow)
			}
			p.wantSameLater(t, worlds[i], now)
			worlds[i+1] = now
			if t.Failed() {
				t.Fatalf("%s, and behind %s\n%s", unitsText(worlds[i].Units), p.name, unitsText(now.Units))
			}
		}
	}
	return worlds[0], met
}

// Promise 18 where bodies of programs run.
func TestProgramsDoTheSameBehindPasses(t *testing.T) {
	t.Parallel()
	d := newTalkDrawer(194)
	printed, over := 0, 0
	for range 150 {
		units := impl.Lower(parsed(t, d.program()), false)
		for _, row := range passRows() {
			w, _ := wantSameSteps(t, units, row, 6, func(impl.World) []int { return d.order(20) })
			printed += len(w.Out)
			over += flag(w.Over)
		}
	}
	if printed < 1500 || over < 100 {
		t.Errorf("%d words are printed, %d are over", printed, over)
	}
}

// units draws four that call each other, begin each other and talk, with a main that has made some channels.
func (d *copyDrawer) units() []impl.Unit {
	var list []impl.Unit
	for _, name := range []string{"f", "g", "h", "main"} {
		d.regs, d.labels = 4+d.IntN(5), 1+d.IntN(3)
		u := impl.Unit{Name: name, Params: d.IntN(4), Regs: d.regs}
		for range 5 + d.IntN(30) {
			u.Code = append(u.Code, d.talk())
		}
		u.Code = d.ended(u.Code)
		if last := &u.Code[len(u.Code)-1]; last.Op == impl.TcHalt {
			last.Op = impl.TcRet
		}
		if name == "main" {
			u.Params = 0
			var made []impl.Tac
			for range 3 {
				made = append(made, number(d.register(), d.IntN(3)), makes(d.register(), d.register()))
			}
			u.Code = append(made, u.Code...)
		}
		list = append(list, u)
	}
	for _, u := range list {
		d.regs = u.Regs
		for k, x := range u.Code {
			if x.Op == impl.TcCall || x.Op == impl.TcGo {
				at := slices.IndexFunc(list, func(u impl.Unit) bool { return u.Name == x.S })
				for range list[at].Params {
					u.Code[k].Args = append(u.Code[k].Args, d.register())
				}
			}
		}
	}
	return list
}

// talk draws a place of a unit that bodies run; words are mostly such as are channels, too.
func (d *copyDrawer) talk() impl.Tac {
	a, b := d.register(), d.register()
	switch d.IntN(24) {
	case 0, 1, 2, 3, 4, 5, 6:
		return same(a, b)
	case 7, 8, 9:
		return number(a, []int{1, 2, 3, 1, 2, 3, 0, 9, greatest}[d.IntN(9)])
	case 10:
		return place(impl.TcAdd+d.IntN(5), a, b, d.register())
	case 11:
		return unless(a, d.IntN(d.labels))
	case 12:
		return into(a, call(d.pick("f", "g", "h")))
	case 13:
		return begin(d.pick("f", "g", "h"))
	case 14:
		return makes(a, b)
	case 15, 16, 17:
		return show(a)
	case 18, 19:
		return gives(a, b)
	case 20, 21:
		return takes(a, b)
	case 22:
		if d.IntN(4) == 0 {
			return shuts(a)
		}
	}
	return choose(a, b, d.IntN(2), d.argsOf(impl.TcSelect)...)
}

// readsBehindADefault is whether a unit reads what a select took where its default was told: chapter 15 says nothing of that register then, and by chapter 10 it is set.
func readsBehindADefault(u impl.Unit) bool {
	live := impl.LiveOut(u)
	for i, x := range u.Code {
		if x.Op == impl.TcSelect && x.N == 1 && x.B != x.D && slices.Contains(live[i], x.B) {
			return true
		}
	}
	return false
}

// Promise 18 where bodies of drawn units run.
func TestBodiesOfDrawnUnitsDoTheSameBehindPasses(t *testing.T) {
	t.Parallel()
	d := newCopyDrawer(195)
	someOpen := func(w impl.World) []int {
		open := append(impl.Open(w), d.IntN(mostBodies))
		return slices.Repeat([]int{open[d.IntN(len(open))]}, 1+d.IntN(4))
	}
	met, codes := map[int]int{}, map[int]int{}
	for range 400 {
		units := d.units()
		wantUnits(t, true, "", units...)
		for slices.ContainsFunc(units, readsBehindADefault) {
			units = d.units()
		}
		for _, row := range passRows() {
			w, kinds := wantSameSteps(t, units, row, 15, someOpen)
			for kind, count := range kinds {
				met[kind] += count
			}
			if w.Over {
				codes[w.Code]++
			}
		}
	}
	for kind := range 10 {
		if met[kind] < 10 {
			t.Errorf("kind %d is done %d times", kind, met[kind])
		}
	}
	if codes[0] < 20 || codes[7] < 500 || len(codes) < 4 {
		t.Errorf("they are over by %v", codes)
	}
}

// What is lowered and goes through passes reckons what the trees do.
func TestWhatGoesThroughPassesReckonsTheSame(t *testing.T) {
	d := &runDrawer{drawer: newDrawer(197)}
	done, printed := 0, 0
	for range 300 {
		list := d.program()
		units := impl.Lower(list, false)
		if len(units) == 0 {
			continue
		}
		for _, row := range passRows() {
			passed := units
			for _, p := range row {
				passed = p.eachOf(passed)
			}
			some, prints := d.wantUnitsReckonTheSame(t, list, passed)
			done, printed = done+some, printed+prints
		}
	}
	if done < 2000 || printed < 1000 {
		t.Errorf("%d are done, %d print", done, printed)
	}
}

// unitsToPass are some that are right, and some of which something is amiss.
func unitsToPass() []impl.Unit {
	d := newCopyDrawer(198)
	out := unitsToFold()
	for range 150 {
		u := d.unit()
		out = append(out, u, d.turnUnit(u))
	}
	for _, f := range tacForms {
		if f.op != impl.TcLabel {
			out = append(out, unit(2, 2*aroundRegs, slices.Concat(copied(), []impl.Tac{ordinaryTac(f), label(aroundLabel), ret(0)})...))
		}
	}
	return append(out, unit(1, 4, number(1, 5), number(1, 6), same(2, 1), into(3, call("f", 0, 1)), begin("f", 3, 2), ret(0)))
}

func TestForwardAndDeadWriteIntoNothing(t *testing.T) {
	forward.wantNothingWrittenInto(t, unitsToPass())
	dead.wantNothingWrittenInto(t, unitsToPass())
}

func TestEachUnitOfForwardAndDeadIsItsOwn(t *testing.T) {
	forward.wantOwn(t, unitsToPass())
	dead.wantOwn(t, unitsToPass())
}

func TestForwardAndDeadAnswerTheSameAgain(t *testing.T) {
	forward.wantSameAgain(t, unitsToPass())
	dead.wantSameAgain(t, unitsToPass())
}

func TestForwardAndDeadSideBySide(t *testing.T) {
	forward.wantSideBySide(t, unitsToPass())
	dead.wantSideBySide(t, unitsToPass())
}
