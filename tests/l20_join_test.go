package tests

import (
	"math"
	"slices"
	"strings"
	"sync"
	"testing"

	"loop.example/g00286/impl"
)

var join = pass{name: "Join", do: impl.Join, want: wantJoin}

// wantJoined is of a unit that is right: how many registers it has more then, and its places.
func wantJoined(t *testing.T, u impl.Unit, more int, code string) {
	t.Helper()
	if !impl.UnitOk(u) {
		t.Fatalf("%s is not right: %v", clip(u), unitFaults(u))
	}
	got := join.check(t, u)
	if text := codeText(got.Code); text != code {
		t.Errorf("%s is joined to\n%q, not\n%q", clip(codeText(u.Code)), clip(text), clip(code))
	}
	if got.Regs != u.Regs+more || got.Name != u.Name || got.Params != u.Params {
		t.Errorf("%s is joined to %s %d %d", clip(unitText(u)), clip(got.Name), got.Params, got.Regs)
	}
}

// wantInStead is of one place among two that stay, in a unit of 12 registers.
func wantInStead(t *testing.T, x impl.Tac, more int, code string) {
	t.Helper()
	wantJoined(t, unit(2, aroundRegs, number(3, 5), x, ret(3)), more, "num 3 5; "+code+"; ret 3")
}

func digits(list ...int) string {
	var out []string
	for _, n := range list {
		out = append(out, impl.Digits(n))
	}
	return strings.Join(out, " ")
}

func TestProgramsThatAreJoined(t *testing.T) {
	for _, c := range []struct{ src, code string }{
		{"func main() { let c = make(2); send c, 7; let x = 0; recv x, c; print x; close c; }",
			"num 0 0; num 1 0; num 2 2; call 3 rtmake 2; copy 0 3; num 4 7; call 8 rtsend 0 4; num 5 0; copy 1 5; call 6 rtrecv 0; copy 1 6; call 9 rtprint 1; call 10 rtclose 0; num 7 0; ret 7"},
		{"func f(a, b) { print a + b; return a; } func main() { go f(3, 4); print f(1, 2); }",
			"add 2 0 1; call 4 rtprint 2; ret 0; num 3 0; ret 3 & " +
				"num 0 3; num 1 4; call 6 rtself; num 7 7; add 8 6 7; poke 8 0; num 9 8; add 10 6 9; poke 10 1; addr 11 f; num 12 2; call 13 rtgo 11 12; num 2 1; num 3 2; call 4 f 2 3; call 14 rtprint 4; num 5 0; ret 5"},
		{"func main() { let c = make(0); let x = 5; select { case recv x, c { } case send c, x { print 1; } default { } } }",
			"num 0 0; num 1 0; num 2 0; call 3 rtmake 2; copy 0 3; num 4 5; copy 1 4; " +
				"call 15 rtself; num 16 1; num 17 7; add 18 15 17; poke 18 16; num 19 8; add 20 15 19; poke 20 0; num 21 0; num 22 9; add 23 15 22; poke 23 21; " +
				"num 24 2; num 25 10; add 26 15 25; poke 26 24; num 27 11; add 28 15 27; poke 28 0; num 29 12; add 30 15 29; poke 30 1; " +
				"num 31 2; num 32 1; call 5 rtselect 31 32; num 33 3; add 34 15 33; peek 6 34; " +
				"num 7 0; same 8 5 7; zero 8 1; copy 1 6; jump 0; label 1; num 9 1; same 10 5 9; zero 10 2; num 11 1; call 35 rtprint 11; jump 0; label 2; num 12 2; same 13 5 12; zero 13 3; jump 0; label 3; label 0; num 14 0; ret 14"},
		{"func main() { let a = 2; while a { a = a - 1; print a; } return a; }",
			"num 0 0; num 1 2; copy 0 1; label 0; zero 0 1; num 2 1; sub 3 0 2; copy 0 3; call 5 rtprint 0; jump 0; label 1; ret 0; num 4 0; ret 4"},
	} {
		var got []string
		for _, u := range impl.Lower(parsed(t, c.src), false) {
			got = append(got, codeText(join.check(t, u).Code))
		}
		if text := strings.Join(got, " & "); text != c.code {
			t.Errorf("%q is joined to\n%q, not\n%q", c.src, text, c.code)
		}
	}
}

func TestJoinOfUnitsThatAreNotRight(t *testing.T) {
	// Such as need no new registers, so that there may be as many of them as there are places.
	join.wantWrongNotTurned(t, makes(0, 0), takes(0, 0))
	join.wantWrongNotTurned(t, takes(0, 0))
	// One that is amiss itself, and would become a call.
	for _, f := range tacForms {
		if seenByOthers(ordinaryTac(f)) {
			for _, put := range registerFields(f) {
				for _, n := range []int{-1, aroundRegs, 250, least, greatest, math.MinInt, math.MaxInt} {
					x := ordinaryTac(f)
					put(&x, n)
					join.wantNotTurned(t, around(x))
					join.check(t, around(x))
				}
			}
		}
	}
	for _, x := range []impl.Tac{begin("f", 1, 2, 3, 4, 5), choose(1, 2, 0), choose(1, 2, 0, 1, 3), choose(1, 2, 2, 1, 3, 0), choose(1, 2, 0, 3, 3, 3), choose(1, 2, 0, 0, 3, 0), choose(1, 2, 0, 1, 3, 1), choose(1, 2, 0, 1, 3, 0, 1, 3, 0, 1, 3, 0, 1, 3, 0), {Op: impl.TcPrint, A: 1, S: "f"}, {Op: impl.TcPrint, A: 1, D: 1}, {Op: impl.TcSend, A: 1, Args: []int{2}}, {Op: impl.TcClose, A: 1, N: 1}, {Op: impl.TcMake, A: 1, B: 2}} {
		join.wantNotTurned(t, around(x))
	}
}

func TestPlacesThatBecomeOneCall(t *testing.T) {
	some := []int{0, 1, 2, 5, aroundRegs - 1}
	for _, a := range some {
		wantInStead(t, show(a), 1, "call 12 rtprint "+digits(a))
		wantInStead(t, shuts(a), 1, "call 12 rtclose "+digits(a))
		for _, b := range some {
			wantInStead(t, gives(a, b), 1, "call 12 rtsend "+digits(a, b))
			wantInStead(t, makes(b, a), 0, "call "+digits(b)+" rtmake "+digits(a))
			wantInStead(t, takes(b, a), 0, "call "+digits(b)+" rtrecv "+digits(a))
		}
	}
	// With no other registers, and with the most.
	wantJoined(t, unit(0, 1, show(0), gives(0, 0), makes(0, 0), takes(0, 0), shuts(0), ret(0)), 3, "call 1 rtprint 0; call 2 rtsend 0 0; call 0 rtmake 0; call 0 rtrecv 0; call 3 rtclose 0; ret 0")
	wantJoined(t, unit(4, 247, show(246), gives(245, 246), makes(246, 244), takes(243, 246), shuts(0), ret(0)), 3, "call 247 rtprint 246; call 248 rtsend 245 246; call 246 rtmake 244; call 243 rtrecv 246; call 249 rtclose 0; ret 0")
}

func TestWhereOneBegins(t *testing.T) {
	wantInStead(t, begin("f"), 4, "call 12 rtself; addr 13 f; num 14 0; call 15 rtgo 13 14")
	wantInStead(t, begin("g", 5), 6, "call 12 rtself; num 13 7; add 14 12 13; poke 14 5; addr 15 g; num 16 1; call 17 rtgo 15 16")
	wantInStead(t, begin("g", 5, 2), 8, "call 12 rtself; num 13 7; add 14 12 13; poke 14 5; num 15 8; add 16 12 15; poke 16 2; addr 17 g; num 18 2; call 19 rtgo 17 18")
	wantInStead(t, begin("h", 0, 11, 0), 10, "call 12 rtself; num 13 7; add 14 12 13; poke 14 0; num 15 8; add 16 12 15; poke 16 11; num 17 9; add 18 12 17; poke 18 0; addr 19 h; num 20 3; call 21 rtgo 19 20")
	wantInStead(t, begin("main", 4, 3, 2, 1), 12, "call 12 rtself; num 13 7; add 14 12 13; poke 14 4; num 15 8; add 16 12 15; poke 16 3; num 17 9; add 18 12 17; poke 18 2; num 19 10; add 20 12 19; poke 20 1; addr 21 main; num 22 4; call 23 rtgo 21 22")
	wantInStead(t, begin("f", 7, 7, 7, 7), 12, "call 12 rtself; num 13 7; add 14 12 13; poke 14 7; num 15 8; add 16 12 15; poke 16 7; num 17 9; add 18 12 17; poke 18 7; num 19 10; add 20 12 19; poke 20 7; addr 21 f; num 22 4; call 23 rtgo 21 22")
	// Whatever it is called.
	for _, name := range []string{"", "u", "rtself", "rtgo", "rtend", " ", "addr 3", "\x00", strings.Repeat("f", 3000)} {
		wantInStead(t, begin(name), 4, "call 12 rtself; addr 13 "+name+"; num 14 0; call 15 rtgo 13 14")
	}
	// Without a register, and with the most.
	wantJoined(t, impl.Unit{Code: []impl.Tac{label(0), begin("f"), jump(0)}}, 4, "label 0; call 0 rtself; addr 1 f; num 2 0; call 3 rtgo 1 2; jump 0")
	wantJoined(t, unit(0, 238, begin("f", 237, 0, 236, 100), ret(0)), 12, "call 238 rtself; num 239 7; add 240 238 239; poke 240 237; num 241 8; add 242 238 241; poke 242 0; num 243 9; add 244 238 243; poke 244 236; num 245 10; add 246 238 245; poke 246 100; addr 247 f; num 248 4; call 249 rtgo 247 248; ret 0")
}

func TestWhereOneSelects(t *testing.T) {
	wantInStead(t, choose(1, 2, 0, 1, 5, 0), 13, "call 12 rtself; num 13 1; num 14 7; add 15 12 14; poke 15 13; num 16 8; add 17 12 16; poke 17 5; num 18 0; num 19 9; add 20 12 19; poke 20 18; "+
		"num 21 1; num 22 0; call 1 rtselect 21 22; num 23 3; add 24 12 23; peek 2 24")
	wantInStead(t, choose(1, 2, 1, 2, 5, 6), 12, "call 12 rtself; num 13 2; num 14 7; add 15 12 14; poke 15 13; num 16 8; add 17 12 16; poke 17 5; num 18 9; add 19 12 18; poke 19 6; "+
		"num 20 1; num 21 1; call 1 rtselect 20 21; num 22 3; add 23 12 22; peek 2 23")
	takes := "call 12 rtself; num 13 1; num 14 7; add 15 12 14; poke 15 13; num 16 8; add 17 12 16; poke 17 5; num 18 0; num 19 9; add 20 12 19; poke 20 18; "
	gives := "call 12 rtself; num 13 2; num 14 7; add 15 12 14; poke 15 13; num 16 8; add 17 12 16; poke 17 5; num 18 9; add 19 12 18; poke 19 6; "
	// A take or a give behind a take, and behind a give.
	wantInStead(t, choose(3, 4, 0, 1, 5, 0, 1, 7, 0), 21, takes+"num 21 1; num 22 10; add 23 12 22; poke 23 21; num 24 11; add 25 12 24; poke 25 7; num 26 0; num 27 12; add 28 12 27; poke 28 26; "+
		"num 29 2; num 30 0; call 3 rtselect 29 30; num 31 3; add 32 12 31; peek 4 32")
	wantInStead(t, choose(3, 4, 1, 1, 5, 0, 2, 7, 8), 20, takes+"num 21 2; num 22 10; add 23 12 22; poke 23 21; num 24 11; add 25 12 24; poke 25 7; num 26 12; add 27 12 26; poke 27 8; "+
		"num 28 2; num 29 1; call 3 rtselect 28 29; num 30 3; add 31 12 30; peek 4 31")
	wantInStead(t, choose(3, 4, 1, 2, 5, 6, 1, 7, 0), 20, gives+"num 20 1; num 21 10; add 22 12 21; poke 22 20; num 23 11; add 24 12 23; poke 24 7; num 25 0; num 26 12; add 27 12 26; poke 27 25; "+
		"num 28 2; num 29 1; call 3 rtselect 28 29; num 30 3; add 31 12 30; peek 4 31")
	wantInStead(t, choose(3, 4, 0, 2, 5, 6, 2, 7, 8), 19, gives+"num 20 2; num 21 10; add 22 12 21; poke 22 20; num 23 11; add 24 12 23; poke 24 7; num 25 12; add 26 12 25; poke 26 8; "+
		"num 27 2; num 28 0; call 3 rtselect 27 28; num 29 3; add 30 12 29; peek 4 30")
	// Three, with registers whose numbers are those of a kind and of none.
	wantInStead(t, choose(0, 11, 1, 2, 1, 2, 1, 0, 0, 2, 2, 0), 27, "call 12 rtself; num 13 2; num 14 7; add 15 12 14; poke 15 13; num 16 8; add 17 12 16; poke 17 1; num 18 9; add 19 12 18; poke 19 2; "+
		"num 20 1; num 21 10; add 22 12 21; poke 22 20; num 23 11; add 24 12 23; poke 24 0; num 25 0; num 26 12; add 27 12 26; poke 27 25; "+
		"num 28 2; num 29 13; add 30 12 29; poke 30 28; num 31 14; add 32 12 31; poke 32 2; num 33 15; add 34 12 33; poke 34 0; "+
		"num 35 3; num 36 1; call 0 rtselect 35 36; num 37 3; add 38 12 37; peek 11 38")
	// Without room to spare.
	wantJoined(t, unit(0, 237, choose(236, 235, 0, 1, 234, 0), ret(0)), 13, "call 237 rtself; num 238 1; num 239 7; add 240 237 239; poke 240 238; num 241 8; add 242 237 241; poke 242 234; num 243 0; num 244 9; add 245 237 244; poke 245 243; num 246 1; num 247 0; call 236 rtselect 246 247; num 248 3; add 249 237 248; peek 235 249; ret 0")
}

// eachSelect is each row of kinds, with and without a default.
func eachSelect(do func(kinds []int, other int)) {
	rows := [][]int{{}}
	for range 3 {
		var longer [][]int
		for _, row := range rows {
			for kind := 1; kind <= 2; kind++ {
				longer = append(longer, append(slices.Clone(row), kind))
			}
		}
		rows = longer
		for _, row := range rows {
			do(row, 0)
			do(row, 1)
		}
	}
}

// selectOf is a select of these kinds, with registers that are told one behind the other.
func selectOf(kinds []int, d, b, other int, register func() int) impl.Tac {
	var args []int
	for _, kind := range kinds {
		c, value := register(), register()
		if kind == 1 {
			value = 0
		}
		args = append(args, kind, c, value)
	}
	return choose(d, b, other, args...)
}

func TestEachSelectIsJoined(t *testing.T) {
	met := 0
	eachSelect(func(kinds []int, other int) {
		met++
		for d := range 4 {
			for b := range 4 {
				for from := range 4 {
					for step := range 3 {
						r := from
						x := selectOf(kinds, d, b, other, func() int {
							r += step
							return r % 4
						})
						got := join.check(t, unit(1, 4, show(3), x, show(2), ret(1)))
						takes := strings.Count(digits(kinds...), "1")
						if want := 4 + 7 + 7*len(kinds) + takes; got.Regs != want {
							t.Errorf("%s is joined to %d registers, not %d", tacText(x), got.Regs, want)
						}
					}
				}
			}
		}
	})
	if met != 28 {
		t.Errorf("%d rows are met", met)
	}
}

// Each new value has a register of its own, whatever stands between, and however often the same place comes.
func TestNewRegistersAreNumberedOn(t *testing.T) {
	wantJoined(t, unit(1, 3, show(0), show(0), show(0), gives(1, 2), show(2), ret(0)), 5, "call 3 rtprint 0; call 4 rtprint 0; call 5 rtprint 0; call 6 rtsend 1 2; call 7 rtprint 2; ret 0")
	wantJoined(t, unit(1, 3, shuts(1), takes(2, 1), shuts(1), makes(0, 2), shuts(1), ret(0)), 3, "call 3 rtclose 1; call 2 rtrecv 1; call 4 rtclose 1; call 0 rtmake 2; call 5 rtclose 1; ret 0")
	wantJoined(t, unit(1, 3, begin("f", 1), begin("f"), show(2), begin("f", 1), ret(0)), 17, "call 3 rtself; num 4 7; add 5 3 4; poke 5 1; addr 6 f; num 7 1; call 8 rtgo 6 7; "+
		"call 9 rtself; addr 10 f; num 11 0; call 12 rtgo 10 11; call 13 rtprint 2; call 14 rtself; num 15 7; add 16 14 15; poke 16 1; addr 17 f; num 18 1; call 19 rtgo 17 18; ret 0")
	wantJoined(t, unit(1, 3, show(1), choose(1, 1, 0, 2, 1, 1), show(1), ret(1)), 14, "call 3 rtprint 1; call 4 rtself; num 5 2; num 6 7; add 7 4 6; poke 7 5; num 8 8; add 9 4 8; poke 9 1; num 10 9; add 11 4 10; poke 11 1; num 12 1; num 13 0; call 1 rtselect 12 13; num 14 3; add 15 4 14; peek 1 15; call 16 rtprint 1; ret 1")
	// From Regs on, also where registers below are not used.
	for regs := 1; regs < 250; regs++ {
		wantJoined(t, unit(0, regs, show(0), ret(0)), 1, "call "+digits(regs)+" rtprint 0; ret 0")
	}
	// No two places set the same new one, and none reads one ahead of its being set.
	d := newUnitDrawer(220)
	fresh := 0
	for range 1500 {
		u := d.unit()
		v := join.check(t, u)
		next := u.Regs
		for _, x := range v.Code {
			for _, r := range wantUses(x) {
				if r >= next {
					t.Errorf("%s reads %d ahead of its being set, in %s", tacText(x), r, unitText(v))
				}
			}
			for _, r := range wantSets(x) {
				if r > next {
					t.Errorf("%s sets %d, and %d is new, in %s", tacText(x), r, next, unitText(v))
				}
				next += flag(r == next)
			}
		}
		if next != v.Regs {
			t.Errorf("%d registers are set, of %s", next, unitText(v))
		}
		fresh += v.Regs - u.Regs
	}
	if fresh < 3000 {
		t.Errorf("%d new registers are met", fresh)
	}
}

// All that others do not see stays as it was, wherever it stands.
func TestOtherPlacesStayAsTheyWere(t *testing.T) {
	for _, f := range tacForms {
		x := ordinaryTac(f)
		if seenByOthers(x) {
			continue
		}
		for _, there := range []impl.Tac{x, withReads(x, func(r int) int { return aroundRegs - 1 - r })} {
			text := tacText(there)
			rest := []impl.Tac{label(aroundLabel), ret(0)}
			if f.op == impl.TcLabel {
				there.N, text = aroundLabel+1, "label "+digits(aroundLabel+1)
				wantJoined(t, unit(2, aroundRegs, slices.Concat([]impl.Tac{show(1), there, show(2)}, rest)...), 2, "call 12 rtprint 1; "+text+"; call 13 rtprint 2; label 7; ret 0")
				continue
			}
			wantJoined(t, unit(2, aroundRegs, slices.Concat([]impl.Tac{there, there}, rest)...), 0, text+"; "+text+"; label 7; ret 0")
			wantJoined(t, unit(3, aroundRegs, slices.Concat([]impl.Tac{there, show(1), there, begin("f"), there}, rest)...), 5, text+"; call 12 rtprint 1; "+text+"; call 13 rtself; addr 14 f; num 15 0; call 16 rtgo 14 15; "+text+"; label 7; ret 0")
			wantJoined(t, unit(4, aroundRegs, slices.Concat([]impl.Tac{takes(2, 1), there, makes(2, 1), there}, rest)...), 0, "call 2 rtrecv 1; "+text+"; call 2 rtmake 1; "+text+"; label 7; ret 0")
		}
		join.wantLeft(t, around(x))
	}
	// Calls of the scheduler's units, too.
	for _, name := range []string{"rtprint", "rtself", "rtgo", "rtselect", "rtend", "rt"} {
		join.wantLeft(t, unit(0, 3, into(1, call(name)), into(2, call(name, 1)), into(0, addr(name)), ret(0)))
	}
	// Words at the edges.
	for _, n := range []int{least, -1, 0, 7, greatest} {
		wantJoined(t, unit(0, 3, number(1, n), show(1), number(1, n), ret(0)), 1, "num 1 "+digits(n)+"; call 3 rtprint 1; num 1 "+digits(n)+"; ret 0")
	}
	// Each end.
	for _, end := range []impl.Tac{ret(1), halts(1), jump(3)} {
		wantJoined(t, unit(1, 2, label(3), show(0), end), 1, "label 3; call 2 rtprint 0; "+tacText(end))
	}
}

// One goes to the same labels, over more places.
func TestLabelsStayWhereTheyStand(t *testing.T) {
	wantJoined(t, unit(1, 2, label(0), show(0), unless(0, 900), begin("f"), label(3), unless(1, 0), shuts(1), jump(3), label(900), gives(0, 1), unless(1, 3), ret(0)), 7,
		"label 0; call 2 rtprint 0; zero 0 900; call 3 rtself; addr 4 f; num 5 0; call 6 rtgo 4 5; label 3; zero 1 0; call 7 rtclose 1; jump 3; label 900; call 8 rtsend 0 1; zero 1 3; ret 0")
	for _, n := range []int{0, 1, 7, 450, 899, 900} {
		wantJoined(t, unit(1, 2, jump(n), begin("f"), label(n), begin("g"), unless(1, n), ret(0)), 8,
			"jump "+digits(n)+"; call 2 rtself; addr 3 f; num 4 0; call 5 rtgo 3 4; label "+digits(n)+"; call 6 rtself; addr 7 g; num 8 0; call 9 rtgo 7 8; zero 1 "+digits(n)+"; ret 0")
	}
}

func TestNameAndParamsStay(t *testing.T) {
	for _, name := range []string{"", "f", "main", "rt", "rtmain", "rtself", strings.Repeat("name", 2000)} {
		for params := range 5 {
			u := impl.Unit{Name: name, Params: params, Regs: 4, Code: []impl.Tac{show(1), takes(1, 2), ret(1)}}
			wantJoined(t, u, 1, "call 4 rtprint 1; call 1 rtrecv 2; ret 1")
		}
	}
}

// joinSize is a place with how many registers and places more there are where it is joined.
type joinSize struct {
	x           impl.Tac
	regs, codes int
}

// joinSizes are counted by hand: of a go 1, 2 for each Arg, and 3; of a select 1, 3 for each kind and each 0 of a take, 2 for each other Arg, and 4.
func joinSizes() []joinSize {
	return []joinSize{
		{show(0), 1, 0}, {gives(0, 0), 1, 0}, {shuts(0), 1, 0}, {makes(0, 0), 0, 0}, {takes(0, 0), 0, 0},
		{begin("f"), 4, 3}, {begin("f", 0), 6, 6}, {begin("f", 0, 0), 8, 9}, {begin("f", 0, 0, 0), 10, 12}, {begin("f", 0, 0, 0, 0), 12, 15},
		{choose(0, 0, 0, 1, 0, 0), 13, 17}, {choose(0, 0, 1, 2, 0, 0), 12, 16}, {choose(0, 0, 0, 1, 0, 0, 1, 0, 0), 21, 28}, {choose(0, 0, 0, 2, 0, 0, 2, 0, 0), 19, 26}, {choose(0, 0, 1, 2, 0, 0, 1, 0, 0), 20, 27},
		{choose(0, 0, 1, 1, 0, 0, 1, 0, 0, 1, 0, 0), 29, 39}, {choose(0, 0, 0, 2, 0, 0, 2, 0, 0, 2, 0, 0), 26, 36}, {choose(0, 0, 0, 2, 0, 0, 1, 0, 0, 2, 0, 0), 27, 37},
	}
}

// wantFitting is whether a unit is joined, or left as it was for lack of room.
func wantFitting(t *testing.T, u impl.Unit, fits bool, regs, codes int) {
	t.Helper()
	got := join.check(t, u)
	if !fits {
		if !sameUnit(got, u) {
			t.Errorf("%s, of %d registers and %d places, is joined to %d and %d", tacText(u.Code[0]), u.Regs, len(u.Code), got.Regs, len(got.Code))
		}
		return
	}
	if got.Regs != u.Regs+regs || len(got.Code) != len(u.Code)+codes || !impl.UnitOk(got) || slices.ContainsFunc(got.Code, seenByOthers) {
		t.Errorf("%s, of %d registers and %d places, is joined to %d and %d", tacText(u.Code[0]), u.Regs, len(u.Code), got.Regs, len(got.Code))
	}
}

func TestLackOfRegisters(t *testing.T) {
	for _, s := range joinSizes() {
		for regs := 200; regs <= 250; regs++ {
			wantFitting(t, unit(0, regs, s.x, ret(0)), regs+s.regs <= 250, s.regs, s.codes)
			wantFitting(t, unit(0, regs, takes(0, 0), s.x, s.x, ret(0)), regs+2*s.regs <= 250, 2*s.regs, 2*s.codes)
		}
	}
	// By the last one alone, and all that stands ahead of it is left, too.
	for count := range 6 {
		u := unit(0, 245, append(slices.Repeat([]impl.Tac{show(0), makes(0, 0)}, count), ret(0))...)
		wantFitting(t, u, true, count, 0)
		u.Code = append(u.Code[:2*count:2*count], slices.Repeat([]impl.Tac{gives(0, 0)}, 6-count)...)
		u.Code = append(u.Code, ret(0))
		wantFitting(t, u, false, 0, 0)
	}
	// What needs no new one is joined with the most.
	wantJoined(t, unit(0, 250, makes(249, 248), takes(247, 249), ret(0)), 0, "call 249 rtmake 248; call 247 rtrecv 249; ret 0")
	join.wantLeft(t, unit(0, 250, makes(249, 248), show(249), takes(247, 249), ret(0)))
}

func TestLackOfPlaces(t *testing.T) {
	for _, s := range joinSizes() {
		for _, count := range []int{899 - 2*s.codes, 900 - 2*s.codes, 901 - 2*s.codes, 899 - s.codes, 900 - s.codes, 901 - s.codes, 899, 900} {
			fill := slices.Repeat([]impl.Tac{number(0, 0)}, max(0, count-2))
			first := slices.Concat([]impl.Tac{s.x}, fill, []impl.Tac{ret(0)})
			last := slices.Concat(fill, []impl.Tac{s.x, ret(0)})
			if count <= 900 {
				wantFitting(t, unit(0, 1, first...), count+s.codes <= 900, s.regs, s.codes)
				wantFitting(t, unit(0, 1, last...), count+s.codes <= 900, s.regs, s.codes)
			} else {
				join.wantNotTurned(t, unit(0, 1, first...))
			}
			if count <= 900 && count > 2 {
				last[0] = s.x
				wantFitting(t, unit(0, 1, last...), count+2*s.codes <= 900, 2*s.regs, 2*s.codes)
			}
		}
	}
	// Registers and places, each just enough.
	code := append([]impl.Tac{begin("f", 0, 0, 0, 0), choose(0, 0, 0, 1, 0, 0)}, slices.Repeat([]impl.Tac{number(0, 0)}, 900-2-15-17-1)...)
	wantFitting(t, unit(0, 225, append(code, ret(0))...), true, 25, 32)
	wantFitting(t, unit(0, 226, append(code, ret(0))...), false, 0, 0)
	wantFitting(t, unit(0, 225, append(code, number(0, 0), ret(0))...), false, 0, 0)
}

// The most places, each of which becomes as many as it may.
func TestJoinOfTheLargestUnits(t *testing.T) {
	for _, s := range joinSizes() {
		u := unit(0, 250, append(slices.Repeat([]impl.Tac{s.x}, 899), ret(0))...)
		wantFitting(t, u, s.regs == 0, 0, 0)
		wantFitting(t, unit(0, 1, append(slices.Repeat([]impl.Tac{s.x}, 899), ret(0))...), s.regs == 0, 0, 0)
	}
	// As many as there are registers for.
	wantFitting(t, unit(0, 1, append(slices.Repeat([]impl.Tac{show(0)}, 249), ret(0))...), true, 249, 0)
	wantFitting(t, unit(0, 1, append(slices.Repeat([]impl.Tac{show(0)}, 250), ret(0))...), false, 0, 0)
	wantFitting(t, unit(0, 2, append(slices.Repeat([]impl.Tac{begin("f")}, 62), ret(0))...), true, 248, 186)
	wantFitting(t, unit(0, 3, append(slices.Repeat([]impl.Tac{begin("f")}, 62), ret(0))...), false, 0, 0)
	join.wantNotTurned(t, unit(0, 250, append(slices.Repeat([]impl.Tac{takes(0, 0)}, 900), ret(0))...))
	join.wantNotTurned(t, unit(0, 251, takes(0, 0), ret(0)))
}

// countJoined counts, by op, what was joined and what was left for lack of room.
func countJoined(u, v impl.Unit, met map[string]int) {
	for i, x := range u.Code {
		if seenByOthers(x) {
			left := i < len(v.Code) && sameTac(x, v.Code[i])
			met[[]string{"joined ", "left "}[flag(left)]+tacWords[x.Op-1]]++
		}
	}
}

// tight is a unit that has as many registers more, or as many places, that there is just room to join it, or one too few or too many.
func tight(d *drawer, u impl.Unit) impl.Unit {
	u = cloneUnit(u)
	regs, places := 0, 0
	for _, x := range u.Code {
		code, more := wantPut(x, u.Regs)
		regs, places = regs+more, places+len(code)
	}
	if d.IntN(2) == 0 {
		u.Regs = min(max(u.Regs, 249+d.IntN(3)-regs), 250)
		return u
	}
	fill := min(max(0, 899+d.IntN(3)-places), 900-len(u.Code))
	u.Code = slices.Concat(slices.Repeat([]impl.Tac{number(0, 1)}, fill), u.Code)
	return u
}

func TestDrawnUnitsAreJoined(t *testing.T) {
	t.Parallel()
	d, met := newDrawer(220), map[string]int{}
	for i, unit := range drawnUnits(221) {
		for range []int{1200, 600, 1200, 1200}[i] {
			u := unit()
			for _, u := range []impl.Unit{u, tight(d, u)} {
				v := join.check(t, u)
				countJoined(u, v, met)
				if !sameUnit(u, v) && slices.ContainsFunc(v.Code, seenByOthers) {
					t.Errorf("in %s there is something left", unitText(v))
				}
			}
		}
	}
	for _, f := range tacForms {
		if word := tacWords[f.op-1]; seenByOthers(impl.Tac{Op: f.op}) && (met["joined "+word] < 1000 || met["left "+word] < 200) {
			t.Errorf("%s is joined %d times, left %d times", word, met["joined "+word], met["left "+word])
		}
	}
}

func TestDrawnUnitsThatAreTurnedAreJoined(t *testing.T) {
	join.wantTurnedUnits(t, newFlowDrawer(225))
	join.wantTurnedUnits(t, newCopyDrawer(226))
}

// wantSameAsked is of a unit that is joined: it asks for what it did by itself, one thing behind the other, with the same words, and is given the same.
func wantSameAsked(t *testing.T, u impl.Unit, regs []int) (lines int, whole bool) {
	t.Helper()
	const most = 200
	was, ended := runAsking(u, u.Regs, regs, most)
	now, endedNow := runAsking(impl.Join(u), u.Regs, regs, most*40)
	if len(now) < len(was) || ended && (!endedNow || len(now) > len(was)) || !slices.Equal(now[:len(was)], was) {
		at := 0
		for at < min(len(was), len(now)) && was[at] == now[at] {
			at++
		}
		t.Errorf("%s, from %v on, asks for\n%s\nand joined, %s, for\n%s", unitText(u), regs, clip(was[at:]), unitText(impl.Join(u)), clip(now[at:]))
	}
	return len(was), ended
}

func TestWhatIsJoinedAsksForTheSame(t *testing.T) {
	t.Parallel()
	d := newDrawer(227)
	lines, ended, joined := 0, 0, 0
	for i, unit := range drawnUnits(228) {
		for range []int{800, 400, 800, 600}[i] {
			u := unit()
			joined += flag(!sameUnit(impl.Join(u), u))
			for range 3 {
				regs := make([]int, u.Regs)
				for r := range regs {
					regs[r] = []int{0, 0, 1, -1, 5, least, greatest}[d.IntN(7)]
				}
				count, whole := wantSameAsked(t, u, regs)
				lines += count
				ended += flag(whole)
			}
		}
		if t.Failed() {
			return
		}
	}
	if lines < 50000 || ended < 3000 || joined < 1200 {
		t.Errorf("%d lines, %d come to an end, %d are joined", lines, ended, joined)
	}
}

// checkJoinAll holds JoinAll against the model, and asks what holds of each answer.
func checkJoinAll(t *testing.T, list []impl.Unit) []impl.Unit {
	t.Helper()
	kept := cloneUnits(list)
	got, want := impl.JoinAll(list), wantJoinAll(list)
	if !slices.EqualFunc(got, want, sameUnit) {
		t.Errorf("JoinAll(%s) has %d units, not %d: %s, not %s", clip(list), len(got), len(want), clip(got), clip(want))
	}
	if !slices.EqualFunc(list, kept, sameUnit) {
		t.Errorf("JoinAll writes into %s", clip(kept))
	}
	if !impl.UnitsOk(got) || slices.ContainsFunc(got, func(u impl.Unit) bool { return slices.ContainsFunc(u.Code, seenByOthers) }) {
		t.Errorf("JoinAll(%s) = %s, which is not right", clip(list), clip(got))
	}
	return got
}

// wantAllJoined is of a list of which all is joined, and what comes behind the scheduler's units.
func wantAllJoined(t *testing.T, list ...impl.Unit) []impl.Unit {
	t.Helper()
	got := checkJoinAll(t, list)
	sched := schedUnits()
	if len(got) != len(sched)+len(list) || !slices.EqualFunc(got[:len(sched)], sched, sameUnit) {
		t.Fatalf("of %s there is %s", clip(list), clip(got))
	}
	for i, u := range list {
		if !sameUnit(got[len(sched)+i], impl.Join(u)) {
			t.Errorf("unit %d of %s is joined to %s", i, clip(list), clip(got[len(sched)+i]))
		}
	}
	return got[len(sched):]
}

// wantNoneJoined is of a list of which nothing is told, for that reason alone, as "" for whatever there is.
func wantNoneJoined(t *testing.T, reason string, list ...impl.Unit) {
	t.Helper()
	if faults := strings.Join(joinFaults(list), " "); faults == "" || reason != "" && faults != reason {
		t.Fatalf("of %s there is amiss %q, not %q", clip(list), faults, reason)
	}
	if got := checkJoinAll(t, list); len(got) > 0 {
		t.Errorf("of %s, where %q is amiss, there is %s", clip(list), reason, clip(got))
	}
}

func TestOfNoUnitsTheSchedulersAreJoined(t *testing.T) {
	for _, none := range [][]impl.Unit{nil, {}, make([]impl.Unit, 0, 3), make([]impl.Unit, 3)[:0], manyUnits(3)[3:]} {
		if got := wantAllJoined(t, none...); len(got) > 0 {
			t.Errorf("behind the scheduler's there are %s", clip(got))
		}
		if got := impl.JoinAll(none); len(got) != 23 {
			t.Errorf("of none there are %d", len(got))
		}
	}
	// One that has nothing, not even a place, is a unit that is not right.
	wantNoneJoined(t, "unit", impl.Unit{})
}

func TestProgramsThatAreAllJoined(t *testing.T) {
	for _, c := range []struct{ src, want string }{
		{"func main() { print 4; }", "main 0 3 num 0 4; call 2 rtprint 0; num 1 0; ret 1"},
		{"func main() { }", "main 0 1 num 0 0; ret 0"},
		{"func a() { let c = make(0); go b(c); } func b(c chan) { close c; } func main() { return a(); }",
			"a 0 10 num 0 0; num 1 0; call 2 rtmake 1; copy 0 2; call 4 rtself; num 5 7; add 6 4 5; poke 6 0; addr 7 b; num 8 1; call 9 rtgo 7 8; num 3 0; ret 3 & b 1 3 call 2 rtclose 0; num 1 0; ret 1 & main 0 2 call 0 a; ret 0; num 1 0; ret 1"},
	} {
		var got []string
		for _, u := range wantAllJoined(t, impl.Lower(parsed(t, c.src), false)...) {
			got = append(got, u.Name+" "+digits(u.Params, u.Regs)+" "+codeText(u.Code))
		}
		if text := strings.Join(got, " & "); text != c.want {
			t.Errorf("%q is joined to\n%q, not\n%q", c.src, text, c.want)
		}
	}
}

func TestUnitsAreJoinedInTheirOrder(t *testing.T) {
	for _, count := range []int{1, 2, 3, 10, 57} {
		list := manyUnits(count)
		for i := range list {
			list[i].Code = []impl.Tac{number(1, i), show(1), ret(1)}
		}
		for range 2 {
			slices.Reverse(list)
			for i, u := range wantAllJoined(t, list...) {
				if u.Name != list[i].Name || u.Params != list[i].Params || codeText(u.Code) != "num 1 "+digits(list[i].Code[0].N)+"; call 5 rtprint 1; ret 1" {
					t.Errorf("unit %d of %d is %s", i, count, unitText(u))
				}
			}
		}
	}
	// What names others may stand ahead of them and behind them; so may main, which need not be there.
	f, g := namedUnit("f", 1, show(0)), namedUnit("g", 0, into(1, call("f", 2)), begin("f", 2), addr("f"))
	for _, list := range [][]impl.Unit{{f, g}, {g, f}, {namedUnit("main", 0), g, f}, {g, f, namedUnit("main", 3)}} {
		wantAllJoined(t, list...)
	}
}

func TestHowManyUnitsAreJoined(t *testing.T) {
	for _, count := range []int{1, 2, 56, 57} {
		wantAllJoined(t, manyUnits(count)...)
	}
	for _, count := range []int{58, 59, 79, 80, 81, 82, 103, 1000} {
		wantNoneJoined(t, "many", manyUnits(count)...)
	}
	// Where there are too many, it does not count that another reason speaks against them, too.
	list := manyUnits(58)
	list[40].Name = "rt"
	wantNoneJoined(t, "many name", list...)
	wantNoneJoined(t, "name", list[1:]...)
	wantAllJoined(t, list[:40]...)
}

func TestNamesThatBeginAsTheSchedulers(t *testing.T) {
	for _, name := range []string{"rt", "rtx", "rtmain", "rt ", "rt\x00", "rtrt", "rt9", "rtlocks", "rtloc", "rtt", "rtr", "rtRT", "rt" + strings.Repeat("t", 5000)} {
		for at := range 3 {
			list := manyUnits(3)
			list[at].Name = name
			wantNoneJoined(t, "name", list...)
			// Whatever the unit is: with something that others see, and with nothing.
			list[at].Code = []impl.Tac{show(0), ret(0)}
			wantNoneJoined(t, "name", list...)
		}
		wantNoneJoined(t, "name", namedUnit(name, 0))
	}
	for _, u := range schedUnits() {
		wantNoneJoined(t, "name twice", u)
		wantNoneJoined(t, "name twice", namedUnit("f", 0), namedUnit(u.Name, 0))
	}
	for _, name := range []string{"", "r", "t", "tr", "xrt", "Rt", "rT", "RT", " rt", "\x00rt", "r t", "art", "main", "rs", "ru", "st", "qt", "rx", strings.Repeat("xrt", 3000)} {
		for at := range 3 {
			list := manyUnits(3)
			list[at].Name = name
			list[at].Code = []impl.Tac{show(0), ret(0)}
			wantAllJoined(t, list...)
		}
		wantAllJoined(t, namedUnit(name, 0))
	}
	// What they name may begin so; only there must be such a one.
	wantAllJoined(t, namedUnit("f", 0, into(1, call("rtself")), addr("rtloop"), begin("rtend")))
	for _, x := range []impl.Tac{call("rt"), begin("rtx"), addr("rtmain")} {
		wantNoneJoined(t, "nowhere", namedUnit("f", 0, x))
	}
}

func TestUnitsThatAreNotRightAreNotJoined(t *testing.T) {
	some := func() []impl.Unit {
		return []impl.Unit{namedUnit("f", 1, show(1)), namedUnit("g", 2, begin("f", 2)), namedUnit("main", 0, takes(1, 2))}
	}
	wantAllJoined(t, some()...)
	for at := range 3 {
		for _, wrong := range wrongUnits() {
			list := some()
			list[at] = wrong
			list[at].Name = some()[at].Name
			wantNoneJoined(t, "", list...)
		}
		list := some()
		list[at].Code[0].B = 1
		wantNoneJoined(t, "", list...)
		for _, f := range tacForms {
			list := some()
			list[at] = around(ordinaryTac(f))
			list[at].Name, list[at].Params = some()[at].Name, some()[at].Params
			x := &list[at].Code[slices.IndexFunc(list[at].Code, func(x impl.Tac) bool { return x.Op == f.op })]
			x.Op = []int{29, -1, 0}[at]
			wantNoneJoined(t, "", list...)
		}
	}
	for _, at := range []int{0, 28, 56} {
		list := manyUnits(57)
		list[at] = unit(0, 1, show(0))
		wantNoneJoined(t, "seen unit", list...)
		list[at] = unit(0, 251, ret(0))
		wantNoneJoined(t, "unit", list...)
	}
}

func TestNamesThatStandTwiceAreNotJoined(t *testing.T) {
	for _, count := range []int{2, 3, 57} {
		for _, pair := range [][2]int{{0, 1}, {0, count - 1}, {count - 2, count - 1}} {
			for _, name := range []string{"", "f", "main", "r", strings.Repeat("n", 5000)} {
				list := manyUnits(count)
				list[pair[0]].Name = name
				wantAllJoined(t, list...)
				list[pair[1]].Name = name
				wantNoneJoined(t, "twice", list...)
			}
		}
	}
	wantNoneJoined(t, "twice", namedUnit("f", 1, show(0)), namedUnit("f", 1, show(0)))
}

func TestCallsWithAnotherNumberOfArgsAreNotJoined(t *testing.T) {
	for params := range 5 {
		for count := range 5 {
			f := namedUnit("f", params, show(0))
			for _, list := range [][]impl.Unit{{f, namedUnit("g", 0, call("f", make([]int, count)...))}, {namedUnit("g", 0, show(1), call("f", make([]int, count)...)), f}, {namedUnit("f", params, call("f", make([]int, count)...))}} {
				if params == count {
					wantAllJoined(t, list...)
				} else {
					wantNoneJoined(t, "args", list...)
				}
			}
			// One that begins is only named then.
			wantAllJoined(t, f, namedUnit("g", 0, begin("f", make([]int, count)...)))
		}
		wantAllJoined(t, namedUnit("f", params), namedUnit("g", 0, addr("f")))
	}
	// The scheduler's units, called by others.
	for _, u := range schedUnits() {
		for count := range 5 {
			f := namedUnit("f", 0, into(1, call(u.Name, make([]int, count)...)))
			if count == u.Params {
				wantAllJoined(t, f)
			} else {
				wantNoneJoined(t, "args", f)
			}
			wantAllJoined(t, namedUnit("f", 0, begin(u.Name, make([]int, count)...)))
		}
	}
	// Names that no unit has.
	for _, x := range []impl.Tac{call("v"), begin("v"), addr("v"), call(""), begin("F"), addr("f ")} {
		for at := range 2 {
			list := []impl.Unit{namedUnit("f", 0, show(0)), namedUnit("g", 0, shuts(0))}
			list[at].Code = append([]impl.Tac{x}, list[at].Code...)
			wantNoneJoined(t, "nowhere", list...)
		}
	}
}

// One that has no room for what it would become, and something that others see, is not joined, nor are all the others.
func TestUnitsWithoutRoomAreNotJoined(t *testing.T) {
	for _, s := range joinSizes() {
		for _, at := range []int{0, 1, 2} {
			list := []impl.Unit{namedUnit("f", 0, show(1)), namedUnit("g", 0, show(1)), namedUnit("h", 0, show(1))}
			if s.x.Op == impl.TcGo {
				list[0].Params = len(s.x.Args)
			}
			for regs := 250 - s.regs; regs <= 250; regs++ {
				list[at].Regs, list[at].Code = regs, []impl.Tac{s.x, ret(0)}
				if regs+s.regs <= 250 {
					wantAllJoined(t, list...)
				} else {
					wantNoneJoined(t, "seen", list...)
				}
			}
			for count := 900 - s.codes; count <= 900; count++ {
				if s.codes > 0 {
					list[at].Regs, list[at].Code = 4, slices.Concat(slices.Repeat([]impl.Tac{number(0, 0)}, count-2), []impl.Tac{s.x, ret(0)})
					if count+s.codes <= 900 {
						wantAllJoined(t, list...)
					} else if count == 901-s.codes || count == 900 {
						wantNoneJoined(t, "seen", list...)
					}
				}
			}
		}
	}
	// With nothing that others see it needs no room.
	full := unit(0, 250, append(slices.Repeat([]impl.Tac{number(249, 1)}, 899), ret(249))...)
	wantAllJoined(t, full, namedUnit("f", 0, show(0)))
	full.Code[450] = makes(3, 249)
	wantAllJoined(t, full, namedUnit("f", 0, show(0)))
	full.Code[451] = shuts(249)
	wantNoneJoined(t, "seen", namedUnit("f", 0, show(0)), full)
	// Each op, as the only one that is left.
	for _, f := range tacForms {
		x := ordinaryTac(f)
		if seenByOthers(x) {
			u := unit(0, 250, show(249), x, ret(0))
			if f.op == impl.TcGo {
				u.Name, u.Params = x.S, len(x.Args)
			}
			wantNoneJoined(t, "seen", u)
		}
	}
}

// countAllJoined draws lists, and tells how many of them were joined, and for each reason how many were not.
func countAllJoined(t *testing.T, count int, draw func() []impl.Unit) map[string]int {
	t.Helper()
	met := map[string]int{}
	for range count {
		list := draw()
		got := checkJoinAll(t, list)
		if len(got) > 0 {
			met["joined"]++
			wantAllJoined(t, list...)
		} else {
			met[strings.Join(joinFaults(list), " ")]++
		}
		if t.Failed() {
			break
		}
	}
	return met
}

// Promise 20 at the units of drawn programs.
func TestUnitsOfDrawnProgramsAreJoined(t *testing.T) {
	t.Parallel()
	talk := newTalkDrawer(231)
	seen := 0
	met := countAllJoined(t, 200, func() []impl.Unit {
		list := impl.Lower(parsed(t, talk.program()), false)
		for _, u := range list {
			for _, x := range u.Code {
				seen += flag(seenByOthers(x))
			}
		}
		return list
	})
	if met["joined"] < 195 || seen < 3000 {
		t.Errorf("with %d places that others see there are joined %v", seen, met)
	}
	for _, low := range []bool{false, true} {
		right := &rightDrawer{drawer: newDrawer(232), low: low}
		for _, turn := range []func([]impl.Unit) []impl.Unit{slices.Clone[[]impl.Unit], impl.BetterAll} {
			met := countAllJoined(t, 100, func() []impl.Unit { return turn(impl.Lower(right.program(), low)) })
			if met["joined"] < 80 {
				t.Errorf("of drawn programs there are joined %v", met)
			}
		}
	}
	met = countAllJoined(t, 200, newCopyDrawer(233).units)
	if met["joined"] < 150 {
		t.Errorf("of drawn units there are joined %v", met)
	}
	met = countAllJoined(t, 200, newUnitDrawer(234).units)
	if met["joined"] < 50 {
		t.Errorf("of drawn units of many registers there are joined %v", met)
	}
}

func TestDrawnListsThatAreTurnedAreJoined(t *testing.T) {
	t.Parallel()
	few, many := newCopyDrawer(235), newUnitDrawer(236)
	met := countAllJoined(t, 500, func() []impl.Unit {
		list := few.units()
		if few.IntN(2) == 0 {
			list = many.units()
		}
		at := few.IntN(len(list))
		switch few.IntN(8) {
		case 0:
			list[at].Name = few.pick("rt", "rtself", "rtx", "r", "xrt")
		case 1:
			list[at] = tight(few.drawer, list[at])
		case 2:
			list = append(list, list[at])
		case 3:
			list = append(list, manyUnits(52+few.IntN(3))...)
		default:
			list[at] = many.turnUnit(list[at])
		}
		return list
	})
	for _, reason := range []string{"joined", "many", "twice", "seen"} {
		if met[reason] < 10 {
			t.Errorf("%q is met %d times, of %v", reason, met[reason], met)
		}
	}
}

// aheadToJoin are places that become others, with new registers and without.
func aheadToJoin() []impl.Tac {
	return []impl.Tac{show(1), makes(0, 1), begin("f"), takes(1, 2), shuts(2)}
}

func TestJoinWithListsThatAreEmptyAndNil(t *testing.T) {
	join.wantEmptyLists(t, aheadToJoin())
	for _, empty := range [][]int{nil, {}, make([]int, 0, 9), []int{1, 2, 3}[3:], []int{2, 3, 4}[:0]} {
		wantJoined(t, impl.Unit{Code: []impl.Tac{label(0), begin("", empty...), jump(0)}}, 4, "label 0; call 0 rtself; addr 1 ; num 2 0; call 3 rtgo 1 2; jump 0")
		f := namedUnit("f", 0, show(1), gives(1, 2), into(3, call("f", empty...)), begin("f", empty...))
		for i := range f.Code {
			f.Code[i].Args = empty
		}
		for _, none := range [][]impl.Tac{nil, {}, make([]impl.Tac, 0, 9), make([]impl.Tac, 3)[:0]} {
			wantAllJoined(t, f)
			wantNoneJoined(t, "unit", f, impl.Unit{Name: "g", Code: none})
			wantNoneJoined(t, "unit", impl.Unit{Code: none})
		}
	}
}

func TestJoinOfVeryLongUnits(t *testing.T) {
	t.Parallel()
	join.wantVeryLong(t, aheadToJoin())
	// Very many places that each become many.
	for _, x := range []impl.Tac{begin("f", 0, 0, 0, 0), choose(0, 0, 0, 1, 0, 0, 1, 0, 0, 1, 0, 0), show(0)} {
		join.wantNotTurned(t, unit(0, 1, append(slices.Repeat([]impl.Tac{x}, 1000000), ret(0))...))
	}
}

func TestJoinAllOfVeryLongLists(t *testing.T) {
	t.Parallel()
	const far = 300000
	for _, u := range []impl.Unit{unit(0, 1, show(0), ret(0)), namedUnit("rt", 0), {}} {
		if got := impl.JoinAll(slices.Repeat([]impl.Unit{u}, far)); len(got) > 0 {
			t.Errorf("of very many units there are %d", len(got))
		}
	}
	f := namedUnit("f", 0, show(1))
	wantNoneJoined(t, "unit", f, namedUnit("u", 0, slices.Repeat([]impl.Tac{number(0, 0)}, far)...))
	wantNoneJoined(t, "seen unit", f, namedUnit("u", 0, slices.Repeat([]impl.Tac{show(0)}, far)...))
	wantNoneJoined(t, "args unit", f, namedUnit("u", 0, call("f", make([]int, far)...)))
	wantNoneJoined(t, "args seen unit", f, namedUnit("u", 0, begin("f", make([]int, far)...)))
	wantNoneJoined(t, "seen unit", f, namedUnit("u", 0, choose(0, 0, 0, make([]int, far)...)))
	wantNoneJoined(t, "name", f, namedUnit("rt"+strings.Repeat("a long name ", far), 0))
	name := strings.Repeat("a long name ", far)
	got := wantAllJoined(t, namedUnit(name, 0, begin(name)), namedUnit("f", 0, into(1, addr(name)), into(2, call(name))))
	if got[0].Name != name || got[0].Code[1].S != name || got[1].Code[0].S != name {
		t.Errorf("with a very long name there is %s", clip(got))
	}
	for _, n := range append(append(edges(), farPlaces()...), math.MinInt, math.MaxInt, least-1, greatest+1) {
		for _, other := range []impl.Unit{{Name: "g", Params: n, Regs: n, Code: []impl.Tac{ret(0)}}, namedUnit("g", n), namedUnit("g", 0, number(1, n), show(1)), namedUnit("g", 0, show(n)), namedUnit("g", 0, jump(n), label(n)), namedUnit("g", 0, place(n, n, n, n)), namedUnit("g", 0, begin("f", n)), namedUnit("g", 0, choose(n, n, n, n, n, n)), namedUnit("g", 0, choose(0, 1, n, 2, n, n)), namedUnit("g", 0, takes(n, n))} {
			checkJoinAll(t, []impl.Unit{f, other})
		}
	}
}

// As many units as there may be, each with as many registers and as many places as it may have.
func TestJoinAllOfTheLargestUnits(t *testing.T) {
	list := manyUnits(57)
	for i := range list {
		code := append(slices.Repeat([]impl.Tac{begin("u4", 0, 1, 2, 3)}, 20), slices.Repeat([]impl.Tac{takes(1, 2)}, 900-20*16-1)...)
		list[i].Regs, list[i].Code = 10, append(code, ret(0))
	}
	for i, u := range wantAllJoined(t, list...) {
		if u.Regs != 250 || len(u.Code) != 900 {
			t.Errorf("unit %d is joined to %d registers and %d places", i, u.Regs, len(u.Code))
		}
	}
	list[56].Regs = 11
	wantNoneJoined(t, "seen", list...)
}

// unitsToJoin are some that are right, and some of which something is amiss.
func unitsToJoin() []impl.Unit {
	few, many := newCopyDrawer(237), newUnitDrawer(238)
	out := wrongUnits()
	for range 120 {
		u, v := few.unit(), many.unit()
		out = append(out, u, few.turnUnit(u), tight(few.drawer, u), v, tight(few.drawer, v))
	}
	for _, f := range tacForms {
		out = append(out, around(ordinaryTac(f)), unit(2, aroundRegs, append(aheadToJoin(), ordinaryTac(f), label(aroundLabel+1), ret(0))...))
	}
	for _, s := range joinSizes() {
		out = append(out, unit(1, 5, s.x, s.x, ret(0)), unit(1, 250, s.x, s.x, ret(0)))
	}
	return append(out, unit(0, 1, ret(0)))
}

// listsToJoin are some of which all are joined, and some of which nothing is told.
func listsToJoin() [][]impl.Unit {
	few, many := newCopyDrawer(239), newUnitDrawer(240)
	out := [][]impl.Unit{nil, {}, {{}}, manyUnits(3), manyUnits(57), manyUnits(58), {namedUnit("rt", 0)}}
	for range 30 {
		list := few.units()
		turned := slices.Clone(list)
		turned[1] = few.turnUnit(turned[1])
		out = append(out, list, turned, many.units())
	}
	return append(out, []impl.Unit{namedUnit("f", 1, begin("f", 2), call("f", 3), call("rtsend", 1, 2), choose(1, 2, 0, 2, 3, 4)), namedUnit("g", 0, begin("f", 1), shuts(2))})
}

func TestJoinWritesIntoNothing(t *testing.T) {
	t.Parallel()
	join.wantNothingWrittenInto(t, unitsToJoin())
	for _, list := range listsToJoin() {
		given, whole := roomyUnits(list)
		got := impl.JoinAll(given)
		if !slices.EqualFunc(got, impl.JoinAll(list), sameUnit) {
			t.Errorf("JoinAll(%s) is another with room behind its lists", clip(list))
		}
		spoilWorld(impl.World{Units: got})
		if !roomIsAsItWas(given, whole) {
			t.Errorf("JoinAll writes into %s, or into the room behind its lists", clip(list))
		}
	}
}

func TestEachJoinedUnitIsItsOwn(t *testing.T) {
	t.Parallel()
	join.wantOwn(t, unitsToJoin())
	met := 0
	for _, list := range listsToJoin() {
		list, _ = roomyUnits(list)
		for i := range list {
			list[i].Name = strings.Clone(list[i].Name)
			for k := range list[i].Code {
				list[i].Code[k].S = strings.Clone(list[i].Code[k].S)
			}
		}
		one, other := impl.JoinAll(list), impl.JoinAll(list)
		if !apart(slices.Concat(listsOf(list), listsOf(one), listsOf(other))) {
			t.Fatalf("JoinAll(%s) shares memory", clip(list))
		}
		if meet(textsOfUnits(list), append(textsOfUnits(one), textsOfUnits(other)...)) {
			t.Fatalf("a text of JoinAll(%s) lies in what was given", clip(list))
		}
		kept, was := cloneUnits(other), cloneUnits(list)
		spoilWorld(impl.World{Units: one})
		if !slices.EqualFunc(other, kept, sameUnit) || !slices.EqualFunc(list, was, sameUnit) || !slices.EqualFunc(impl.JoinAll(list), kept, sameUnit) {
			t.Fatalf("JoinAll(%s) is not its own", clip(was))
		}
		spoilWorld(impl.World{Units: list})
		if !slices.EqualFunc(other, kept, sameUnit) {
			t.Fatalf("JoinAll(%s) is turned with what was given", clip(was))
		}
		met += flag(len(kept) > 23)
	}
	if met < 30 {
		t.Errorf("%d lists are joined", met)
	}
}

func TestJoinAnswersTheSameAgain(t *testing.T) {
	t.Parallel()
	join.wantSameAgain(t, unitsToJoin())
	lists := listsToJoin()
	for i, list := range lists {
		first := impl.JoinAll(list)
		for range 3 {
			impl.JoinAll(lists[(i+1)%len(lists)])
			if !slices.EqualFunc(impl.JoinAll(list), first, sameUnit) {
				t.Errorf("JoinAll(%s) is not the same again", clip(list))
			}
		}
	}
}

func TestJoinSideBySide(t *testing.T) {
	join.wantSideBySide(t, unitsToJoin())
	lists := listsToJoin()
	var want [][]impl.Unit
	for _, list := range lists {
		want = append(want, wantJoinAll(list))
	}
	var group sync.WaitGroup
	wrong := make([]int, 8)
	for worker := range wrong {
		group.Go(func() {
			for i, list := range lists {
				wrong[worker] += flag(!slices.EqualFunc(impl.JoinAll(list), want[i], sameUnit))
			}
		})
	}
	group.Wait()
	if !slices.Equal(wrong, make([]int, 8)) {
		t.Errorf("answers of JoinAll side by side are others: %v", wrong)
	}
}
