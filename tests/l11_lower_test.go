package tests

import (
	"slices"
	"strconv"
	"strings"
	"sync"
	"testing"
	"unsafe"

	"loop.example/g00286/impl"
)

// checkLower holds Lower against the model, and against what it says of what was written and parsed again; and what it tells is nothing, or right.
func checkLower(t *testing.T, list []impl.Func, low bool) []impl.Unit {
	t.Helper()
	got := impl.Lower(list, low)
	if want := wantLower(list, low); !slices.EqualFunc(got, want, sameUnit) {
		t.Errorf("Lower(%.300q, %v) is\n%.2000snot\n%.2000s", impl.Write(list), low, unitsText(got), unitsText(want))
	}
	if len(got) > 0 && (len(got) != len(list) || !impl.UnitsOk(got) || !wantUnitsOk(got)) {
		t.Errorf("Lower(%.300q, %v) is not right: %v", impl.Write(list), low, unitsFaults(got))
	}
	if text := impl.Write(list); impl.Tidy(list) && len(text) <= 6000 {
		if again := impl.Lower(parsed(t, text), low); !slices.EqualFunc(got, again, sameUnit) {
			t.Errorf("Lower of %.300q is %.1000s, and was %.1000s ahead of that", text, unitsText(again), unitsText(got))
		}
	}
	return got
}

func wantNotLowered(t *testing.T, list []impl.Func, low bool) {
	t.Helper()
	if got := checkLower(t, list, low); len(got) != 0 {
		t.Errorf("Lower(%s, %v) is %.1000s", clip(list), low, unitsText(got))
	}
}

// wantLowered is of a program, and its units, each in its line.
func wantLowered(t *testing.T, src string, low bool, units ...string) {
	t.Helper()
	got := unitsText(checkLower(t, parsed(t, src), low))
	if want := strings.Join(units, "\n") + "\n"; got != want {
		t.Errorf("Lower(%.300q, %v) is\n%.2000snot\n%.2000s", src, low, got, want)
	}
}

func wantLoweredInBoth(t *testing.T, src string, units ...string) {
	t.Helper()
	wantLowered(t, src, false, units...)
	wantLowered(t, src, true, units...)
}

const (
	headsText     = "func none() { } func one(a) { } func two(a, b) { } func four(a, b, c, d) { } "
	highHeadsText = headsText + "func tell(c chan, a) { } "
)

func amongOthers(params, body string, low bool) string {
	heads := highHeadsText
	if low {
		heads = headsText
	}
	return heads + "func f(" + params + ") { " + body + " }" + mainText
}

// wantPlaces is of a function among others: how many registers its unit has, and its code but for its end, which has the last register.
func wantPlaces(t *testing.T, low bool, params, body string, regs int, code string) {
	t.Helper()
	src := amongOthers(params, body, low)
	got := checkLower(t, parsed(t, src), low)
	if len(got) < 2 {
		t.Errorf("Lower(%q, %v) has %d units", src, low, len(got))
		return
	}
	if code != "" {
		code += "; "
	}
	last := strconv.Itoa(regs - 1)
	count := 0
	if params != "" {
		count = strings.Count(params, ",") + 1
	}
	want := "f " + strconv.Itoa(count) + " " + strconv.Itoa(regs) + ": " + code + "num " + last + " 0; ret " + last
	if text := unitText(got[len(got)-2]); text != want {
		t.Errorf("of %q with low %v there is\n%s\nnot\n%s", body, low, text, want)
	}
}

func wantPlacesInBoth(t *testing.T, params, body string, regs int, code string) {
	t.Helper()
	wantPlaces(t, false, params, body, regs, code)
	wantPlaces(t, true, params, body, regs, code)
}

func TestListsThatAreNotCheckedAreNotLowered(t *testing.T) {
	for _, low := range []bool{false, true} {
		met := make([]int, 8)
		refuse := func(list []impl.Func) {
			t.Helper()
			met[impl.Check(list, low)]++
			wantNotLowered(t, list, low)
		}
		for _, a := range faultTexts(low) {
			refuse(parsed(t, "func ahead(a) { return a; } func f() { "+a.text+" }"+mainText))
			refuse(parsed(t, "func f(a) { "+a.text+" } func g() { } "+mainText))
			refuse(parsed(t, "func ahead() { return 7; } "+inMain("if 0 { "+a.text+" }")))
		}
		for _, src := range []string{"func f() { } func f() { }" + mainText, mainText + mainText, "func f(a, b, c, d, e) { }" + mainText, "func f() { return g(); } func g() { }" + mainText} {
			refuse(parsed(t, src))
		}
		for _, bad := range []impl.Node{{}, {Op: 99}, {Op: impl.NdReturn}, node(impl.NdReturn, lit(least)), node(impl.NdReturn, lit(greatest+1)), blk(), named(impl.NdLet, "let", lit(1)), node(impl.NdReturn, deepTrees(19)["left"]), lit(1), node(impl.NdElse, blk())} {
			refuse([]impl.Func{fn("ahead", nil), fn("main", nil, node(impl.NdReturn, lit(1)), bad)})
			refuse([]impl.Func{fn("f", nil, bad), fn("main", nil, node(impl.NdReturn, lit(1)))})
		}
		refuse([]impl.Func{{}, fn("main", nil)})
		refuse([]impl.Func{{Name: "main", Body: node(impl.NdReturn, lit(1))}})
		refuse(append(manyFunctions(40), fn("main", nil)))
		if !low {
			for _, src := range []string{"func f() { }", "func main(a) { }", mainText + " func f() { }", "func Main() { }"} {
				refuse(parsed(t, src))
			}
		}
		for code, count := range met {
			if never := code == impl.CkDone || code == impl.CkMain && low; (count > 0) == never {
				t.Errorf("code %d is met %d times with low %v: %v", code, count, low, met)
			}
		}
	}
}

// No functions are checked below, and are no units there, either.
func TestLowerOfNoFunctions(t *testing.T) {
	for _, list := range [][]impl.Func{nil, {}, make([]impl.Func, 0, 3), manyFunctions(3)[:0]} {
		wantNotLowered(t, list, false)
		wantNotLowered(t, list, true)
	}
}

// What is of one storey is lowered there alone.
func TestLowerInTheOtherStorey(t *testing.T) {
	high, low := doneTexts()
	for i, texts := range [][]string{high, low} {
		for _, src := range texts {
			list := parsed(t, src)
			if got := checkLower(t, list, i == 1); len(got) != len(list) {
				t.Errorf("%q has %d units", src, len(got))
			}
			if impl.Check(list, i == 0) != impl.CkDone {
				wantNotLowered(t, list, i == 0)
			}
		}
	}
	for _, op := range slices.Concat(lowOps, highOps) {
		isLow := slices.Contains(lowOps, op)
		for _, text := range storeyTexts[op] {
			list := parsed(t, "func g(a) { return a; } "+inMain(text))
			wantNotLowered(t, list, !isLow)
			if got := checkLower(t, list, isLow); len(got) != 2 {
				t.Errorf("%q has %d units with low %v", text, len(got), isLow)
			}
		}
	}
	wantLowered(t, "func f(c chan) { }"+mainText, false, "f 1 2: num 1 0; ret 1", "main 0 2: num 0 0; ret 0; num 1 0; ret 1")
	wantNotLowered(t, parsed(t, "func f(c chan) { }"+mainText), true)
	// The last one need not be main below.
	wantLowered(t, "func f(a) { }", true, "f 1 2: num 1 0; ret 1")
	wantNotLowered(t, parsed(t, "func f(a) { }"), false)
}

func TestAUnitForEachFunction(t *testing.T) {
	wantLoweredInBoth(t, "func main() { }", "main 0 1: num 0 0; ret 0")
	wantLoweredInBoth(t, "func b(x) { } func a(x, y) { } func c() { } func d(p, q, r, s) { } func main() { }",
		"b 1 2: num 1 0; ret 1", "a 2 3: num 2 0; ret 2", "c 0 1: num 0 0; ret 0", "d 4 5: num 4 0; ret 4", "main 0 1: num 0 0; ret 0")
	wantLowered(t, "func b(x chan) { } func a(x, y chan) { } func main() { }", false, "b 1 2: num 1 0; ret 1", "a 2 3: num 2 0; ret 2", "main 0 1: num 0 0; ret 0")
	wantLoweredInBoth(t, "func f(a) { let b = a; return b; } func main() { let a = 1; let b = 2; return f(a); }",
		"f 1 3: num 1 0; copy 1 0; ret 1; num 2 0; ret 2",
		"main 0 6: num 0 0; num 1 0; num 2 1; copy 0 2; num 3 2; copy 1 3; call 4 f 0; ret 4; num 5 0; ret 5")
	wantLowered(t, "func main(a) { return a; } func g() { return main(1); }", true, "main 1 2: ret 0; num 1 0; ret 1", "g 0 3: num 0 1; call 1 main 0; ret 1; num 2 0; ret 2")
	for _, count := range []int{1, 2, 39, 40} {
		var list []impl.Func
		for i := range count {
			list = append(list, fn(letterName(count-i), []impl.Param{param("a"), param("b"), param("c"), param("d")}[:i%5]))
		}
		list[count-1] = fn("main", nil)
		for _, low := range []bool{false, true} {
			got := checkLower(t, list, low)
			if len(got) != count {
				t.Errorf("%d functions are %d units", count, len(got))
			}
			for i, u := range got {
				if u.Name != list[i].Name || u.Params != len(list[i].Params) {
					t.Errorf("unit %d is %s", i, clip(u))
				}
			}
		}
	}
}

func TestVarsAreTheFirstRegisters(t *testing.T) {
	wantPlacesInBoth(t, "", "let a = 1;", 3, "num 0 0; num 1 1; copy 0 1")
	wantPlacesInBoth(t, "b, a", "return a; return b;", 3, "ret 1; ret 0")
	wantPlacesInBoth(t, "b, a", "let d = 1; let c = 2; return c; return d; return a; return b;", 7, "num 2 0; num 3 0; num 4 1; copy 2 4; num 5 2; copy 3 5; ret 3; ret 2; ret 1; ret 0")
	// In the order of the text, however deep their lets lie, and ahead of all values.
	wantPlacesInBoth(t, "p", "if p { let d = 1; } else { let c = 2; } while 0 { let b = 3; } let a = 4;", 11,
		"num 1 0; num 2 0; num 3 0; num 4 0; zero 0 0; num 5 1; copy 1 5; jump 1; label 0; num 6 2; copy 2 6; label 1; label 2; num 7 0; zero 7 3; num 8 3; copy 3 8; jump 2; label 3; num 9 4; copy 4 9")
	wantPlaces(t, false, "a, c chan", "5; select { case recv a, c { let z = 1; } default { let y = c; } } let x = z;", 14,
		"num 2 0; num 3 0; num 4 0; num 5 5; select 6 7 1 1 1 0; num 8 0; same 9 6 8; zero 9 1; copy 0 7; num 10 1; copy 2 10; jump 0; label 1; num 11 1; same 12 6 11; zero 12 2; copy 3 1; jump 0; label 2; label 0; copy 4 2")
}

// All Vars that there may be, with each number of Params: those that are none of these are 0 ahead of all statements, in order.
func TestVarsThatAreNoParamsBegin0(t *testing.T) {
	for params := range 5 {
		for lets := range 9 - params {
			body := "return 3; "
			code, lines := "", ""
			for i := range lets {
				r := strconv.Itoa(params + i)
				body += "let l" + string(rune('a'+i)) + " = " + strconv.Itoa(70+i) + "; "
				code += "num " + r + " 0; "
				value := strconv.Itoa(params + lets + 1 + i)
				lines += "; num " + value + " " + strconv.Itoa(70+i) + "; copy " + r + " " + value
			}
			first := strconv.Itoa(params + lets)
			wantPlacesInBoth(t, paramsText(params), body, params+2*lets+2, code+"num "+first+" 3; ret "+first+lines)
		}
	}
	// Channels too.
	wantPlaces(t, false, "a chan", "let b = a; let c = make(2); let d = c;", 7, "num 1 0; num 2 0; num 3 0; copy 1 0; num 4 2; make 5 4; copy 2 5; copy 3 2")
}

func TestExprsOfBothStoreys(t *testing.T) {
	for _, c := range []struct {
		e    string
		regs int
		code string
	}{
		{"5", 4, "num 2 5"},
		{"0", 4, "num 2 0"},
		{"-7", 4, "num 2 -7"},
		{"2147483647", 4, "num 2 2147483647"},
		{"-2147483647", 4, "num 2 -2147483647"},
		{"a", 3, ""},
		{"b", 3, ""},
		{"(((b)))", 3, ""},
		{"a + b", 4, "add 2 0 1"},
		{"a - b", 4, "sub 2 0 1"},
		{"a * b", 4, "mul 2 0 1"},
		{"a < b", 4, "less 2 0 1"},
		{"a == b", 4, "same 2 0 1"},
		{"b - a", 4, "sub 2 1 0"},
		{"a + a", 4, "add 2 0 0"},
		{"b == b", 4, "same 2 1 1"},
		{"1 + 2", 6, "num 2 1; num 3 2; add 4 2 3"},
		{"1 + 1", 6, "num 2 1; num 3 1; add 4 2 3"},
		{"a - 2", 5, "num 2 2; sub 3 0 2"},
		{"2 - a", 5, "num 2 2; sub 3 2 0"},
		{"none()", 4, "call 2 none"},
		{"one(a)", 4, "call 2 one 0"},
		{"one(7)", 5, "num 2 7; call 3 one 2"},
		{"two(b, a)", 4, "call 2 two 1 0"},
		{"two(a, a)", 4, "call 2 two 0 0"},
		{"two(1, b)", 5, "num 2 1; call 3 two 2 1"},
		{"two(b, 1)", 5, "num 2 1; call 3 two 1 2"},
		{"four(4, b, 3, a)", 6, "num 2 4; num 3 3; call 4 four 2 1 3 0"},
		{"four(a, a, a, a)", 4, "call 2 four 0 0 0 0"},
		{"four(1, 2, 3, 4)", 8, "num 2 1; num 3 2; num 4 3; num 5 4; call 6 four 2 3 4 5"},
		{"(a + 1) * (b - 2)", 8, "num 2 1; add 3 0 2; num 4 2; sub 5 1 4; mul 6 3 5"},
		{"a + b * 3", 6, "num 2 3; mul 3 1 2; add 4 0 3"},
		{"a * b + 3", 6, "mul 2 0 1; num 3 3; add 4 2 3"},
		{"1 - 2 - 3", 8, "num 2 1; num 3 2; sub 4 2 3; num 5 3; sub 6 4 5"},
		{"1 - (2 - 3)", 8, "num 2 1; num 3 2; num 4 3; sub 5 3 4; sub 6 2 5"},
		{"(a < b) == (b < a)", 6, "less 2 0 1; less 3 1 0; same 4 2 3"},
		{"(a == b) < 1", 6, "same 2 0 1; num 3 1; less 4 2 3"},
		{"two(one(1), none() + a)", 8, "num 2 1; call 3 one 2; call 4 none; add 5 4 0; call 6 two 3 5"},
		{"one(one(one(b)))", 6, "call 2 one 1; call 3 one 2; call 4 one 3"},
		{"none() - one(none())", 7, "call 2 none; call 3 none; call 4 one 3; sub 5 2 4"},
	} {
		wantPlacesInBoth(t, "a, b", c.e+";", c.regs, c.code)
		wantHeld(t, false, c.e, c.regs, c.code)
		wantHeld(t, true, c.e, c.regs, c.code)
	}
}

// wantHeld is of an expr at statements that take one word: its places, and then theirs, with its register.
func wantHeld(t *testing.T, low bool, e string, regs int, code string) {
	t.Helper()
	at := strconv.Itoa(regs - 2)
	if code == "" {
		at = strconv.Itoa(strings.Index("ab", strings.Trim(e, "()")))
	} else {
		code += "; "
	}
	wantPlaces(t, low, "a, b", "return "+e+";", regs, code+"ret "+at)
	wantPlaces(t, low, "a, b", "b = "+e+";", regs, code+"copy 1 "+at)
	wantPlaces(t, low, "a, b", "if "+e+" { }", regs, code+"zero "+at+" 0; label 0")
	wantPlaces(t, low, "a, b", "while "+e+" { }", regs, "label 0; "+code+"zero "+at+" 1; jump 0; label 1")
	if low {
		wantPlaces(t, low, "a, b", "out "+e+";", regs, code+"out "+at)
		wantPlaces(t, low, "a, b", "halt "+e+";", regs, code+"halt "+at)
		wantPlaces(t, low, "a, b", "poke a, "+e+";", regs, code+"poke 0 "+at)
		wantPlaces(t, low, "a, b", "note "+e+", b;", regs, code+"note "+at+" 1")
		return
	}
	wantPlaces(t, low, "a, b", "print "+e+";", regs, code+"print "+at)
	wantPlaces(t, low, "a, b", "go one("+e+");", regs, code+"go one "+at)
	wantPlaces(t, low, "a, b", "go two(b, "+e+");", regs, code+"go two 1 "+at)
}

func TestExprsAboveAlone(t *testing.T) {
	wantPlaces(t, false, "a, b", "let c = make(3);", 6, "num 2 0; num 3 3; make 4 3; copy 2 4")
	wantPlaces(t, false, "a, b", "let c = make(a);", 5, "num 2 0; make 3 0; copy 2 3")
	wantPlaces(t, false, "a, b", "tell(make(a), b);", 5, "make 2 0; call 3 tell 2 1")
	wantPlaces(t, false, "a, b", "close make(1 + a);", 6, "num 2 1; add 3 2 0; make 4 3; close 4")
	wantPlaces(t, false, "a, b", "let c = make(a); tell(c, one(b));", 7, "num 2 0; make 3 0; copy 2 3; call 4 one 1; call 5 tell 2 4")
	wantPlaces(t, false, "a, b", "a = tell(make(tell(make(1), 2)), 3);", 10, "num 2 1; make 3 2; num 4 2; call 5 tell 3 4; make 6 5; num 7 3; call 8 tell 6 7; copy 0 8")
	wantPlaces(t, false, "c chan, a", "tell(c, a); tell(c, tell(c, a));", 6, "call 2 tell 0 1; call 3 tell 0 1; call 4 tell 0 3")
}

func TestExprsBelowAlone(t *testing.T) {
	for _, c := range []struct {
		e    string
		regs int
		code string
	}{
		{"peek(a)", 4, "peek 2 0"},
		{"peek(5)", 5, "num 2 5; peek 3 2"},
		{"peek(peek(b))", 5, "peek 2 1; peek 3 2"},
		{"cas(a, b, 7)", 5, "num 2 7; cas 3 0 1 2"},
		{"cas(a, 7, b)", 5, "num 2 7; cas 3 0 2 1"},
		{"cas(7, a, b)", 5, "num 2 7; cas 3 2 0 1"},
		{"cas(1, 2, 3)", 7, "num 2 1; num 3 2; num 4 3; cas 5 2 3 4"},
		{"cas(b, a, b)", 4, "cas 2 1 0 1"},
		{"cas(a, a, a)", 4, "cas 2 0 0 0"},
		{"core()", 4, "core 2"},
		{"core() + core()", 6, "core 2; core 3; add 4 2 3"},
		{"addr one", 4, "addr 2 one"},
		{"addr f", 4, "addr 2 f"},
		{"addr main", 4, "addr 2 main"},
		{"addr none < addr four", 6, "addr 2 none; addr 3 four; less 4 2 3"},
		{"peek(peek(a) + core())", 7, "peek 2 0; core 3; add 4 2 3; peek 5 4"},
		{"cas(peek(1), core(), addr none)", 8, "num 2 1; peek 3 2; core 4; addr 5 none; cas 6 3 4 5"},
		{"two(cas(a, b, a), peek(b))", 6, "cas 2 0 1 0; peek 3 1; call 4 two 2 3"},
		{"cas(0, 0, 1) == 0", 9, "num 2 0; num 3 0; num 4 1; cas 5 2 3 4; num 6 0; same 7 5 6"},
	} {
		wantPlaces(t, true, "a, b", c.e+";", c.regs, c.code)
		wantHeld(t, true, c.e, c.regs, c.code)
	}
}

// As deep as exprs may be: kids first, from the left, at each of their places.
func TestDeepExprsAreLowered(t *testing.T) {
	for deep := 1; deep <= 18; deep++ {
		left, right := vr("x"), vr("x")
		var leftCode, rightCode, ends []string
		r := 1
		for i := range deep - 1 {
			left = node(impl.NdSub, left, lit(i))
			right = node(impl.NdSub, lit(deep-2-i), right)
			was := 0
			if i > 0 {
				was = r - 1
			}
			leftCode = append(leftCode, "num "+strconv.Itoa(r)+" "+strconv.Itoa(i), "sub "+strconv.Itoa(r+1)+" "+strconv.Itoa(was)+" "+strconv.Itoa(r))
			r += 2
		}
		for i := range deep - 1 {
			rightCode = append(rightCode, "num "+strconv.Itoa(1+i)+" "+strconv.Itoa(i))
			inner := deep + i - 1
			if i == 0 {
				inner = 0
			}
			ends = append(ends, "sub "+strconv.Itoa(deep+i)+" "+strconv.Itoa(deep-1-i)+" "+strconv.Itoa(inner))
		}
		for what, k := range map[string]struct {
			e    impl.Node
			code []string
		}{"left": {left, leftCode}, "right": {right, append(rightCode, ends...)}} {
			last := strconv.Itoa(max(0, 2*deep-2))
			end := strconv.Itoa(2*deep - 1)
			want := strings.Join(append(k.code, "ret "+last, "num "+end+" 0", "ret "+end), "; ")
			list := []impl.Func{fn("f", []impl.Param{param("x")}, node(impl.NdReturn, k.e)), fn("main", nil)}
			got := checkLower(t, list, false)
			if len(got) != 2 || codeText(got[0].Code) != want || got[0].Regs != 2*deep {
				t.Errorf("%s %d deep is %.1000s, not %s", what, deep, unitsText(got), want)
			}
		}
	}
	for deep := 1; deep <= 22; deep++ {
		for what, e := range deepTrees(deep) {
			g := fn("g", []impl.Param{param("a")})
			if what == "last" {
				g.Params = []impl.Param{param("a"), param("b"), param("c")}
			}
			isLow := what == "peek" || what == "cas"
			list := []impl.Func{g, fn("main", nil, named(impl.NdLet, "x", lit(1)), named(impl.NdLet, "y", e))}
			got := checkLower(t, list, isLow)
			if fits := deep <= 18 && (what != "make" || deep <= 2); (len(got) == 2) != fits {
				t.Errorf("%s %d deep has %d units", what, deep, len(got))
			}
		}
	}
}

func TestLetsAndSets(t *testing.T) {
	for body, want := range map[string]struct {
		regs int
		code string
	}{
		"let x = 5;":                           {4, "num 1 0; num 2 5; copy 1 2"},
		"let x = 0;":                           {4, "num 1 0; num 2 0; copy 1 2"},
		"let x = a;":                           {3, "num 1 0; copy 1 0"},
		"a = 5;":                               {3, "num 1 5; copy 0 1"},
		"(a) = 5;":                             {3, "num 1 5; copy 0 1"},
		"a = a;":                               {2, "copy 0 0"},
		"a = a + 1;":                           {4, "num 1 1; add 2 0 1; copy 0 2"},
		"a = a; a = a;":                        {2, "copy 0 0; copy 0 0"},
		"a = one(a);":                          {3, "call 1 one 0; copy 0 1"},
		"a = 1; a = 2; return a;":              {4, "num 1 1; copy 0 1; num 2 2; copy 0 2; ret 0"},
		"let x = a; let y = x; x = y; y = y;":  {4, "num 1 0; num 2 0; copy 1 0; copy 2 1; copy 1 2; copy 2 2"},
		"let x = one(a); a = x * x;":           {5, "num 1 0; call 2 one 0; copy 1 2; mul 3 1 1; copy 0 3"},
		"let x = a + a; x = x - a; let y = x;": {6, "num 1 0; num 2 0; add 3 0 0; copy 1 3; sub 4 1 0; copy 1 4; copy 2 1"},
		"if a { let x = 1; } x = a; return x;": {4, "num 1 0; zero 0 0; num 2 1; copy 1 2; label 0; copy 1 0; ret 1"},
		"while a { let x = a; a = x; } a = x;": {3, "num 1 0; label 0; zero 0 1; copy 1 0; copy 0 1; jump 0; label 1; copy 0 1"},
		"let x = 1; let y = two(x, a); x = y;": {6, "num 1 0; num 2 0; num 3 1; copy 1 3; call 4 two 1 0; copy 2 4; copy 1 2"},
	} {
		wantPlacesInBoth(t, "a", body, want.regs, want.code)
	}
	wantPlaces(t, false, "a, c chan, d chan", "c = d; d = make(a); let e = c; e = e; c = e;", 6, "num 3 0; copy 1 2; make 4 0; copy 2 4; copy 3 1; copy 3 3; copy 1 3")
}

func TestIfs(t *testing.T) {
	for body, want := range map[string]struct {
		regs int
		code string
	}{
		"if a { }":                                              {3, "zero 0 0; label 0"},
		"if a { } else { }":                                     {3, "zero 0 0; jump 1; label 0; label 1"},
		"if a { b = a; }":                                       {3, "zero 0 0; copy 1 0; label 0"},
		"if a { b = a; } else { a = b; }":                       {3, "zero 0 0; copy 1 0; jump 1; label 0; copy 0 1; label 1"},
		"if a { } else { a = b; }":                              {3, "zero 0 0; jump 1; label 0; copy 0 1; label 1"},
		"if a { b = a; } else { }":                              {3, "zero 0 0; copy 1 0; jump 1; label 0; label 1"},
		"if a { b = 1; } else { b = 2; }":                       {5, "zero 0 0; num 2 1; copy 1 2; jump 1; label 0; num 3 2; copy 1 3; label 1"},
		"if a < b { }":                                          {4, "less 2 0 1; zero 2 0; label 0"},
		"if 0 { } if 1 { }":                                     {5, "num 2 0; zero 2 0; label 0; num 3 1; zero 3 1; label 1"},
		"if a { } else { } if b { } else { }":                   {3, "zero 0 0; jump 1; label 0; label 1; zero 1 2; jump 3; label 2; label 3"},
		"if a { } if b { } else { } if a { }":                   {3, "zero 0 0; label 0; zero 1 1; jump 2; label 1; label 2; zero 0 3; label 3"},
		"if a { if b { } }":                                     {3, "zero 0 0; zero 1 1; label 1; label 0"},
		"if a { if b { if a { } } }":                            {3, "zero 0 0; zero 1 1; zero 0 2; label 2; label 1; label 0"},
		"if a { if b { } } else { }":                            {3, "zero 0 0; zero 1 1; label 1; jump 2; label 0; label 2"},
		"if a { } else { if b { } }":                            {3, "zero 0 0; jump 1; label 0; zero 1 2; label 2; label 1"},
		"if a { if b { } } else { if b { } }":                   {3, "zero 0 0; zero 1 1; label 1; jump 2; label 0; zero 1 3; label 3; label 2"},
		"if a { } else { if b { } else { a; } }":                {3, "zero 0 0; jump 1; label 0; zero 1 2; jump 3; label 2; label 3; label 1"},
		"if a { return b; } else { return a; }":                 {3, "zero 0 0; ret 1; jump 1; label 0; ret 0; label 1"},
		"if one(a) { two(a, b); } else { none(); }":             {6, "call 2 one 0; zero 2 0; call 3 two 0 1; jump 1; label 0; call 4 none; label 1"},
		"if a { if b { } else { } } else { if b { } else { } }": {3, "zero 0 0; zero 1 1; jump 2; label 1; label 2; jump 3; label 0; zero 1 4; jump 5; label 4; label 5; label 3"},
		"if a { if b { } if b { } } else { b = a; }":            {3, "zero 0 0; zero 1 1; label 1; zero 1 2; label 2; jump 3; label 0; copy 1 0; label 3"},
	} {
		wantPlacesInBoth(t, "a, b", body, want.regs, want.code)
	}
}

func TestWhiles(t *testing.T) {
	for body, want := range map[string]struct {
		regs int
		code string
	}{
		"while a { }":                                    {3, "label 0; zero 0 1; jump 0; label 1"},
		"while 1 { }":                                    {4, "label 0; num 2 1; zero 2 1; jump 0; label 1"},
		"while a < b { a = a + 1; }":                     {6, "label 0; less 2 0 1; zero 2 1; num 3 1; add 4 0 3; copy 0 4; jump 0; label 1"},
		"while one(a) { }":                               {4, "label 0; call 2 one 0; zero 2 1; jump 0; label 1"},
		"while a { } while b { }":                        {3, "label 0; zero 0 1; jump 0; label 1; label 2; zero 1 3; jump 2; label 3"},
		"while a { while b { } }":                        {3, "label 0; zero 0 1; label 2; zero 1 3; jump 2; label 3; jump 0; label 1"},
		"while a { if b { } }":                           {3, "label 0; zero 0 1; zero 1 2; label 2; jump 0; label 1"},
		"while a { if b { } else { } }":                  {3, "label 0; zero 0 1; zero 1 2; jump 3; label 2; label 3; jump 0; label 1"},
		"while a { return b; }":                          {3, "label 0; zero 0 1; ret 1; jump 0; label 1"},
		"while a { while b { return a; } a = b; }":       {3, "label 0; zero 0 1; label 2; zero 1 3; ret 0; jump 2; label 3; copy 0 1; jump 0; label 1"},
		"while a { if b { return a; } else { b = 0; } }": {4, "label 0; zero 0 1; zero 1 2; ret 0; jump 3; label 2; num 2 0; copy 1 2; label 3; jump 0; label 1"},
		"if a { while b { } } else { while a { } }":      {3, "zero 0 0; label 1; zero 1 2; jump 1; label 2; jump 3; label 0; label 4; zero 0 5; jump 4; label 5; label 3"},
		"if a { } while b { } if a { } else { }":         {3, "zero 0 0; label 0; label 1; zero 1 2; jump 1; label 2; zero 0 3; jump 4; label 3; label 4"},
		"while a { while b { while a { } } }":            {3, "label 0; zero 0 1; label 2; zero 1 3; label 4; zero 0 5; jump 4; label 5; jump 2; label 3; jump 0; label 1"},
	} {
		wantPlacesInBoth(t, "a, b", body, want.regs, want.code)
	}
	wantPlaces(t, true, "a, b", "while cas(0, 0, 1) == 0 { }", 9, "label 0; num 2 0; num 3 0; num 4 1; cas 5 2 3 4; num 6 0; same 7 5 6; zero 7 1; jump 0; label 1")
}

// Labels, and values, are numbered in each unit anew.
func TestLabelsOfEachUnit(t *testing.T) {
	wantLoweredInBoth(t, "func f(a) { if a { } while a { } } func g(a, b) { while b { } if a { return 1; } else { } } func main() { if 1 { } }",
		"f 1 2: zero 0 0; label 0; label 1; zero 0 2; jump 1; label 2; num 1 0; ret 1",
		"g 2 4: label 0; zero 1 1; jump 0; label 1; zero 0 2; num 2 1; ret 2; jump 3; label 2; label 3; num 3 0; ret 3",
		"main 0 2: num 0 1; zero 0 0; label 0; num 1 0; ret 1")
}

// The end is there whatever stands ahead of it.
func TestReturns(t *testing.T) {
	wantLoweredInBoth(t, "func main() { return 3; }", "main 0 2: num 0 3; ret 0; num 1 0; ret 1")
	wantLoweredInBoth(t, "func main() { return 0; }", "main 0 2: num 0 0; ret 0; num 1 0; ret 1")
	wantLoweredInBoth(t, "func f(a) { return a; return a; } func main() { f(1); }", "f 1 2: ret 0; ret 0; num 1 0; ret 1", "main 0 3: num 0 1; call 1 f 0; num 2 0; ret 2")
	wantLoweredInBoth(t, "func main() { let x = 1; return x; x = 2; }", "main 0 4: num 0 0; num 1 1; copy 0 1; ret 0; num 2 2; copy 0 2; num 3 0; ret 3")
	wantLoweredInBoth(t, "func main() { return 1 + 2; return 3; 4; }", "main 0 6: num 0 1; num 1 2; add 2 0 1; ret 2; num 3 3; ret 3; num 4 4; num 5 0; ret 5")
	wantLoweredInBoth(t, "func main() { if 1 { return 2; } else { return 3; } }", "main 0 4: num 0 1; zero 0 0; num 1 2; ret 1; jump 1; label 0; num 2 3; ret 2; label 1; num 3 0; ret 3")
	wantLowered(t, "func f() { halt 1; }", true, "f 0 2: num 0 1; halt 0; num 1 0; ret 1")
}

func TestStatementsAbove(t *testing.T) {
	for body, want := range map[string]struct {
		regs int
		code string
	}{
		"print a;":                       {5, "print 0"},
		"print 7;":                       {6, "num 4 7; print 4"},
		"print a + 1;":                   {7, "num 4 1; add 5 0 4; print 5"},
		"print a; print b;":              {5, "print 0; print 1"},
		"a;":                             {5, ""},
		"a; b; a;":                       {5, ""},
		"a + b;":                         {6, "add 4 0 1"},
		"one(a);":                        {6, "call 4 one 0"},
		"go none();":                     {5, "go none"},
		"go one(b);":                     {5, "go one 1"},
		"go two(1, a + b);":              {7, "num 4 1; add 5 0 1; go two 4 5"},
		"go four(a, 2, b, 3);":           {7, "num 4 2; num 5 3; go four 0 4 1 5"},
		"go tell(c, a);":                 {5, "go tell 2 0"},
		"go tell(make(1), 2);":           {8, "num 4 1; make 5 4; num 6 2; go tell 5 6"},
		"go f(a, b, c, d);":              {5, "go f 0 1 2 3"},
		"go main();":                     {5, "go main"},
		"send c, a;":                     {5, "send 2 0"},
		"send d, b;":                     {5, "send 3 1"},
		"send c, a * b;":                 {6, "mul 4 0 1; send 2 4"},
		"send make(a), one(b);":          {7, "make 4 0; call 5 one 1; send 4 5"},
		"recv a, c;":                     {6, "recv 4 2; copy 0 4"},
		"recv b, make(2);":               {8, "num 4 2; make 5 4; recv 6 5; copy 1 6"},
		"recv a, c; recv a, d;":          {7, "recv 4 2; copy 0 4; recv 5 3; copy 0 5"},
		"close d;":                       {5, "close 3"},
		"close make(0);":                 {7, "num 4 0; make 5 4; close 5"},
		"c = d;":                         {5, "copy 2 3"},
		"c = make(a);":                   {6, "make 4 0; copy 2 4"},
		"let x = c; close x;":            {6, "num 4 0; copy 4 2; close 4"},
		"let x = 0; recv x, c; print x;": {8, "num 4 0; num 5 0; copy 4 5; recv 6 2; copy 4 6; print 4"},
		"go one(1); send c, 2; close c;": {7, "num 4 1; go one 4; num 5 2; send 2 5; close 2"},
		"if a { send c, a; } else { recv a, c; }":      {6, "zero 0 0; send 2 0; jump 1; label 0; recv 4 2; copy 0 4; label 1"},
		"while tell(c, a) { print a; go tell(d, b); }": {6, "label 0; call 4 tell 2 0; zero 4 1; print 0; go tell 3 1; jump 0; label 1"},
	} {
		wantPlaces(t, false, "a, b, c chan, d chan", body, want.regs, want.code)
	}
}

func TestStatementsBelow(t *testing.T) {
	for body, want := range map[string]struct {
		regs int
		code string
	}{
		"poke a, b;":                            {3, "poke 0 1"},
		"poke b, a;":                            {3, "poke 1 0"},
		"poke 1, a + b;":                        {5, "num 2 1; add 3 0 1; poke 2 3"},
		"poke a + b, 1;":                        {5, "add 2 0 1; num 3 1; poke 2 3"},
		"note b, a;":                            {3, "note 1 0"},
		"note peek(a), 2;":                      {5, "peek 2 0; num 3 2; note 2 3"},
		"swap a, a;":                            {3, "swap 0 0"},
		"swap core(), cas(a, b, a);":            {5, "core 2; cas 3 0 1 0; swap 2 3"},
		"halt a;":                               {3, "halt 0"},
		"halt 1;":                               {4, "num 2 1; halt 2"},
		"out b;":                                {3, "out 1"},
		"out addr f;":                           {4, "addr 2 f; out 2"},
		"poke peek(a), peek(b);":                {5, "peek 2 0; peek 3 1; poke 2 3"},
		"if peek(a) { halt a; } out b;":         {4, "peek 2 0; zero 2 0; halt 0; label 0; out 1"},
		"let c = core(); poke c, c; swap c, a;": {5, "num 2 0; core 3; copy 2 3; poke 2 2; swap 2 0"},
		"while core() { note a, b; halt core(); }": {5, "label 0; core 2; zero 2 1; note 0 1; core 3; halt 3; jump 0; label 1"},
	} {
		wantPlaces(t, true, "a, b", body, want.regs, want.code)
	}
}

func TestSelects(t *testing.T) {
	for body, want := range map[string]struct {
		regs int
		code string
	}{
		"select { case recv a, c { } }":          {9, "select 4 5 0 1 2 0; num 6 0; same 7 4 6; zero 7 1; copy 0 5; jump 0; label 1; label 0"},
		"select { case send c, a { } }":          {9, "select 4 5 0 2 2 0; num 6 0; same 7 4 6; zero 7 1; jump 0; label 1; label 0"},
		"select { case send d, b { print a; } }": {9, "select 4 5 0 2 3 1; num 6 0; same 7 4 6; zero 7 1; print 0; jump 0; label 1; label 0"},
		"select { case recv b, d { print b; } default { print 9; } }": {12,
			"select 4 5 1 1 3 0; num 6 0; same 7 4 6; zero 7 1; copy 1 5; print 1; jump 0; label 1; num 8 1; same 9 4 8; zero 9 2; num 10 9; print 10; jump 0; label 2; label 0"},
		"select { case recv a, c { } case send c, b { } }": {11,
			"select 4 5 0 1 2 0 2 2 1; num 6 0; same 7 4 6; zero 7 1; copy 0 5; jump 0; label 1; num 8 1; same 9 4 8; zero 9 2; jump 0; label 2; label 0"},
		"select { case send c, 5 { } case recv a, make(6) { } }": {14,
			"num 4 5; num 5 6; make 6 5; select 7 8 0 2 2 4 1 6 0; num 9 0; same 10 7 9; zero 10 1; jump 0; label 1; num 11 1; same 12 7 11; zero 12 2; copy 0 8; jump 0; label 2; label 0"},
		"select { case send make(1), a + b { } case recv a, c { } case send d, one(7) { } default { } }": {20,
			"num 4 1; make 5 4; add 6 0 1; num 7 7; call 8 one 7; select 9 10 1 2 5 6 1 2 0 2 3 8; num 11 0; same 12 9 11; zero 12 1; jump 0; label 1; num 13 1; same 14 9 13; zero 14 2; copy 0 10; jump 0; label 2; " +
				"num 15 2; same 16 9 15; zero 16 3; jump 0; label 3; num 17 3; same 18 9 17; zero 18 4; jump 0; label 4; label 0"},
		"select { case recv a, c { a = b; } case recv b, c { b = a; } case recv a, d { return a; } }": {13,
			"select 4 5 0 1 2 0 1 2 0 1 3 0; num 6 0; same 7 4 6; zero 7 1; copy 0 5; copy 0 1; jump 0; label 1; num 8 1; same 9 4 8; zero 9 2; copy 1 5; copy 1 0; jump 0; label 2; num 10 2; same 11 4 10; zero 11 3; copy 0 5; ret 0; jump 0; label 3; label 0"},
		"select { case recv a, c { select { case send d, a { b = 1; } } } case recv b, d { } }": {16,
			"select 4 5 0 1 2 0 1 3 0; num 6 0; same 7 4 6; zero 7 1; copy 0 5; select 8 9 0 2 3 0; num 10 0; same 11 8 10; zero 11 3; num 12 1; copy 1 12; jump 2; label 3; label 2; jump 0; label 1; num 13 1; same 14 4 13; zero 14 4; copy 1 5; jump 0; label 4; label 0"},
		"select { case send c, a { } default { select { case recv b, c { } default { } } } }": {17,
			"select 4 5 1 2 2 0; num 6 0; same 7 4 6; zero 7 1; jump 0; label 1; num 8 1; same 9 4 8; zero 9 2; select 10 11 1 1 2 0; num 12 0; same 13 10 12; zero 13 4; copy 1 11; jump 3; label 4; num 14 1; same 15 10 14; zero 15 5; jump 3; label 5; label 3; jump 0; label 2; label 0"},
		"while a { select { case recv a, c { if b { return a; } } default { } } }": {11,
			"label 0; zero 0 1; select 4 5 1 1 2 0; num 6 0; same 7 4 6; zero 7 3; copy 0 5; zero 1 4; ret 0; label 4; jump 2; label 3; num 8 1; same 9 4 8; zero 9 5; jump 2; label 5; label 2; jump 0; label 1"},
		"select { case send c, a { } } select { case recv a, c { } }": {13,
			"select 4 5 0 2 2 0; num 6 0; same 7 4 6; zero 7 1; jump 0; label 1; label 0; select 8 9 0 1 2 0; num 10 0; same 11 8 10; zero 11 3; copy 0 9; jump 2; label 3; label 2"},
		"select { case send c, a { while b { } } default { if a { } else { } } }": {11,
			"select 4 5 1 2 2 0; num 6 0; same 7 4 6; zero 7 1; label 2; zero 1 3; jump 2; label 3; jump 0; label 1; num 8 1; same 9 4 8; zero 9 4; zero 0 5; jump 6; label 5; label 6; jump 0; label 4; label 0"},
	} {
		wantPlaces(t, false, "a, b, c chan, d chan", body, want.regs, want.code)
	}
}

// One to three cases, takes and gives in each order, with and without a default, with exprs that need places and exprs that need none.
func TestSelectsOfEachOrderAreLowered(t *testing.T) {
	met := 0
	for count := 1; count <= 3; count++ {
		for kinds := range 1 << count {
			for last := range 2 {
				for exprs := range 3 {
					n := node(impl.NdSelect)
					for i := range count {
						channel, value := []impl.Node{vr("c"), vr("d"), vr("c")}[i], []impl.Node{vr("b"), vr("a"), vr("a")}[i]
						if exprs == 1 || exprs == 2 && i == 1 {
							channel, value = node(impl.NdMake, lit(i)), node(impl.NdAdd, value, lit(10+i))
						}
						block := blk(slices.Repeat([]impl.Node{node(impl.NdPrint, vr("a"))}, i)...)
						if kinds>>i&1 == 1 {
							n.Kids = append(n.Kids, node(impl.NdGive, channel, value, block))
						} else {
							n.Kids = append(n.Kids, named(impl.NdTake, "ba"[i%2:i%2+1], channel, block))
						}
					}
					if last == 1 {
						n.Kids = append(n.Kids, node(impl.NdElse, blk(node(impl.NdReturn, vr("b")))))
					}
					f := fn("f", []impl.Param{param("a"), param("b"), channel("c"), channel("d")}, n)
					got := checkLower(t, []impl.Func{f, fn("main", nil)}, false)
					if len(got) != 2 {
						t.Fatalf("%d cases are not lowered", count)
					}
					at := slices.IndexFunc(got[0].Code, func(x impl.Tac) bool { return x.Op == impl.TcSelect })
					if x := got[0].Code[at]; x.N != last || len(x.Args) != 3*count || exprs == 0 && at != 0 || len(labelsOf(got[0])) != count+last+1 {
						t.Errorf("%d cases are %s", count, unitText(got[0]))
					}
					met++
				}
			}
		}
	}
	if met != 84 {
		t.Errorf("%d selects", met)
	}
}

// A default alone is no case, and four cases are too many: Check has CkMany for both.
func TestSelectsThatAreNotLowered(t *testing.T) {
	give := "case send c, 1 { } "
	for body, code := range map[string]int{
		"select { }": impl.CkMany, "select { default { } }": impl.CkMany, "select { default { print 1; } }": impl.CkMany,
		"select { " + strings.Repeat(give, 3) + "}": impl.CkDone, "select { " + strings.Repeat(give, 3) + "default { } }": impl.CkDone,
		"select { " + strings.Repeat(give, 4) + "}": impl.CkMany, "select { " + strings.Repeat(give, 4) + "default { } }": impl.CkMany,
		"while 1 { select { case send c, 1 { select { default { } } } } }": impl.CkMany,
	} {
		list := parsed(t, "func f(c chan) { "+body+" }"+mainText)
		if got := impl.Check(list, false); got != code {
			t.Errorf("%q is %d, not %d", body, got, code)
		}
		if got := checkLower(t, list, false); (len(got) > 0) != (code == impl.CkDone) {
			t.Errorf("%q has %d units", body, len(got))
		}
	}
}

func repeated(count int, list ...impl.Node) []impl.Node { return slices.Repeat(list, count) }

// wantFits is of a function, alone with main and among others: whether it becomes a unit, and where it does not, nobody does.
func wantFits(t *testing.T, f impl.Func, low, fits bool) impl.Unit {
	t.Helper()
	small := []impl.Func{fn("small", []impl.Param{param("a")}, node(impl.NdReturn, vr("a"))), fn("main", nil)}
	lists := [][]impl.Func{{f, small[1]}, {small[0], f, small[1]}, {f, small[0], small[1]}}
	if low {
		lists = append(lists, []impl.Func{f}, []impl.Func{small[0], f}, []impl.Func{small[0], small[1], f})
	}
	var unit impl.Unit
	for _, list := range lists {
		if impl.Check(list, low) != impl.CkDone {
			t.Fatalf("%s is not checked", clip(list))
		}
		got := checkLower(t, list, low)
		if fits && len(got) != len(list) || !fits && len(got) != 0 {
			t.Errorf("%s is %d units, and fits: %v", clip(list), len(got), fits)
		}
		for _, u := range got {
			if u.Name == f.Name {
				unit = u
			}
		}
	}
	return unit
}

func TestHowManyRegistersAUnitMayUse(t *testing.T) {
	a := []impl.Param{param("a")}
	sum := func(count int) []impl.Node {
		return repeated(count, node(impl.NdDo, node(impl.NdAdd, vr("a"), vr("a"))))
	}
	for count := 240; count <= 260; count++ {
		// One Param, one for each sum, one for the end.
		if u := wantFits(t, fn("f", a, sum(count)...), false, count+2 <= 250); count+2 <= 250 && (u.Regs != count+2 || len(u.Code) != count+2) {
			t.Errorf("%d sums are %s", count, clip(u))
		}
		wantFits(t, fn("f", a, sum(count)...), true, count+2 <= 250)
		// Vars take theirs, whether they are used or not.
		for lets := range 8 {
			f := fn("f", a)
			for i := range lets {
				f.Body.Kids = append(f.Body.Kids, named(impl.NdLet, "l"+string(rune('a'+i)), vr("a")))
			}
			f.Body.Kids = append(f.Body.Kids, sum(count)...)
			if u := wantFits(t, f, false, count+lets+2 <= 250); count+lets+2 == 250 && u.Regs != 250 {
				t.Errorf("%d sums and %d lets are %s", count, lets, clip(u))
			}
		}
	}
	// What uses registers of its own: the end's is the last one.
	for what, k := range map[string]struct {
		n    impl.Node
		uses int
	}{
		"number": {node(impl.NdDo, lit(1)), 1}, "call": {node(impl.NdDo, named(impl.NdCall, "one", vr("a"))), 1}, "copy": {named(impl.NdSet, "a", vr("a")), 0}, "if": {node(impl.NdIf, vr("a"), blk()), 0}, "while": {node(impl.NdWhile, lit(1), blk()), 1},
		"make": {named(impl.NdSet, "c", node(impl.NdMake, vr("a"))), 1}, "recv": {named(impl.NdRecv, "a", vr("c")), 1}, "send": {node(impl.NdSend, vr("c"), vr("a")), 0},
		"select": {node(impl.NdSelect, named(impl.NdTake, "a", vr("c"), blk())), 4}, "default": {node(impl.NdSelect, node(impl.NdGive, vr("c"), lit(1), blk()), node(impl.NdElse, blk())), 7},
	} {
		for regs := 245; regs <= 255; regs++ {
			fill := regs - 3 - k.uses
			list := []impl.Func{fn("one", a), fn("f", []impl.Param{param("a"), channel("c")}, append(sum(fill), k.n)...), fn("main", nil)}
			got := checkLower(t, list, false)
			if fits := regs <= 250; fits && (len(got) != 3 || got[1].Regs != regs) || !fits && len(got) != 0 {
				t.Errorf("%s at %d registers is %d units", what, regs, len(got))
			}
		}
	}
	// The same by one expr.
	wide := lit(1)
	for range 6 {
		wide = node(impl.NdAdd, wide, wide)
	}
	wantFits(t, fn("f", a, node(impl.NdDo, wide), node(impl.NdDo, node(impl.NdAdd, vr("a"), vr("a")))), true, true)
	wantFits(t, fn("f", a, node(impl.NdDo, node(impl.NdAdd, wide, wide))), true, false)
}

func TestHowManyPlacesAUnitMayTake(t *testing.T) {
	a := []impl.Param{param("a")}
	moves := func(count int) []impl.Node { return repeated(count, named(impl.NdSet, "a", vr("a"))) }
	for count := 890; count <= 905; count++ {
		if u := wantFits(t, fn("f", a, moves(count)...), false, count+2 <= 900); count+2 == 900 && (len(u.Code) != 900 || u.Regs != 2) {
			t.Errorf("%d copies are %s", count, clip(u))
		}
		wantFits(t, fn("f", a, moves(count)...), true, count+2 <= 900)
	}
	// What takes places of its own: at the beginning, in the middle, and at the end.
	for what, k := range map[string]struct {
		n     impl.Node
		takes int
	}{
		"nothing": {node(impl.NdDo, vr("a")), 0}, "return": {node(impl.NdReturn, vr("a")), 1}, "let": {named(impl.NdLet, "x", lit(1)), 3}, "if": {node(impl.NdIf, vr("a"), blk()), 2}, "else": {node(impl.NdIf, vr("a"), blk(), blk()), 4},
		"while": {node(impl.NdWhile, vr("a"), blk()), 4}, "recv": {named(impl.NdRecv, "a", vr("c")), 2}, "print": {node(impl.NdPrint, lit(7)), 2}, "go": {named(impl.NdGo, "main"), 1},
		"select": {node(impl.NdSelect, named(impl.NdTake, "a", vr("c"), blk())), 8}, "default": {node(impl.NdSelect, node(impl.NdGive, vr("c"), vr("a"), blk()), node(impl.NdElse, blk())), 12},
	} {
		for places := 896; places <= 904; places++ {
			for ahead := range 3 {
				all := moves(places - 2 - k.takes)
				body := slices.Insert(all, ahead*len(all)/2, k.n)
				got := checkLower(t, []impl.Func{fn("f", []impl.Param{param("a"), channel("c")}, body...), fn("main", nil)}, false)
				if fits := places <= 900; fits && (len(got) != 2 || len(got[0].Code) != places) || !fits && len(got) != 0 {
					t.Errorf("%s at %d places is %d units", what, places, len(got))
				}
			}
		}
	}
}

// Each label is a place, and so is what goes to it: the greatest one is reached where places are.
func TestTheGreatestLabelOfAUnit(t *testing.T) {
	a := []impl.Param{param("a")}
	for what, k := range map[string]struct {
		n      impl.Node
		takes  int
		labels int
	}{
		"if": {node(impl.NdIf, vr("a"), blk()), 2, 1}, "else": {node(impl.NdIf, vr("a"), blk(), blk()), 4, 2}, "while": {node(impl.NdWhile, vr("a"), blk()), 4, 2},
		"both": {node(impl.NdWhile, vr("a"), blk(node(impl.NdIf, vr("a"), blk(node(impl.NdIf, vr("a"), blk()))))), 8, 4},
	} {
		most := 898 / k.takes
		for count := most - 3; count <= most+3; count++ {
			u := wantFits(t, fn("f", a, repeated(count, k.n)...), false, count <= most)
			if count <= most && (len(labelsOf(u)) != count*k.labels || slices.Max(labelsOf(u)) != count*k.labels-1) {
				t.Errorf("%s: %d of them have %d labels", what, count, len(labelsOf(u)))
			}
		}
	}
	if u := wantFits(t, fn("f", a, repeated(449, node(impl.NdIf, vr("a"), blk()))...), true, true); slices.Max(labelsOf(u)) != 448 || len(u.Code) != 900 {
		t.Errorf("the greatest label is in %s", clip(u))
	}
	// All within each other: labels are made on the way in, and stand on the way out.
	n := node(impl.NdIf, vr("a"), blk())
	for range 8 {
		n = node(impl.NdIf, vr("a"), blk(n))
	}
	u := wantFits(t, fn("f", a, n), false, true)
	if got := labelsOf(u); !slices.Equal(got, []int{8, 7, 6, 5, 4, 3, 2, 1, 0}) {
		t.Errorf("the labels stand as %v", got)
	}
}

// One of 40 is beyond: nothing at all, whichever it is.
func TestOneFunctionIsBeyond(t *testing.T) {
	beyond := map[string][]impl.Node{
		"regs":   repeated(249, node(impl.NdDo, node(impl.NdAdd, vr("a"), vr("a")))),
		"places": repeated(899, named(impl.NdSet, "a", vr("a"))),
		"labels": repeated(450, node(impl.NdIf, vr("a"), blk())),
	}
	for what, body := range beyond {
		for at := range 40 {
			var list []impl.Func
			for i := range 40 {
				list = append(list, fn(letterName(i), []impl.Param{param("a")}, node(impl.NdReturn, vr("a"))))
			}
			list[at].Body = blk(body[1:]...)
			if got := impl.Lower(list, true); len(got) != 40 || !impl.UnitsOk(got) {
				t.Errorf("%s: with one of 40 at its limit there are %d units", what, len(got))
			}
			list[at].Body = blk(body...)
			if got := impl.Lower(list, true); len(got) != 0 {
				t.Errorf("%s: with function %d beyond there are %d units", what, at, len(got))
			}
		}
	}
}

func TestDrawnProgramsAreLowered(t *testing.T) {
	met := map[int]int{}
	for _, low := range []bool{false, true} {
		d := &rightDrawer{drawer: newDrawer(111), low: low}
		for range 2000 {
			list := d.program()
			got := checkLower(t, list, low)
			if len(got) != len(list) {
				t.Errorf("%.300q has %d units", impl.Write(list), len(got))
			}
			for _, u := range got {
				for _, x := range u.Code {
					met[x.Op]++
				}
			}
			checkLower(t, list, !low)
		}
	}
	for _, f := range tacForms {
		if met[f.op] < 100 {
			t.Errorf("the op %d is met %d times", f.op, met[f.op])
		}
	}
}

// grow puts statements of a function behind it again and again, but for those that would be Vars twice.
func (d *rightDrawer) grow(f *impl.Func, count int) {
	var lines []impl.Node
	for _, n := range nodesOf(f.Body) {
		if n.Op > impl.NdBlock && n.Op <= impl.NdDo && len(nodesOfOp(impl.Func{Body: n}, impl.NdLet)) == 0 {
			lines = append(lines, n)
		}
	}
	f.Body.Kids = slices.Clip(f.Body.Kids)
	for range count {
		if len(lines) > 0 {
			f.Body.Kids = append(f.Body.Kids, cloneNode(lines[d.IntN(len(lines))]))
		}
	}
}

// Programs about each limit: a tree that is checked becomes a unit that is right, or nothing is told.
func TestDrawnProgramsAboutTheLimits(t *testing.T) {
	for _, low := range []bool{false, true} {
		d := &rightDrawer{drawer: newDrawer(112), low: low}
		fits, beyond := 0, 0
		for range 600 {
			list := d.program()
			for range 1 + d.IntN(2) {
				d.grow(&list[d.IntN(len(list))], d.IntN(260))
			}
			if got := checkLower(t, list, low); len(got) > 0 {
				fits++
			} else {
				beyond++
			}
		}
		if fits < 100 || beyond < 100 {
			t.Errorf("with low %v %d fit, %d are beyond", low, fits, beyond)
		}
	}
}

func TestDrawnProgramsWithFaultsAreNotLowered(t *testing.T) {
	for _, low := range []bool{false, true} {
		d := &rightDrawer{drawer: newDrawer(113), low: low}
		met := make([]int, 8)
		for range 3000 {
			list := d.program()
			for range 1 + d.IntN(3) {
				list = d.turn(list)
			}
			if d.IntN(20) == 0 {
				d.spoilOne(list)
			}
			code := impl.Check(list, low)
			met[code]++
			if got := checkLower(t, list, low); len(got) > 0 != (code == impl.CkDone && len(list) > 0) {
				t.Errorf("%.300q is %d, and has %d units", impl.Write(list), code, len(got))
			}
		}
		for code, count := range met {
			if never := code == impl.CkMain && low; count < 15 && !never {
				t.Errorf("code %d is met %d times with low %v: %v", code, count, low, met)
			}
		}
	}
}

// wantUnitsReckonTheSame is of units that are made of those functions: run with some words, each answers and prints what Eval tells of its tree, where that is done; and how many of them are, and print.
func (d *runDrawer) wantUnitsReckonTheSame(t *testing.T, list []impl.Func, units []impl.Unit) (done, printed int) {
	t.Helper()
	for _, f := range list {
		args := d.args(f)
		want := impl.Eval(list, f.Name, args, 20000)
		if want.Code != impl.EvDone {
			continue
		}
		r := &unitRun{list: units, left: 200000}
		if value := r.run(f.Name, args); value != want.Value || !slices.Equal(r.out, want.Out) {
			t.Errorf("%s of %.300q with %v is %d and prints %s, and is %s as trees", f.Name, impl.Write(list), args, value, clip(r.out), clip(want))
		}
		done++
		printed += min(len(want.Out), 1)
	}
	return done, printed
}

// What is lowered and run, place by place, is what the trees reckon: what is printed, and what is told.
func TestWhatIsLoweredReckonsTheSame(t *testing.T) {
	d := &runDrawer{drawer: newDrawer(114)}
	done, printed := 0, 0
	for range 1500 {
		list := d.program()
		if units := impl.Lower(list, false); len(units) > 0 {
			some, prints := d.wantUnitsReckonTheSame(t, list, units)
			done, printed = done+some, printed+prints
		}
	}
	if done < 1500 || printed < 800 {
		t.Errorf("%d are done, %d print", done, printed)
	}
}

func TestNumbersAreLoweredAsTheyAre(t *testing.T) {
	for _, n := range edges() {
		list := []impl.Func{fn("main", nil, node(impl.NdReturn, lit(n)))}
		for _, low := range []bool{false, true} {
			got := checkLower(t, list, low)
			if right := n > least && n <= greatest; right && (len(got) != 1 || codeText(got[0].Code) != "num 0 "+strconv.Itoa(n)+"; ret 0; num 1 0; ret 1") || !right && len(got) != 0 {
				t.Errorf("of %d there is %q", n, unitsText(got))
			}
		}
	}
	for _, s := range append(goodNames(), badNames()...) {
		list := []impl.Func{fn(s, []impl.Param{param("a")}), fn("g", []impl.Param{param(s)}, named(impl.NdLet, "y", vr(s)), node(impl.NdDo, named(impl.NdCall, s, vr(s)))), fn("main", nil)}
		for _, low := range []bool{false, true} {
			got := checkLower(t, list, low)
			if right := slices.Contains(goodNames(), s) && s != "g" && s != "y" && s != "main"; right && (len(got) != 3 || got[0].Name != s || unitText(got[1]) != "g 1 4: num 1 0; copy 1 0; call 2 "+s+" 0; num 3 0; ret 3") || !right && len(got) != 0 {
				t.Errorf("of %.60q there is %.300q", s, unitsText(got))
			}
		}
	}
}

// Trees that are far larger than a unit may be, and texts that are far longer than a name: every call answers.
func TestLowerOfLargeTrees(t *testing.T) {
	const count = 200000
	sum := lit(1)
	for range 16 {
		sum = node(impl.NdAdd, sum, sum)
	}
	var params []impl.Param
	for i := range count {
		params = append(params, param(letterName(i)))
	}
	select1 := node(impl.NdSelect, node(impl.NdGive, node(impl.NdMake, lit(1)), lit(2), blk()))
	long := strings.Repeat("a", 5000000)
	for what, f := range map[string]impl.Func{
		"returns":     fn("main", nil, repeated(count, node(impl.NdReturn, lit(4)))...),
		"ifs":         fn("main", nil, repeated(count, node(impl.NdIf, lit(4), blk()))...),
		"whiles":      fn("main", nil, repeated(count, node(impl.NdWhile, lit(4), blk()))...),
		"selects":     fn("main", nil, repeated(count, select1)...),
		"a large sum": fn("main", nil, node(impl.NdDo, sum)),
		"sums":        fn("main", nil, repeated(30, node(impl.NdDo, sum))...),
		"one block":   fn("main", nil, node(impl.NdIf, lit(1), blk(repeated(count, named(impl.NdGo, "main"))...), blk())),
		"params":      fn("main", params),
		"args":        fn("main", nil, named(impl.NdGo, "main", repeated(count, lit(1))...)),
		"cases":       fn("main", nil, node(impl.NdSelect, repeated(count, select1.Kids[0])...)),
		"a long name": fn("main", nil, named(impl.NdLet, long, lit(1))),
		"a long call": fn("main", nil, node(impl.NdDo, named(impl.NdCall, long))),
	} {
		for _, low := range []bool{false, true} {
			if got := impl.Lower([]impl.Func{f}, low); len(got) != 0 {
				t.Errorf("%s: %s", what, clip(got))
			}
			if got := impl.Lower([]impl.Func{fn("ahead", nil), f}, low); len(got) != 0 {
				t.Errorf("%s behind another one: %s", what, clip(got))
			}
		}
	}
	if got := impl.Lower([]impl.Func{fn("main", nil, repeated(count, node(impl.NdDo, lit(1)))[:248]...)}, true); len(got) != 1 || got[0].Regs != 249 {
		t.Errorf("a piece of a long list is %s", clip(got))
	}
	// Statements that become no place at all.
	f := fn("f", []impl.Param{param("a")}, repeated(count, node(impl.NdDo, vr("a")))...)
	if got := impl.Lower([]impl.Func{f}, true); unitsText(got) != "f 1 2: num 1 0; ret 1\n" {
		t.Errorf("what does nothing is %s", clip(got))
	}
}

func TestLowerOfDeepTrees(t *testing.T) {
	for _, deep := range []int{8, 9, 10, 11, 100, 100000} {
		n := node(impl.NdReturn, lit(6))
		for range deep {
			n = node(impl.NdWhile, lit(1), blk(n))
		}
		got := impl.Lower([]impl.Func{fn("main", nil, n)}, false)
		if fits := 2*deep+3 <= 20; fits && (len(got) != 1 || len(labelsOf(got[0])) != 2*deep) || !fits && len(got) != 0 {
			t.Errorf("whiles %d deep are %s", deep, clip(got))
		}
	}
	within := []impl.Node{{Op: impl.NdReturn}}
	within[0].Kids = within
	twice := lit(1)
	for range 200 {
		twice = node(impl.NdMul, twice, twice)
	}
	for _, n := range []impl.Node{within[0], node(impl.NdReturn, twice)} {
		for _, low := range []bool{false, true} {
			if got := impl.Lower([]impl.Func{fn("main", nil, n)}, low); len(got) != 0 {
				t.Errorf("what is far too deep is %s", clip(got))
			}
		}
	}
}

func TestLowerWithListsThatAreEmptyAndNil(t *testing.T) {
	lists := listsForCheck()
	high, low := doneTexts()
	for _, src := range slices.Concat(high, low) {
		lists = append(lists, parsed(t, src))
	}
	for _, list := range lists {
		wantHigh, wantLow := impl.Lower(list, false), impl.Lower(list, true)
		for _, empty := range [][]impl.Node{nil, {}, make([]impl.Node, 0, 4), make([]impl.Node, 4)[4:]} {
			for _, none := range [][]impl.Param{nil, {}, make([]impl.Param, 0, 2)} {
				other := slices.Clone(list)
				for i, f := range other {
					other[i].Body = withEmpty(f.Body, empty)
					if len(f.Params) == 0 {
						other[i].Params = none
					}
				}
				if !slices.EqualFunc(impl.Lower(other, false), wantHigh, sameUnit) || !slices.EqualFunc(impl.Lower(other, true), wantLow, sameUnit) {
					t.Errorf("%s is lowered otherwise with lists that are empty", clip(list))
				}
			}
		}
	}
	for _, list := range [][]impl.Func{make([]impl.Func, 1), make([]impl.Func, 41), {{Name: "main"}}, {{Name: "main", Body: impl.Node{Op: impl.NdSelect}}}} {
		wantNotLowered(t, list, false)
		wantNotLowered(t, list, true)
	}
}

// listsForLower are those for Check, and some more that become units.
func listsForLower() [][]impl.Func {
	out := listsForCheck()
	high, low := doneTexts()
	for _, src := range append(slices.Concat(high, low),
		amongOthers("a, b, c chan, d chan", "select { case send make(1), a + b { } case recv a, c { two(a, b); } case send d, one(7) { } default { go four(1, 2, 3, 4); } } tell(c, tell(d, 1));", false),
		amongOthers("a, b", "cas(a, b, cas(1, 2, 3)); four(a, b, a, b); return two(addr f, addr main);", true)) {
		list, _ := impl.Parse(src)
		out = append(out, list)
	}
	for _, low := range []bool{false, true} {
		d := &rightDrawer{drawer: newDrawer(115), low: low}
		for range 60 {
			out = append(out, d.program())
		}
	}
	return out
}

func TestLowerWritesNowhere(t *testing.T) {
	for _, list := range listsForLower() {
		for _, low := range []bool{false, true} {
			want := impl.Lower(list, low)
			roomy := withRoomBehind(list)
			kept := cloneFuncs(roomy)
			if got := impl.Lower(roomy, low); !slices.EqualFunc(got, want, sameUnit) {
				t.Errorf("%s is lowered otherwise with room behind its lists", clip(list))
			}
			if !slices.EqualFunc(roomy, kept, sameFunc) || !roomBehindIsKept(roomy) {
				t.Errorf("%s is written into", clip(list))
			}
		}
	}
}

func TestLowerAnswersTheSameAgain(t *testing.T) {
	lists := listsForLower()
	for i, list := range lists {
		for _, low := range []bool{false, true} {
			want := cloneUnits(impl.Lower(list, low))
			for range 3 {
				impl.Lower(lists[(i+1)%len(lists)], low)
				impl.Lower(list, !low)
				if got := impl.Lower(list, low); !slices.EqualFunc(got, want, sameUnit) {
					t.Errorf("%s is lowered otherwise when it is asked again", clip(list))
				}
			}
		}
	}
}

// piece is where something lies in memory, with its spare room.
type piece struct{ from, to uintptr }

func pieceOf[T any](list []T) piece {
	var one T
	from := uintptr(unsafe.Pointer(unsafe.SliceData(list)))
	return piece{from, from + uintptr(cap(list))*unsafe.Sizeof(one)}
}

func pieceOfText(s string) piece {
	from := uintptr(unsafe.Pointer(unsafe.StringData(s)))
	return piece{from, from + uintptr(len(s))}
}

// apart is whether no two pieces share anything; empty ones share nothing.
func apart(list []piece) bool {
	all := slices.DeleteFunc(slices.Clone(list), func(p piece) bool { return p.from == p.to })
	slices.SortFunc(all, func(a, b piece) int { return int(a.from) - int(b.from) })
	for i := 1; i < len(all); i++ {
		if all[i].from < all[i-1].to {
			return false
		}
	}
	return true
}

// meet is whether a piece of one list shares anything with a piece of the other one.
func meet(list, others []piece) bool {
	return slices.ContainsFunc(list, func(p piece) bool {
		return slices.ContainsFunc(others, func(q piece) bool { return p.from < q.to && q.from < p.to })
	})
}

// listsOf are all lists of units, and textsOfUnits all their texts, where they lie.
func listsOf(units []impl.Unit) []piece {
	out := []piece{pieceOf(units)}
	for _, u := range units {
		out = append(out, pieceOf(u.Code))
		for _, x := range u.Code {
			out = append(out, pieceOf(x.Args))
		}
	}
	return out
}

func textsOfUnits(units []impl.Unit) []piece {
	var out []piece
	for _, u := range units {
		out = append(out, pieceOfText(u.Name))
		for _, x := range u.Code {
			out = append(out, pieceOfText(x.S))
		}
	}
	return out
}

// What one answer holds is its own: no two of its lists share any memory, nor with another answer, and its texts do not lie in what was given.
func TestEachUnitIsItsOwn(t *testing.T) {
	met := 0
	for _, given := range listsForLower() {
		for _, low := range []bool{false, true} {
			list := withRoomBehind(given)
			one, other := impl.Lower(list, low), impl.Lower(list, low)
			if !apart(append(listsOf(one), listsOf(other)...)) {
				t.Fatalf("the units of %s share memory", clip(list))
			}
			var texts []piece
			for _, f := range list {
				for _, s := range textsOf(f) {
					texts = append(texts, pieceOfText(s))
				}
			}
			if meet(textsOfUnits(one), texts) {
				t.Fatalf("a text of the units of %s lies in what was given", clip(list))
			}
			kept, was := cloneUnits(other), cloneFuncs(list)
			for _, u := range one {
				for i := range u.Code {
					spoil(u.Code[i].Args)
				}
				for i := range u.Code[:cap(u.Code)] {
					u.Code[:cap(u.Code)][i] = call("spoilt", 7)
				}
				met += len(u.Code)
			}
			if !slices.EqualFunc(other, kept, sameUnit) || !slices.EqualFunc(list, was, sameFunc) || !roomBehindIsKept(list) || !slices.EqualFunc(impl.Lower(list, low), kept, sameUnit) {
				t.Fatalf("the units of %s are not its own", clip(list))
			}
			spoilFuncs(list, false)
			if !slices.EqualFunc(other, kept, sameUnit) {
				t.Fatalf("the units of %s are turned with what was given", clip(was))
			}
		}
	}
	if met < 5000 {
		t.Errorf("%d places are met", met)
	}
}

func TestLoweredSideBySide(t *testing.T) {
	lists := listsForLower()
	var high, low [][]impl.Unit
	for _, list := range lists {
		high, low = append(high, impl.Lower(list, false)), append(low, impl.Lower(list, true))
	}
	var group sync.WaitGroup
	wrong := make([]int, 8)
	for worker := range wrong {
		group.Go(func() {
			for i, list := range lists {
				wrong[worker] += flag(!slices.EqualFunc(impl.Lower(list, false), high[i], sameUnit)) + flag(!slices.EqualFunc(impl.Lower(list, true), low[i], sameUnit))
			}
		})
	}
	group.Wait()
	if !slices.Equal(wrong, make([]int, 8)) {
		t.Errorf("answers side by side are others: %v", wrong)
	}
}
