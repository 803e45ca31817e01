package tests

import (
	"slices"
	"strings"
	"sync"
	"testing"
	"unsafe"

	"loop.example/g00286/impl"
)

// checkCode holds Check against the model, and against what it says of what was written and parsed again.
func checkCode(t *testing.T, list []impl.Func, low bool) int {
	t.Helper()
	got := impl.Check(list, low)
	if want := wantCheck(list, low); got != want {
		t.Errorf("Check(%s, %v) = %d, not %d", clip(list), low, got, want)
	}
	if text := impl.Write(list); impl.Tidy(list) && len(text) <= 6000 {
		again, bad := impl.Parse(text)
		if stays := impl.Check(again, low); bad != -1 || stays != got {
			t.Errorf("Check of %.300q is %d, and was %d ahead of that", text, stays, got)
		}
	}
	return got
}

// wantCodes is of a text, and its codes without low and with it.
func wantCodes(t *testing.T, src string, high, low int) {
	t.Helper()
	list, bad := impl.Parse(src)
	if bad != -1 {
		t.Fatalf("%q is no program: %d", src, bad)
	}
	if got := checkCode(t, list, false); got != high {
		t.Errorf("%q is %d, not %d", src, got, high)
	}
	if got := checkCode(t, list, true); got != low {
		t.Errorf("%q is %d with low, not %d", src, got, low)
	}
}

func wantBoth(t *testing.T, src string, code int) {
	t.Helper()
	wantCodes(t, src, code, code)
}

const mainText = " func main() { return 0; }"

func inMain(body string) string { return "func main() { " + body + " }" }

func param(name string) impl.Param { return impl.Param{Name: name} }

func channel(name string) impl.Param { return impl.Param{Name: name, Chan: true} }

func sameVars(a, b []impl.Param) bool { return slices.Equal(a, b) }

func wantVarsOf(t *testing.T, f impl.Func, want ...impl.Param) {
	t.Helper()
	if got := impl.Vars(f); !sameVars(got, want) {
		t.Errorf("Vars(%s) = %v, not %v", clip(f), got, want)
	}
	if got := wantVars(f); !sameVars(got, want) {
		t.Errorf("the model has %v for %s, not %v", got, clip(f), want)
	}
}

// wantVarsIn is of the last function of a text.
func wantVarsIn(t *testing.T, src string, want ...impl.Param) {
	t.Helper()
	list, bad := impl.Parse(src)
	if bad != -1 {
		t.Fatalf("%q is no program: %d", src, bad)
	}
	wantVarsOf(t, list[len(list)-1], want...)
}

func TestCheckConstants(t *testing.T) {
	got := []int{impl.MaxVars, impl.MaxArgs, impl.CkDone, impl.CkTidy, impl.CkTwice, impl.CkMany, impl.CkName, impl.CkType, impl.CkLow, impl.CkMain}
	if !slices.Equal(got, []int{8, 4, 0, 1, 2, 3, 4, 5, 6, 7}) {
		t.Errorf("the constants are %v", got)
	}
}

func TestVarsInTheOrderOfTheText(t *testing.T) {
	wantVarsIn(t, "func f() { }")
	wantVarsIn(t, "func f() { print 1; x = 2; recv y, z; go g(a); if b { } }")
	wantVarsIn(t, "func f(a) { }", param("a"))
	wantVarsIn(t, "func f(a, b chan, c, d chan, e) { a = b; }", param("a"), channel("b"), param("c"), channel("d"), param("e"))
	wantVarsIn(t, "func f() { let a = 1; }", param("a"))
	wantVarsIn(t, "func f(b, a) { let d = 1; let c = 2; }", param("b"), param("a"), param("d"), param("c"))
	wantVarsIn(t, "func g(z) { let y = 1; } func f(a) { let b = 1; }", param("a"), param("b"))
	wantVarsIn(t, "func f() { if 1 { let b = 1; let a = 2; } else { let d = 3; let c = 4; } let e = 5; }", param("b"), param("a"), param("d"), param("c"), param("e"))
	wantVarsIn(t, "func f() { while 1 { let b = 1; while 2 { let a = 2; if 3 { let z = 4; } } let y = 5; } let x = 6; }", param("b"), param("a"), param("z"), param("y"), param("x"))
	wantVarsIn(t, "func f(p) { select { case recv p, p { let c = 1; } case send p, p { let b = 2; } default { let a = 3; } } let z = 4; }", param("p"), param("c"), param("b"), param("a"), param("z"))
	wantVarsIn(t, "func f() { let h = 1; if 1 { let g = 2; if 1 { let e = 3; } else { let d = 4; } let c = 5; } let b = 6; }", param("h"), param("g"), param("e"), param("d"), param("c"), param("b"))
	wantVarsIn(t, "func f(a, a) { let a = 1; let b = 2; let a = 3; }", param("a"), param("a"), param("a"), param("b"), param("a"))
	wantVarsIn(t, "func f(a, b, c, d, e, g) { let h = 1; let i = 1; let j = 1; let k = 1; let l = 1; }",
		param("a"), param("b"), param("c"), param("d"), param("e"), param("g"), param("h"), param("i"), param("j"), param("k"), param("l"))
}

func TestVarsThatAreChannels(t *testing.T) {
	wantVarsIn(t, "func f(c chan) { }", channel("c"))
	wantVarsIn(t, "func f() { let c = make(1); }", channel("c"))
	wantVarsIn(t, "func f() { let c = (make(1)); let d = make(make(2)); let e = make(x); }", channel("c"), channel("d"), channel("e"))
	wantVarsIn(t, "func f(p chan, q) { let a = p; let b = q; let c = a; let d = b; let e = c; }", channel("p"), param("q"), channel("a"), param("b"), channel("c"), param("d"), channel("e"))
	wantVarsIn(t, "func f() { let c = make(1); let d = c; let e = d; }", channel("c"), channel("d"), channel("e"))
	// All other exprs are words, whatever is within.
	for _, e := range []string{"1", "(-1)", "c + c", "c - c", "c * c", "c < c", "c == c", "g(c)", "c()", "g(make(1))", "peek(c)", "cas(c, c, c)", "core()", "addr c", "make(1) + make(1)"} {
		wantVarsIn(t, "func f(c chan) { let a = "+e+"; let b = a; }", channel("c"), param("a"), param("b"))
	}
}

func TestVarsByThoseAhead(t *testing.T) {
	// What becomes a channel only behind it, and what is none.
	wantVarsIn(t, "func f() { let a = b; let b = make(1); let c = b; }", param("a"), channel("b"), channel("c"))
	wantVarsIn(t, "func f() { let a = a; let b = nowhere; let c = f; }", param("a"), param("b"), param("c"))
	wantVarsIn(t, "func f(a) { a = make(1); let b = a; }", param("a"), param("b"))
	wantVarsIn(t, "func f(c chan) { recv a, c; let b = a; }", channel("c"), param("b"))
	wantVarsIn(t, "func g(c chan) { let d = c; } func f() { let a = c; let b = d; }", param("a"), param("b"))
	wantVarsIn(t, "func f() { if 1 { let c = make(1); } else { let a = c; } let b = c; while c { let d = b; } }", channel("c"), channel("a"), channel("b"), channel("d"))
	wantVarsIn(t, "func f() { select { case recv x, y { let c = make(1); } case send c, c { let d = c; } default { let e = d; } } }", channel("c"), channel("d"), channel("e"))
	wantVarsIn(t, "func f() { let ab = make(1); let c = a; let d = abc; let e = Ab; let g = ab; }", channel("ab"), param("c"), param("d"), param("e"), channel("g"))
	// A name that stands twice is a channel where one of them is.
	wantVarsIn(t, "func f(c chan) { let c = c; let d = c; }", channel("c"), channel("c"), channel("d"))
	wantVarsIn(t, "func f(c chan) { let c = 1; let d = c; }", channel("c"), param("c"), channel("d"))
	wantVarsIn(t, "func f(c) { let b = c; let c = make(1); let d = c; }", param("c"), param("b"), channel("c"), channel("d"))
	wantVarsIn(t, "func f(c, c chan) { let d = c; }", param("c"), channel("c"), channel("d"))
	wantVarsIn(t, "func f(c chan, c) { let d = c; }", channel("c"), param("c"), channel("d"))
	wantVarsIn(t, "func f(c, c) { let d = c; let d = make(0); let d = d; }", param("c"), param("c"), param("d"), channel("d"), channel("d"))
}

func TestVarsOfWhatIsNotTidy(t *testing.T) {
	made := node(impl.NdMake, lit(1))
	wantVarsOf(t, impl.Func{})
	wantVarsOf(t, impl.Func{Params: []impl.Param{{}, {Chan: true}, {Name: "let"}}}, param(""), channel(""), param("let"))
	wantVarsOf(t, impl.Func{Params: []impl.Param{channel("")}, Body: blk(named(impl.NdLet, "a", vr("")))}, channel(""), channel("a"))
	wantVarsOf(t, impl.Func{Body: named(impl.NdLet, "a", made)}, channel("a"))
	wantVarsOf(t, impl.Func{Body: impl.Node{Op: impl.NdLet}}, param(""))
	wantVarsOf(t, fn("f", nil, named(impl.NdLet, "a"), named(impl.NdLet, "b", lit(1), made), named(impl.NdLet, "c", made, lit(1)), node(impl.NdLet, made)),
		param("a"), param("b"), channel("c"), channel(""))
	wantVarsOf(t, fn("f", nil, named(impl.NdLet, "a b", node(impl.NdMake)), named(impl.NdLet, "while", named(impl.NdVar, "a b", lit(1)))), channel("a b"), channel("while"))
	// An NdLet where none may stand: what is within another one is behind its beginning.
	wantVarsOf(t, fn("f", nil, node(impl.NdPrint, named(impl.NdLet, "a", made)), node(impl.NdAdd, lit(1), named(impl.NdLet, "b", vr("a")))), channel("a"), channel("b"))
	wantVarsOf(t, fn("f", nil, named(impl.NdLet, "a", named(impl.NdLet, "b", made)), named(impl.NdLet, "c", vr("a"), named(impl.NdLet, "d", vr("b")))),
		param("a"), channel("b"), param("c"), channel("d"))
	wantVarsOf(t, fn("f", nil, named(impl.NdLet, "a", vr("b"), named(impl.NdLet, "b", made))), param("a"), channel("b"))
	wantVarsOf(t, fn("f", nil, impl.Node{Kids: []impl.Node{named(impl.NdLet, "a", lit(1))}}, impl.Node{Op: 99, S: "z", Kids: []impl.Node{named(impl.NdLet, "b", made)}}), param("a"), channel("b"))
	wantVarsOf(t, fn("f", nil, named(impl.NdSet, "z", made), named(impl.NdRecv, "z", made), named(impl.NdElse, "z", made), named(impl.NdLet, "a", vr("z"))), param("a"))
	for _, s := range badNames() {
		wantVarsOf(t, fn(s, []impl.Param{channel(s)}, named(impl.NdLet, "a", vr(s)), named(impl.NdLet, s, lit(1))), channel(s), channel("a"), param(s))
	}
}

// doneTexts are programs that are checked, without low and with it.
func doneTexts() (high, low []string) {
	high = []string{
		inMain(""), inMain("return 0;"), "func f(a, b chan) { send b, a; return a; } func main() { let c = make(1); go f(1, c); let x = 0; recv x, c; print x; return f(2, c); }",
		"func main() { let c = make(0); let x = 1; while x { select { case recv x, c { print x; } case send c, x + 1 { } default { x = 0; } } } close c; go main(); }",
	}
	low = []string{
		"", inMain("return peek(1);"), "func f() { while cas(0, 0, 1) == 0 { } return core(); } func g(a) { poke a, f(); note 1, 2; swap 3, a; out a; return addr h; } func h() { halt 1; }",
		"func main(a) { return a; } func g() { return main(1); }",
	}
	return high, low
}

func TestWhatIsNotTidy(t *testing.T) {
	high, low := doneTexts()
	untidy := []impl.Func{
		{}, fn("", nil), fn("let", nil), fn("a b", nil), fn("abcdefghijk", nil), fn("f", []impl.Param{{}}), fn("f", []impl.Param{{Name: "chan"}}), {Name: "f", Body: node(impl.NdIf, lit(1), blk())},
		fn("f", nil, lit(1)), fn("f", nil, blk()), fn("f", nil, node(impl.NdPrint)), fn("f", nil, node(impl.NdReturn, lit(1), lit(1))), fn("f", nil, node(impl.NdReturn, lit(-2147483648))),
		fn("f", nil, node(impl.NdReturn, lit(2147483648))), fn("f", nil, named(impl.NdReturn, "x", lit(1))), fn("f", nil, impl.Node{Op: impl.NdReturn, N: 1, Kids: []impl.Node{lit(1)}}),
		fn("f", nil, named(impl.NdLet, "", lit(1))), fn("f", nil, impl.Node{Op: 35}), fn("f", nil, impl.Node{}), fn("f", nil, node(impl.NdWhile, lit(1), node(impl.NdReturn, lit(1)))),
		fn("f", nil, node(impl.NdReturn, node(impl.NdCore, lit(1)))), fn("f", nil, node(impl.NdReturn, deepTrees(19)["right"])), fn("f", nil, named(impl.NdLet, "x", node(impl.NdReturn, lit(1)))),
	}
	for _, texts := range [][]string{high, low} {
		for _, src := range texts {
			list, _ := impl.Parse(src)
			for _, f := range untidy {
				for _, other := range [][]impl.Func{append([]impl.Func{f}, list...), append(slices.Clip(list), f), {f}, {f, f}} {
					if impl.Check(other, false) != impl.CkTidy || impl.Check(other, true) != impl.CkTidy || impl.Tidy(other) {
						t.Errorf("%s is %d and %d", clip(other), impl.Check(other, false), impl.Check(other, true))
					}
				}
			}
		}
	}
	for i, texts := range [][]string{high, low} {
		for _, src := range texts {
			list, _ := impl.Parse(src)
			if code := checkCode(t, list, i == 1); code != impl.CkDone {
				t.Errorf("%q is %d", src, code)
			}
		}
	}
}

// What chapter 8 says of two NdElse, and of one that is not the last, is not tidy by chapter 7.
func TestElseThatIsNotTidy(t *testing.T) {
	take, other := named(impl.NdTake, "x", vr("c"), blk()), node(impl.NdElse, blk())
	done := []impl.Node{named(impl.NdLet, "x", lit(0)), named(impl.NdLet, "c", node(impl.NdMake, lit(1)))}
	for want, kids := range map[int][][]impl.Node{
		impl.CkDone: {{take}, {take, other}, {take, take, take, other}},
		impl.CkTidy: {{other, other}, {other, take}, {take, other, other}, {take, other, take}, {other, take, other}, {take, take, take, other, other}},
		impl.CkMany: {{}, {other}, {take, take, take, take}, {take, take, take, take, other}},
	} {
		for _, k := range kids {
			list := []impl.Func{fn("main", nil, append(slices.Clip(done), node(impl.NdSelect, k...))...)}
			if code := checkCode(t, list, false); code != want {
				t.Errorf("%s is %d, not %d", clip(list), code, want)
			}
		}
	}
}

func TestHowManyFunctionsAreChecked(t *testing.T) {
	var all strings.Builder
	for i := range 39 {
		all.WriteString("func f" + string(rune('a'+i/26)) + string(rune('a'+i%26)) + "() { return 0; } ")
	}
	wantBoth(t, all.String()+mainText, impl.CkDone)
	list, _ := impl.Parse(all.String() + mainText)
	more := append([]impl.Func{fn("more", nil)}, list...)
	if len(list) != 40 || impl.Check(more, false) != impl.CkTidy || impl.Check(more, true) != impl.CkTidy {
		t.Error("41 functions are tidy")
	}
}

func TestTwoFunctionsOfOneName(t *testing.T) {
	wantBoth(t, "func f() { } func f() { }"+mainText, impl.CkTwice)
	wantBoth(t, "func f() { } func g() { }"+mainText, impl.CkDone)
	wantBoth(t, mainText+mainText, impl.CkTwice)
	wantBoth(t, "func f() { } func g() { } func f() { }"+mainText, impl.CkTwice)
	wantBoth(t, "func g() { } func f() { } func f() { }"+mainText, impl.CkTwice)
	wantBoth(t, mainText+"func f() { }"+mainText, impl.CkTwice)
	wantBoth(t, "func f() { } func f(a) { } func main() { return f(1) + f(); }", impl.CkTwice)
	wantBoth(t, "func f(a) { } func f() { }"+mainText, impl.CkTwice)
	wantBoth(t, "func f() { } func F() { } func ff() { } func fF() { }"+mainText, impl.CkDone)
	wantBoth(t, "func abcdefghij() { } func abcdefghii() { } func bcdefghij() { } func abcdefghi() { }"+mainText, impl.CkDone)
	wantBoth(t, "func f(f) { let main = 1; return f + main; } func g(main) { let f = 1; return main + f; }"+mainText, impl.CkDone)
}

func TestTwoVarsOfOneName(t *testing.T) {
	for _, text := range []string{
		"func f(a, a) { }", "func f(a, b, a) { }", "func f(a chan, a chan) { }", "func f(a, a chan) { }", "func f(a chan, b chan, c, a) { }", "func f(b, a, a) { }",
		"func f(a) { let a = 1; }", "func f(b, a) { let c = 1; let a = 1; }", "func f(a) { if 1 { while 1 { let a = 1; } } }", "func f(a chan) { let a = make(1); }", "func f(a) { let a = a; }",
		"func f() { let a = 1; let a = 1; }", "func f() { let a = 1; let a = a; }", "func f() { let a = 1; let b = 1; let a = 1; }", "func f() { let a = 1; if 1 { let a = 1; } }", "func f() { if 1 { let a = 1; } let a = 1; }",
		"func f() { if 1 { let a = 1; } else { let a = 2; } }", "func f() { while 1 { let a = 1; } while 1 { let a = 1; } }", "func f() { let a = make(1); let a = make(1); }", "func f() { let a = 1; let a = make(1); }",
		"func f(c chan) { select { case recv x, c { let a = 1; } case send c, 1 { let a = 1; } } }", "func f(c chan) { select { case send c, 1 { let a = 1; } default { let a = 1; } } }",
		"func f(c chan) { select { case send c, 1 { let c = 1; } } }", "func f(c chan) { let a = 1; select { default { let a = 1; } } }",
	} {
		wantBoth(t, text+mainText, impl.CkTwice)
		wantBoth(t, "func g() { }"+text+mainText, impl.CkTwice)
		wantBoth(t, strings.Replace(text, "func f(", "func main(", 1), impl.CkTwice)
	}
	wantBoth(t, "func f(a) { let b = 1; } func g(b) { let a = 1; } func h(a, b) { }"+mainText, impl.CkDone)
	wantBoth(t, "func f() { let a = 1; a = 2; a = 3; if a { a = 4; } } func main() { let a = 1; return a + a; }", impl.CkDone)
	wantCodes(t, "func f(c chan) { let a = 1; recv a, c; recv a, c; select { case recv a, c { } case recv a, c { } } }"+mainText, impl.CkDone, impl.CkLow)
	wantBoth(t, "func f(a, A, aa) { let aA = 1; let Aa = 1; let b = 1; }"+mainText, impl.CkDone)
}

// letsText is so many NdLets, of names that begin so.
func letsText(begin string, count int) string {
	var out strings.Builder
	for i := range count {
		out.WriteString("let " + begin + string(rune('a'+i)) + " = 1; ")
	}
	return out.String()
}

func paramsText(count int) string { return strings.Join(strings.Split("abcdefgh"[:count], ""), ", ") }

func TestHowManyVars(t *testing.T) {
	for params := range 9 {
		for lets := range 12 {
			code := impl.CkDone
			if params > 4 || params+lets > 8 {
				code = impl.CkMany
			}
			head := "func f(" + paramsText(params) + ") { "
			wantBoth(t, head+letsText("l", lets)+"}"+mainText, code)
			wantBoth(t, head+"if 1 { "+letsText("l", lets/2)+"} else { while 1 { "+letsText("m", lets-lets/2)+"} } }"+mainText, code)
			wantBoth(t, "func g() { "+letsText("a", 8)+"} "+head+letsText("l", lets)+"}"+mainText, code)
			if params == 0 {
				wantBoth(t, inMain(letsText("l", lets)), code)
			}
		}
	}
	wantCodes(t, "func f(a chan, b chan, c chan, d chan) { }"+mainText, impl.CkDone, impl.CkLow)
	wantBoth(t, "func f(a chan, b chan, c chan, d chan, e chan) { }"+mainText, impl.CkMany)
	eight := "func f(c chan) { select { case send c, 1 { " + letsText("l", 3) + "} case send c, 1 { " + letsText("m", 2) + "} default { " + letsText("n", 2) + "} } "
	wantCodes(t, eight+"}"+mainText, impl.CkDone, impl.CkLow)
	wantBoth(t, eight+"let z = 1; }"+mainText, impl.CkMany)
	wantBoth(t, "func f(a, b, c, d, e) { }"+mainText, impl.CkMany)
	wantBoth(t, "func main(a, b, c, d, e) { }", impl.CkMany)
}

func TestHowManyCases(t *testing.T) {
	take, give := "case recv x, c { } ", "case send c, x { } "
	wraps := []string{"?", "if 1 { ? }", "if 1 { } else { ? }", "while 1 { ? }", "x = 1; ? x = 2;", "select { case recv x, c { ? } }", "select { case send c, 1 { } default { ? } }", "select { " + take + take + "case send c, 1 { ? } }"}
	for count := range 7 {
		for _, one := range []string{take, give, take + give} {
			cases := strings.Repeat(one, count)
			if one == take+give {
				cases = (strings.Repeat(one, count))[:len(one)/2*count]
			}
			for _, other := range []string{"", "default { }", "default { x = 1; }"} {
				high, low := impl.CkDone, impl.CkLow
				if count < 1 || count > 3 {
					high, low = impl.CkMany, impl.CkMany
				}
				for _, wrap := range wraps {
					text := strings.Replace(wrap, "?", "select { "+cases+other+" }", 1)
					wantCodes(t, inMain("let x = 0; let c = make(1); "+text), high, low)
					wantCodes(t, "func f(x, c chan) { "+text+" }"+mainText, high, low)
				}
			}
		}
	}
}

// Each way to name a Var, at names that are there and are not.
func TestVarsThatAreNamed(t *testing.T) {
	for _, use := range []string{"q;", "q = 1;", "x = q;", "let y = q;", "if q { }", "while q { }", "return q;", "return 1 + q;", "return q * 1;", "return (1 - (2 - q));", "return q < 1;", "return 1 == q;", "return g(q);", "return h(1, q);"} {
		wantNamed(t, use, impl.CkDone, impl.CkDone)
	}
	for _, use := range []string{"print q;", "recv q, c;", "send c, q;", "go g(q);", "go h(q, 1);", "let y = make(q);", "select { case recv q, c { } }", "select { case recv x, c { q; } }", "select { case send c, q { } }", "select { case send c, 1 { q = 1; } }",
		"select { case send c, 1 { } default { print q; } }", "select { case send c, 1 { } case recv q, c { } }", "if 1 { while 1 { print q; } }", "if 1 { } else { print q; }"} {
		wantNamed(t, use, impl.CkDone, impl.CkLow)
	}
	for _, use := range []string{"poke q, 1;", "poke 1, q;", "note q, 1;", "note 1, q;", "swap q, 1;", "swap 1, q;", "halt q;", "out q;", "return peek(q);", "return cas(q, 1, 1);", "return cas(1, q, 1);", "return cas(1, 1, q);"} {
		wantNamed(t, use, impl.CkLow, impl.CkDone)
	}
}

// wantNamed is of a statement that names q, a word.
func wantNamed(t *testing.T, use string, high, low int) {
	t.Helper()
	ahead := "func g(a) { return a; } func h(a, b) { return a + b; } "
	usesChan := strings.Contains(use, "c,") || strings.Contains(use, ", c")
	head := "let x = 0; "
	if usesChan {
		head += "let c = make(1); "
	}
	if usesChan && high == impl.CkLow {
		t.Fatalf("%q is of both storeys", use)
	}
	there := []string{"let q = 1; ?", "if 1 { let q = 1; } ?", "if 1 { } else { let q = 1; } ?", "if 1 { let q = 1; } else { ? }", "while 1 { let q = 1; ? }", "while 1 { let q = 1; } ?", "let q = 1; while 1 { if 1 { ? } }", "let q = 1; let z = q; ?", "let q = 1; ? ?"}
	notThere := []string{"?", "? let q = 1;", "if 1 { ? } let q = 1;", "while 1 { ? let q = 1; }", "if 1 { ? } else { let q = 1; }", "let Q = 1; ?", "let qq = 1; ?", "let z = 1; if 1 { let w = 2; } ?"}
	if strings.Contains(use, "let y") {
		there = there[:len(there)-1]
	}
	for _, form := range there {
		wantCodes(t, ahead+inMain(head+strings.ReplaceAll(form, "?", use)), high, low)
	}
	for _, form := range notThere {
		wantBoth(t, ahead+inMain(head+strings.ReplaceAll(form, "?", use)), impl.CkName)
	}
	wantCodes(t, ahead+"func f(q) { "+head+use+" }"+mainText, high, low)
	wantCodes(t, ahead+"func f(a, b, q) { "+head+"if 1 { "+use+" } }"+mainText, high, low)
	// A name of another function is none, nor that of a function.
	wantBoth(t, ahead+"func f(q) { } "+inMain(head+use), impl.CkName)
	wantBoth(t, ahead+"func f() { let q = 1; } "+inMain(head+use), impl.CkName)
	wantBoth(t, ahead+"func q() { } "+inMain(head+use), impl.CkName)
	wantBoth(t, ahead+"func f() { "+head+use+" } func k(q) { let z = q; }"+mainText, impl.CkName)
}

func TestNamesAboutAnNdLet(t *testing.T) {
	// An NdLet is not ahead of its own e.
	for _, e := range []string{"a", "a + 1", "1 + a", "(1 * (2 - a))", "a < a", "g(a)", "g(1 + a)"} {
		wantBoth(t, "func g(x) { return x; } "+inMain("let a = "+e+";"), impl.CkName)
		wantBoth(t, "func g(x) { return x; } "+inMain("let b = 1; let a = "+e+"; let c = a;"), impl.CkName)
		wantBoth(t, "func g(x) { return x; } "+inMain("if 1 { let a = "+e+"; }"), impl.CkName)
		wantBoth(t, "func g(x) { return x; } func f(a) { let b = "+e+"; return b; }"+mainText, impl.CkDone)
	}
	wantBoth(t, inMain("let c = make(c);"), impl.CkName)
	wantBoth(t, inMain("let a = peek(a);"), impl.CkName)
	wantBoth(t, inMain("let a = b; let b = 1;"), impl.CkName)
	wantBoth(t, inMain("let a = b; let b = a;"), impl.CkName)
	wantBoth(t, inMain("let a = 1; let b = a; let c = a + b; return a + b + c;"), impl.CkDone)
	wantBoth(t, inMain("while 1 { let a = 1; } if a { let b = a; } a = b;"), impl.CkDone)
	// A case names what is ahead of it, and that is not its own block.
	wantBoth(t, inMain("let c = make(1); select { case recv x, c { let x = 1; } }"), impl.CkName)
	wantBoth(t, inMain("let c = make(1); select { case send c, x { let x = 1; } }"), impl.CkName)
	wantBoth(t, inMain("let c = make(1); select { case recv x, c { } case send c, 1 { let x = 1; } }"), impl.CkName)
	wantCodes(t, inMain("let c = make(1); select { case send c, 1 { let x = 1; } case recv x, c { print x; } default { x = 2; } } print x;"), impl.CkDone, impl.CkLow)
	wantCodes(t, inMain("if 1 { let c = make(1); } select { case send c, 1 { let d = make(1); } case recv x, d { let x = 1; } }"), impl.CkName, impl.CkName)
	wantBoth(t, inMain("while a { let a = 1; }"), impl.CkName)
	wantBoth(t, inMain("if a { let a = 1; }"), impl.CkName)
	wantBoth(t, inMain("recv x, c; let x = 1; let c = make(1);"), impl.CkName)
	wantBoth(t, inMain("let x = 1; recv x, c; let c = make(1);"), impl.CkName)
	wantCodes(t, inMain("let x = 1; let c = make(1); recv x, c;"), impl.CkDone, impl.CkLow)
}

func TestFunctionsThatAreCalled(t *testing.T) {
	ahead := "func g() { return 1; } func h(a) { return a; } func k(a, b, c, d) { return a; } "
	for call, ok := range map[string]bool{
		"g()": true, "h(1)": true, "k(1, 2, 3, 4)": true, "g() + h(g())": true, "k(g(), h(1), g(), h(h(h(2))))": true,
		"g(1)": false, "h()": false, "h(1, 2)": false, "k()": false, "k(1, 2, 3)": false, "k(1, 2, 3, 4, 5)": false, "nowhere()": false, "gg()": false, "G()": false, "a()": false, "h(h())": false, "h(g(1))": false, "1 + g(1)": false, "main()": false, "behind()": false, "behind(1)": false,
	} {
		code := impl.CkName
		if ok {
			code = impl.CkDone
		}
		for _, form := range []string{"return ?;", "?;", "let x = ?;", "if ? { }", "while 1 - ? { }", "if 1 { return 2 * ?; }"} {
			text := strings.Replace(form, "?", "("+call+")", 1)
			wantBoth(t, ahead+inMain(text), code)
			wantBoth(t, ahead+"func f() { "+text+" } func behind() { }"+mainText, code)
		}
	}
	wantBoth(t, "func f() { return f(); }"+mainText, impl.CkName)
	wantBoth(t, inMain("return main();"), impl.CkName)
	wantBoth(t, "func f() { return g(); } func g() { return 1; }"+mainText, impl.CkName)
	wantBoth(t, "func g() { return 1; } func f() { return g(); }"+mainText, impl.CkDone)
	wantBoth(t, "func g() { return 1; } func f() { return g(); } func h() { return g() + f(); } func main() { return h() + g() + f(); }", impl.CkDone)
	wantBoth(t, "func f(g) { return g(); }"+mainText, impl.CkName)
	wantBoth(t, "func g() { } func f(g) { let h = 1; return g() + g + h; }"+mainText, impl.CkDone)
	wantBoth(t, "func f(a) { return 1; } func g() { return f; }"+mainText, impl.CkName)
}

func TestFunctionsThatAreBegun(t *testing.T) {
	for name, code := range map[string]int{"ahead": impl.CkDone, "f": impl.CkDone, "behind": impl.CkDone, "main": impl.CkName, "nowhere": impl.CkName, "a": impl.CkName, "aheads": impl.CkName, "Ahead": impl.CkName} {
		for args, right := range map[string]bool{"": false, "1": false, "1, 2": true, "1, 2, 3": false} {
			high, low := code, code
			if code == impl.CkDone {
				low = impl.CkLow
			}
			if !right {
				high, low = impl.CkName, impl.CkName
			}
			if name == "main" && args == "" {
				high, low = impl.CkDone, impl.CkLow
			}
			for _, form := range []string{"?", "if 1 { ? }", "while 1 { if 1 { } else { ? } }"} {
				text := strings.Replace(form, "?", "go "+name+"("+args+");", 1)
				wantCodes(t, "func ahead(a, b) { } func f(a, b) { "+text+" } func behind(a, b) { }"+mainText, high, low)
			}
		}
	}
	wantCodes(t, inMain("go main();"), impl.CkDone, impl.CkLow)
	wantBoth(t, inMain("go main(1);"), impl.CkName)
	wantCodes(t, "func f() { go g(); } func g() { go f(); }"+mainText, impl.CkDone, impl.CkLow)
	// Of two functions of one name behind it, one with as many is enough; that there are two is told there.
	wantCodes(t, "func f() { go g(1); } func g() { } func g(a) { }"+mainText, impl.CkTwice, impl.CkLow)
	wantCodes(t, "func f() { go g(); } func g() { } func g(a) { }"+mainText, impl.CkTwice, impl.CkLow)
	wantBoth(t, "func f() { go g(1, 2); } func g() { } func g(a) { }"+mainText, impl.CkName)
}

func TestFunctionsWhoseAddrIsAsked(t *testing.T) {
	for name, ok := range map[string]bool{"ahead": true, "f": true, "behind": true, "main": true, "nowhere": false, "a": false, "l": false, "aheads": false, "Main": false} {
		high, low := impl.CkName, impl.CkName
		if ok {
			high, low = impl.CkLow, impl.CkDone
		}
		for _, form := range []string{"return ?;", "?;", "let x = ? + 1;", "if ? { }", "poke ?, ?;", "while 1 { return peek(?); }"} {
			text := strings.ReplaceAll(form, "?", "addr "+name)
			wantCodes(t, "func ahead(a, b) { } func f(a) { let l = 1; "+text+" } func behind() { }"+mainText, high, low)
		}
	}
}

// What is typed stands in a function with words w, p and channels c, d, e, behind g and h, which take words, and k and m, which take channels, too.
const (
	takeWords = "func g(a) { return a; } func h(a, b) { return a + b; } "
	takeChans = "func k(a chan) { return 1; } func m(a, b chan, c, d chan) { return c; } "
	typed     = "func f(p, e chan) { let w = 1; let c = make(1); let d = c; "
)

// wantTyped is of statements there, without low. With it k is refused ahead of them; where they do without, it is their types that come first.
func wantTyped(t *testing.T, text string, code int) {
	t.Helper()
	wantCodes(t, takeWords+takeChans+typed+text+" }"+mainText, code, impl.CkLow)
	if !strings.Contains(text, "k(") && !strings.Contains(text, "m(") {
		low := impl.CkLow
		if code == impl.CkType {
			low = code
		}
		wantCodes(t, takeWords+typed+text+" }"+mainText, code, low)
	}
}

var (
	wordExprs = []string{"1", "-1", "0", "w", "p", "w + p", "w - 1", "2 * w", "w < 1", "w == p", "g(1)", "h(w, g(p))", "k(c)", "m(1, c, w, e)", "k(make(w))"}
	chanExprs = []string{"c", "d", "e", "make(1)", "make(w)", "make(g(w))"}
	lowWords  = []string{"peek(w)", "cas(w, 1, p)", "core()", "addr g", "addr main", "peek(k(c))"}
)

// atEach puts one of those exprs at each ? of a form, and what is right at all others.
func atEach(form string, exprs []string, right string) []string {
	var out []string
	for i := range strings.Count(form, "?") {
		for _, e := range exprs {
			parts := strings.Split(form, "?")
			var text strings.Builder
			for j, part := range parts {
				text.WriteString(part)
				switch {
				case j == len(parts)-1:
				case j == i:
					text.WriteString("(" + e + ")")
				default:
					text.WriteString(right)
				}
			}
			out = append(out, text.String())
		}
	}
	return out
}

func TestWhereAWordMustBe(t *testing.T) {
	high := []string{"print ?;", "return ?;", "if ? { }", "if ? { } else { }", "while ? { }", "?;", "w = ?;", "p = ?;", "send c, ?;", "go g(?);", "go h(?, ?);", "go m(?, c, ?, d);", "select { case send c, ? { } }", "select { case recv w, c { } case send c, ? { } default { } }",
		"let x = ? + ?;", "let x = ? - ?;", "let x = ? * ?;", "let x = ? < ?;", "let x = ? == ?;", "print 1 + ?;", "print (1 < 2) * ?;", "print g(?);", "g(?);", "let x = h(?, ?);", "let x = m(?, c, ?, d);", "let x = make(?);", "send make(?), 1;", "print g(h(1, ?));",
		"while 1 { if 1 { print ?; } }", "if 1 { } else { print ?; }", "select { case recv w, c { print ?; } }", "select { case send c, 1 { } default { return ?; } }", "k(make(?));"}
	lows := []string{"poke ?, ?;", "note ?, ?;", "swap ?, ?;", "halt ?;", "out ?;", "return peek(?);", "return cas(?, ?, ?);", "let x = peek(?);", "poke 1, peek(peek(?));"}
	for _, form := range high {
		for _, text := range atEach(form, wordExprs, "1") {
			wantTyped(t, text, impl.CkDone)
		}
		for _, text := range atEach(form, lowWords, "1") {
			wantTyped(t, text, impl.CkLow)
		}
		for _, text := range atEach(form, chanExprs, "1") {
			wantTyped(t, text, impl.CkType)
		}
	}
	for _, form := range lows {
		for _, text := range atEach(form, slices.Concat(wordExprs, lowWords), "1") {
			wantTyped(t, text, impl.CkLow)
		}
		for _, text := range atEach(form, chanExprs, "1") {
			wantTyped(t, text, impl.CkType)
		}
	}
}

func TestWhereAChannelMustBe(t *testing.T) {
	for _, form := range []string{"send ?, 1;", "send ?, w;", "recv w, ?;", "recv p, ?;", "close ?;", "c = ?;", "d = ?;", "e = ?;", "go k(?);", "go m(1, ?, 2, ?);", "k(?);", "let x = k(?) + 1;", "print m(1, ?, 2, ?);", "print g(k(?));",
		"select { case recv w, ? { } }", "select { case send ?, 1 { } }", "select { case recv w, ? { } case send ?, w { } case recv p, ? { } default { } }", "while 1 { if 1 { close ?; } else { send ?, 1; } }", "select { case send c, 1 { send ?, 1; } default { c = ?; } }"} {
		for _, text := range atEach(form, chanExprs, "c") {
			wantTyped(t, text, impl.CkDone)
		}
		for _, text := range atEach(form, slices.Concat(wordExprs, lowWords), "c") {
			wantTyped(t, text, impl.CkType)
		}
	}
}

func TestWhereBothMayBe(t *testing.T) {
	for _, e := range slices.Concat(wordExprs, chanExprs) {
		wantTyped(t, "let x = "+e+";", impl.CkDone)
	}
	for _, e := range lowWords {
		wantTyped(t, "let x = "+e+";", impl.CkLow)
	}
	// What an NdLet took is what it is from then on.
	for _, e := range wordExprs {
		wantTyped(t, "let x = "+e+"; print x; x = 2; recv x, c;", impl.CkDone)
		wantTyped(t, "let x = "+e+"; x = c;", impl.CkType)
		wantTyped(t, "let x = "+e+"; send x, 1;", impl.CkType)
	}
	for _, e := range chanExprs {
		wantTyped(t, "let x = "+e+"; send x, 1; x = c; c = x; let y = x; close y;", impl.CkDone)
		wantTyped(t, "let x = "+e+"; x = 1;", impl.CkType)
		wantTyped(t, "let x = "+e+"; print x;", impl.CkType)
		wantTyped(t, "let x = "+e+"; let y = x; return y;", impl.CkType)
	}
}

func TestNamesThatAreReceivedInto(t *testing.T) {
	for _, name := range []string{"w", "p"} {
		wantTyped(t, "recv "+name+", c;", impl.CkDone)
		wantTyped(t, "select { case recv "+name+", c { } }", impl.CkDone)
	}
	for _, name := range []string{"c", "d", "e"} {
		wantTyped(t, "recv "+name+", c;", impl.CkType)
		wantTyped(t, "recv "+name+", make(1);", impl.CkType)
		wantTyped(t, "if 1 { recv "+name+", d; }", impl.CkType)
		wantTyped(t, "select { case recv "+name+", c { } }", impl.CkType)
		wantTyped(t, "select { case send c, 1 { } case recv "+name+", d { } default { } }", impl.CkType)
	}
}

// Channels by a name are channels of that function alone.
func TestTypesAreOfOneFunction(t *testing.T) {
	wantCodes(t, "func f(a chan) { send a, 1; } func g(a) { return a; } func main() { let a = make(1); f(a); let b = g(1); go f(a); print b; }", impl.CkDone, impl.CkLow)
	wantCodes(t, "func f(a chan) { } func main() { let a = 1; return a; }", impl.CkDone, impl.CkLow)
	wantCodes(t, "func f() { let c = make(1); } func main() { let c = 1; return c; }", impl.CkDone, impl.CkLow)
	wantBoth(t, "func f(a) { return a; } func main() { let b = make(1); return f(b); }", impl.CkType)
	wantBoth(t, "func f(c chan) { return c; }"+mainText, impl.CkType)
	wantBoth(t, "func main() { go f(1); } func f(c chan) { }", impl.CkType)
	wantBoth(t, "func main() { let c = make(1); go f(c); } func f(a) { }", impl.CkType)
	wantCodes(t, "func g() { let c = make(1); go f(c, 1); } func f(a chan, b) { }"+mainText, impl.CkDone, impl.CkLow)
	wantBoth(t, "func g() { let c = make(1); go f(1, c); } func f(a chan, b) { }"+mainText, impl.CkType)
	wantBoth(t, "func f(a chan) { f(a); }"+mainText, impl.CkName)
	wantCodes(t, "func f(a chan, n) { go f(a, n - 1); }"+mainText, impl.CkDone, impl.CkLow)
	wantBoth(t, "func f(a chan, n) { go f(n, a); }"+mainText, impl.CkType)
}

// storeyTexts has, of each op that is of one storey, statements with it.
var storeyTexts = map[int][]string{
	impl.NdPoke: {"poke 1, 2;"}, impl.NdNote: {"note 1, 2;"}, impl.NdSwap: {"swap 1, 2;"}, impl.NdHalt: {"halt 1;"}, impl.NdOut: {"out 1;"}, impl.NdPeek: {"peek(1);", "return 1 + g(peek(2));"},
	impl.NdCas: {"cas(1, 2, 3);", "while cas(0, 0, 1) == 0 { }"}, impl.NdCore: {"core();", "let x = 1 * core();"}, impl.NdAddr: {"addr g;", "return addr main;"},
	impl.NdPrint: {"print 1;"}, impl.NdGo: {"go g(1);", "go main();"}, impl.NdMake: {"let x = make(1);"},
	impl.NdSend: {"let x = make(1); send x, 1;"}, impl.NdRecv: {"let x = make(1); let y = 0; recv y, x;"}, impl.NdClose: {"let x = make(1); close x;"}, impl.NdSelect: {"let x = make(1); select { case send x, 1 { } }"},
}

func TestOpsOfOneStorey(t *testing.T) {
	for _, op := range slices.Concat(lowOps, highOps) {
		texts := storeyTexts[op]
		if len(texts) == 0 {
			t.Fatalf("op %d has no text", op)
		}
		high, low := impl.CkDone, impl.CkLow
		if slices.Contains(lowOps, op) {
			high, low = low, high
		}
		for _, text := range texts {
			for _, form := range []string{"?", "if 1 { ? }", "if 1 { } else { ? }", "while 1 { let z = 1; ? }", "g(1); ? g(2);"} {
				body := strings.Replace(form, "?", text, 1)
				ahead := "func g(a) { return a; } "
				wantCodes(t, ahead+inMain(body), high, low)
				wantCodes(t, ahead+"func f() { "+body+" }"+mainText, high, low)
				wantCodes(t, ahead+"func f(a) { "+body+" } func h() { }"+mainText, high, low)
			}
		}
	}
	// What is of both.
	wantBoth(t, "func g(a) { return a * 2; } "+inMain("let x = 1; x = x + 1 - 2 * 3; if x < 1 { x; } else { g(x); } while x == 1 { return -1; } return 0;"), impl.CkDone)
}

// Each op with as few kids as it takes, and x a word and a channel.
func TestEachOpByItself(t *testing.T) {
	for _, n := range opParts() {
		for _, x := range []impl.Param{param("x"), channel("x"), param("y")} {
			list := []impl.Func{fn("g", nil), fn("f", []impl.Param{x}, wholeStatement(n)), fn("main", nil)}
			checkCode(t, list, false)
			checkCode(t, list, true)
		}
	}
}

// wholeStatement puts a node where it may stand, down from a statement.
func wholeStatement(n impl.Node) impl.Node {
	switch {
	case n.Op == impl.NdBlock:
		return node(impl.NdWhile, lit(1), n)
	case n.Op == impl.NdTake || n.Op == impl.NdGive || n.Op == impl.NdElse:
		return node(impl.NdSelect, n)
	case isExprOp(n.Op):
		return node(impl.NdDo, n)
	}
	return n
}

func TestParamsThatAreChannelsBelow(t *testing.T) {
	for _, params := range []string{"c chan", "a, c chan", "c chan, a", "a, b, d, c chan"} {
		wantCodes(t, "func f("+params+") { }"+mainText, impl.CkDone, impl.CkLow)
		wantCodes(t, "func g() { } func f("+params+") { return 1; } func h() { }"+mainText, impl.CkDone, impl.CkLow)
		wantCodes(t, "func main("+params+") { }", impl.CkMain, impl.CkLow)
		wantBoth(t, "func f("+strings.ReplaceAll(params, " chan", "")+") { }"+mainText, impl.CkDone)
	}
}

func TestTheLastFunction(t *testing.T) {
	wantCodes(t, "", impl.CkMain, impl.CkDone)
	wantBoth(t, inMain(""), impl.CkDone)
	for _, src := range []string{"func f() { }", "func Main() { }", "func mains() { }", "func mai() { }", "func f() { } func g() { }", mainText + " func f() { }", "func f() { } " + mainText + " func g() { }", mainText + " func Main() { return 1; }",
		"func main(a) { }", "func main(a, b, c, d) { return a; }", "func f() { } func main(a) { return f(); }", mainText + " func f() { return main(); }"} {
		wantCodes(t, src, impl.CkMain, impl.CkDone)
	}
	wantBoth(t, "func f() { } func g() { }"+mainText, impl.CkDone)
	wantBoth(t, "func main() { } func main(a) { }", impl.CkTwice)
	for _, low := range []bool{false, true} {
		want := impl.CkMain
		if low {
			want = impl.CkDone
		}
		if impl.Check(nil, low) != want || impl.Check([]impl.Func{}, low) != want || impl.Check(make([]impl.Func, 0, 3), low) != want || impl.Check(manyFunctions(3)[:0], low) != want {
			t.Errorf("no functions at all are not %d with low %v", want, low)
		}
	}
}

// faultText is statements that have just one code, beside those that come behind it: in each storey.
type faultText struct {
	code int
	text string
}

func faultTexts(low bool) []faultText {
	out := []faultText{
		{impl.CkTwice, "let ta = 1; let ta = 2;"}, {impl.CkTwice, "if 1 { let tb = 1; } else { let tb = 2; }"},
		{impl.CkMany, letsText("m", 9)}, {impl.CkMany, "select { }"}, {impl.CkMany, "select { default { } }"},
		{impl.CkName, "q;"}, {impl.CkName, "q = 1;"}, {impl.CkName, "let na = nb;"}, {impl.CkName, "nowhere();"}, {impl.CkName, "let nc = nc;"},
		{impl.CkType, "make(1);"}, {impl.CkType, "while 1 { if make(1) { } }"}, {impl.CkType, "let ya = make(make(1));"},
	}
	if low {
		return append(out, faultText{impl.CkLow, "print 1;"}, faultText{impl.CkLow, "let la = make(1);"}, faultText{impl.CkLow, "go main();"})
	}
	return append(out, faultText{impl.CkLow, "halt 1;"}, faultText{impl.CkLow, "let la = peek(1);"}, faultText{impl.CkLow, "core();"})
}

func wantCode(t *testing.T, src string, low bool, code int) {
	t.Helper()
	list, bad := impl.Parse(src)
	if bad != -1 {
		t.Fatalf("%q is no program: %d", src, bad)
	}
	if got := checkCode(t, list, low); got != code {
		t.Errorf("%q is %d with low %v, not %d", src, got, low, code)
	}
}

func TestWhichComesFirstInOneFunction(t *testing.T) {
	for _, low := range []bool{false, true} {
		all := faultTexts(low)
		for i, a := range all {
			wantCode(t, inMain(a.text), low, a.code)
			for j, b := range all {
				if i == j {
					continue
				}
				want := min(a.code, b.code)
				wantCode(t, inMain(a.text+b.text), low, want)
				wantCode(t, inMain("while 1 { "+a.text+" } return 1; "+b.text), low, want)
				wantCode(t, "func f() { "+a.text+" return 1; if 1 { "+b.text+" } }"+mainText, low, want)
				for _, c := range all[:i] {
					if c != b {
						wantCode(t, inMain(a.text+b.text+c.text), low, min(want, c.code))
					}
				}
			}
		}
	}
}

func TestWhichComesFirstInTwoFunctions(t *testing.T) {
	for _, low := range []bool{false, true} {
		all := faultTexts(low)
		for _, a := range all {
			for _, b := range all {
				for _, between := range []string{"", " func g() { }"} {
					wantCode(t, "func f() { "+a.text+" }"+between+" func h() { "+b.text+" }"+mainText, low, a.code)
					wantCode(t, "func f() { "+a.text+" }"+between+" "+inMain(b.text), low, a.code)
					wantCode(t, mainText+between+" func f() { "+a.text+" } func h() { "+b.text+" } func l() { }", low, a.code)
				}
			}
		}
	}
}

// Two functions of one name are told at the second one: what is amiss ahead of it comes first, what is amiss in it does not.
func TestTwoFunctionsAmongOtherFaults(t *testing.T) {
	for _, low := range []bool{false, true} {
		for _, a := range faultTexts(low) {
			wantCode(t, "func f() { "+a.text+" } func f() { }"+mainText, low, a.code)
			wantCode(t, "func f() { } func f() { "+a.text+" }"+mainText, low, impl.CkTwice)
			wantCode(t, "func f() { } func g() { "+a.text+" } func f() { }"+mainText, low, a.code)
			wantCode(t, "func f() { } func f() { } func g() { "+a.text+" }"+mainText, low, impl.CkTwice)
			wantCode(t, "func g() { "+a.text+" } func f() { } func f() { }"+mainText, low, a.code)
			wantCode(t, "func f() { } func f() { } "+inMain(a.text), low, impl.CkTwice)
			wantCode(t, mainText+" "+inMain(a.text), low, impl.CkTwice)
		}
	}
}

// CkMain is behind all others, wherever these are.
func TestMainAmongOtherFaults(t *testing.T) {
	for _, a := range faultTexts(false) {
		wantCode(t, "func f() { "+a.text+" }", false, a.code)
		wantCode(t, "func main() { "+a.text+" } func f() { }", false, a.code)
		wantCode(t, "func f() { "+a.text+" } func main(a) { }", false, a.code)
		wantCode(t, "func main(a) { "+a.text+" }", false, a.code)
		wantCode(t, "func f() { } func g() { } func h() { "+a.text+" }", false, a.code)
	}
	wantCode(t, "func f() { } func f() { }", false, impl.CkTwice)
	wantCode(t, "func main(a, b, c, d, e) { }", false, impl.CkMany)
}

// CkTidy is ahead of all others, wherever these are.
func TestTidyAmongOtherFaults(t *testing.T) {
	for _, low := range []bool{false, true} {
		for _, a := range faultTexts(low) {
			list, _ := impl.Parse("func f() { " + a.text + " } func g() { " + a.text + " }" + mainText)
			for i := range list {
				other := cloneFuncs(list)
				other[i].Body.Kids = append(other[i].Body.Kids, impl.Node{Op: 99})
				if code := checkCode(t, other, low); code != impl.CkTidy {
					t.Errorf("%s is %d", clip(other), code)
				}
				other[i].Body.Kids = append(slices.Clone(list[i].Body.Kids), node(impl.NdReturn, lit(-2147483648)))
				if code := checkCode(t, other, low); code != impl.CkTidy {
					t.Errorf("%s is %d", clip(other), code)
				}
				other[i] = list[i]
				other[i].Name = "while"
				if code := checkCode(t, other, low); code != impl.CkTidy {
					t.Errorf("%s is %d", clip(other), code)
				}
			}
		}
	}
}

// Params that are at fault stand ahead of the Body, but it is the code that counts.
func TestParamsAmongOtherFaults(t *testing.T) {
	for _, low := range []bool{false, true} {
		for _, a := range faultTexts(low) {
			wantCode(t, "func f(za, za) { "+a.text+" }"+mainText, low, impl.CkTwice)
			wantCode(t, "func f(za, zb, zc, zd, ze) { "+a.text+" }"+mainText, low, min(a.code, impl.CkMany))
			if low {
				wantCode(t, "func f(za chan) { "+a.text+" }"+mainText, low, min(a.code, impl.CkLow))
			}
		}
	}
}

// rightDrawer draws programs of one storey that are checked.
type rightDrawer struct {
	*drawer
	low   bool
	heads []impl.Func
	at    int
	vars  []impl.Param
}

func (d *rightDrawer) program() []impl.Func {
	d.heads = nil
	count := 1 + d.IntN(4)
	for i := range count {
		f := impl.Func{Name: []string{"f", "g", "h", "k"}[i]}
		for j := range d.IntN(5) {
			f.Params = append(f.Params, impl.Param{Name: string(rune('a' + j)), Chan: !d.low && d.IntN(2) == 0})
		}
		d.heads = append(d.heads, f)
	}
	if !d.low {
		d.heads[count-1] = impl.Func{Name: "main"}
	}
	out := slices.Clone(d.heads)
	for i, f := range out {
		d.at, d.vars = i, slices.Clone(f.Params)
		out[i].Body = d.block(1 + d.IntN(3))
	}
	return out
}

func (d *rightDrawer) block(deep int) impl.Node {
	out := blk()
	for range d.IntN(5) {
		out.Kids = append(out.Kids, d.statement(deep-1))
	}
	return out
}

// some is the name of one of the Vars that are words, or channels; empty where there is none.
func (d *rightDrawer) some(isChan bool) string {
	var names []string
	for _, v := range d.vars {
		if v.Chan == isChan {
			names = append(names, v.Name)
		}
	}
	if len(names) == 0 {
		return ""
	}
	return d.pick(names...)
}

func (d *rightDrawer) channel() impl.Node {
	if s := d.some(true); s != "" && d.IntN(4) > 0 {
		return vr(s)
	}
	return node(impl.NdMake, d.word(0))
}

func (d *rightDrawer) word(deep int) impl.Node {
	kind := d.IntN(9)
	if deep <= 0 {
		kind = d.IntN(3)
	}
	switch kind {
	case 0:
		return lit(d.IntN(9) - 4)
	case 1, 2:
		if s := d.some(false); s != "" {
			return vr(s)
		}
		return lit(7)
	case 3, 4:
		if d.at > 0 {
			f := d.heads[d.IntN(d.at)]
			return named(impl.NdCall, f.Name, d.args(f)...)
		}
	case 5:
		if d.low {
			return []impl.Node{node(impl.NdPeek, d.word(deep-1)), node(impl.NdCas, d.word(0), d.word(0), d.word(deep-1)), node(impl.NdCore), named(impl.NdAddr, d.heads[d.IntN(len(d.heads))].Name)}[d.IntN(4)]
		}
	}
	return node(impl.NdAdd+d.IntN(5), d.word(deep-1), d.word(deep-1))
}

func (d *rightDrawer) args(f impl.Func) []impl.Node {
	var out []impl.Node
	for _, p := range f.Params {
		if p.Chan {
			out = append(out, d.channel())
		} else {
			out = append(out, d.word(0))
		}
	}
	return out
}

func (d *rightDrawer) statement(deep int) impl.Node {
	switch d.IntN(8) {
	case 0, 1:
		if len(d.vars) < 8 {
			v := impl.Param{Name: string(rune('a' + len(d.vars))), Chan: !d.low && d.IntN(2) == 0}
			e := d.word(2)
			if v.Chan {
				e = d.channel()
			}
			d.vars = append(d.vars, v)
			return named(impl.NdLet, v.Name, e)
		}
	case 2:
		if s := d.some(false); s != "" {
			return named(impl.NdSet, s, d.word(2))
		}
	case 3:
		if s := d.some(true); s != "" {
			return named(impl.NdSet, s, d.channel())
		}
	case 4, 5:
		if deep > 0 {
			return d.wide(deep)
		}
	}
	if d.low {
		op := []int{impl.NdPoke, impl.NdNote, impl.NdSwap, impl.NdHalt, impl.NdOut, impl.NdDo, impl.NdReturn}[d.IntN(7)]
		n := node(op, d.word(2))
		if op <= impl.NdSwap && op >= impl.NdPoke {
			n.Kids = append(n.Kids, d.word(2))
		}
		return n
	}
	return d.talk()
}

// talk is a statement that only a program has.
func (d *rightDrawer) talk() impl.Node {
	switch s := d.some(false); d.IntN(7) {
	case 0:
		f := d.heads[d.IntN(len(d.heads))]
		return named(impl.NdGo, f.Name, d.args(f)...)
	case 1:
		return node(impl.NdSend, d.channel(), d.word(2))
	case 2:
		if s != "" {
			return named(impl.NdRecv, s, d.channel())
		}
	case 3:
		return node(impl.NdClose, d.channel())
	case 4:
		return node(impl.NdReturn, d.word(2))
	}
	return node([]int{impl.NdPrint, impl.NdDo}[d.IntN(2)], d.word(2))
}

func (d *rightDrawer) wide(deep int) impl.Node {
	switch d.IntN(4) {
	case 0:
		return node(impl.NdIf, d.word(1), d.block(deep))
	case 1:
		return node(impl.NdIf, d.word(1), d.block(deep), d.block(deep))
	case 2:
		if !d.low {
			return d.choose(deep)
		}
	}
	return node(impl.NdWhile, d.word(1), d.block(deep))
}

func (d *rightDrawer) choose(deep int) impl.Node {
	n := node(impl.NdSelect)
	for range 1 + d.IntN(3) {
		if s := d.some(false); s != "" && d.IntN(2) == 0 {
			n.Kids = append(n.Kids, named(impl.NdTake, s, d.channel(), d.block(deep-1)))
		} else {
			n.Kids = append(n.Kids, node(impl.NdGive, d.channel(), d.word(1), d.block(deep-1)))
		}
	}
	if d.IntN(2) == 0 {
		n.Kids = append(n.Kids, node(impl.NdElse, d.block(deep-1)))
	}
	return n
}

// pointersTo are all nodes of a tree, where they lie.
func pointersTo(n *impl.Node) []*impl.Node {
	out := []*impl.Node{n}
	for i := range n.Kids {
		out = append(out, pointersTo(&n.Kids[i])...)
	}
	return out
}

func (d *rightDrawer) someNode(f *impl.Func, ok func(n *impl.Node) bool) *impl.Node {
	all := slices.DeleteFunc(pointersTo(&f.Body), func(n *impl.Node) bool { return !ok(n) })
	if len(all) == 0 {
		return &impl.Node{}
	}
	return all[d.IntN(len(all))]
}

// turn makes one thing of a program another one, which leaves it tidy.
func (d *rightDrawer) turn(list []impl.Func) []impl.Func {
	f := &list[d.IntN(len(list))]
	switch kind := d.IntN(12); kind {
	case 0, 1:
		d.someNode(f, func(n *impl.Node) bool { return n.S != "" }).S = d.pick("a", "b", "c", "d", "e", "f", "g", "h", "main", "q")
	case 2, 3:
		e := []impl.Node{lit(1), vr(d.pick("a", "b", "c", "d", "q")), node(impl.NdMake, lit(1)), node(impl.NdPeek, lit(1)), node(impl.NdCore), named(impl.NdCall, d.pick("f", "g", "main"), lit(1)), named(impl.NdAddr, d.pick("f", "main", "q"))}[d.IntN(7)]
		*d.someNode(f, func(n *impl.Node) bool { return isExprOp(n.Op) }) = e
	case 4, 5, 6:
		d.turnBlock(d.someNode(f, func(n *impl.Node) bool { return n.Op == impl.NdBlock }))
	case 7:
		d.turnCases(d.someNode(f, func(n *impl.Node) bool { return n.Op == impl.NdSelect }))
	case 8:
		d.turnOp(d.someNode(f, func(n *impl.Node) bool {
			return n.Op > impl.NdBlock && n.Op < impl.NdDo || n.Op == impl.NdMake || n.Op == impl.NdPeek
		}))
	case 9:
		if len(f.Params) > 0 && d.IntN(2) == 0 {
			f.Params[d.IntN(len(f.Params))] = impl.Param{Name: d.pick("a", "b", "c", "z"), Chan: d.IntN(2) == 0}
		} else {
			f.Params = append(f.Params, impl.Param{Name: d.pick("a", "x", "y", "z"), Chan: d.IntN(3) == 0})
		}
	case 10:
		f.Name = d.pick("f", "g", "h", "main", "z")
	case 11:
		g := &list[d.IntN(len(list))]
		*f, *g = *g, *f
	}
	return list
}

func (d *rightDrawer) turnBlock(n *impl.Node) {
	if n.Op != impl.NdBlock {
		return
	}
	count := len(n.Kids)
	switch kind := d.IntN(5); {
	case kind == 0 && count > 0:
		n.Kids = append(n.Kids, cloneNode(n.Kids[d.IntN(count)]))
	case kind == 1 && count > 0:
		i := d.IntN(count)
		n.Kids = slices.Delete(slices.Clone(n.Kids), i, i+1)
	case kind == 2 && count > 0:
		i, j := d.IntN(count), d.IntN(count)
		n.Kids[i], n.Kids[j] = n.Kids[j], n.Kids[i]
	case kind == 3:
		for i := range d.IntN(8) {
			n.Kids = append(n.Kids, named(impl.NdLet, "l"+string(rune('a'+i)), lit(1)))
		}
	default:
		n.Kids = append(n.Kids, []impl.Node{node(impl.NdPrint, lit(1)), node(impl.NdOut, lit(1)), node(impl.NdSelect), named(impl.NdGo, d.pick("f", "main", "z")), named(impl.NdSet, d.pick("a", "b"), node(impl.NdMake, lit(1)))}[d.IntN(5)])
	}
}

func (d *rightDrawer) turnCases(n *impl.Node) {
	if len(n.Kids) == 0 {
		return
	}
	if d.IntN(2) == 0 {
		n.Kids = slices.Clone(n.Kids[1:])
		return
	}
	n.Kids = append([]impl.Node{cloneNode(n.Kids[0])}, n.Kids...)
}

func (d *rightDrawer) turnOp(n *impl.Node) {
	for _, ops := range [][]int{{impl.NdPrint, impl.NdReturn, impl.NdClose, impl.NdHalt, impl.NdOut, impl.NdDo}, {impl.NdSend, impl.NdPoke, impl.NdNote, impl.NdSwap}, {impl.NdLet, impl.NdSet, impl.NdRecv}, {impl.NdMake, impl.NdPeek}} {
		if slices.Contains(ops, n.Op) {
			n.Op = ops[d.IntN(len(ops))]
			return
		}
	}
}

func checkDrawn(t *testing.T, list []impl.Func, low bool) int {
	t.Helper()
	for _, f := range list {
		if got, want := impl.Vars(f), wantVars(f); !sameVars(got, want) {
			t.Errorf("Vars(%s) = %v, not %v", clip(f), got, want)
		}
	}
	return checkCode(t, list, low)
}

func TestDrawnProgramsThatAreChecked(t *testing.T) {
	for _, low := range []bool{false, true} {
		d := &rightDrawer{drawer: newDrawer(81), low: low}
		for range 3000 {
			list := d.program()
			if code := checkDrawn(t, list, low); code != impl.CkDone {
				t.Errorf("%.300q is %d with low %v", impl.Write(list), code, low)
			}
			checkDrawn(t, list, !low)
		}
	}
}

// Programs with one fault or some stay what they are, written and parsed; all codes are met.
func TestDrawnProgramsWithFaults(t *testing.T) {
	for _, low := range []bool{false, true} {
		d := &rightDrawer{drawer: newDrawer(82), low: low}
		met := make([]int, 8)
		for range 6000 {
			list := d.program()
			for range 1 + d.IntN(3) {
				list = d.turn(list)
			}
			if d.IntN(20) == 0 {
				d.spoilOne(list)
			}
			met[checkDrawn(t, list, low)]++
			checkDrawn(t, list, !low)
		}
		for code, count := range met {
			if never := code == impl.CkMain && low; count < 30 && !never || count > 0 && never {
				t.Errorf("code %d is met %d times with low %v: %v", code, count, low, met)
			}
		}
	}
}

func TestDrawnTreesAreChecked(t *testing.T) {
	d := newDrawer(83)
	for range 5000 {
		list, _ := d.program(d.IntN(4), 2+d.IntN(9))
		if d.IntN(3) == 0 && len(list) > 0 {
			d.spoilOne(list)
		}
		checkDrawn(t, list, false)
		checkDrawn(t, list, true)
	}
}

// Trees of any ops, most of them not tidy.
func TestVarsOfDrawnOddTrees(t *testing.T) {
	d := newDrawer(84)
	var grow func(deep int) impl.Node
	grow = func(deep int) impl.Node {
		n := impl.Node{Op: []int{impl.NdLet, impl.NdVar, impl.NdMake, impl.NdBlock, d.IntN(40) - 2}[d.IntN(5)], S: d.pick("", "x", "y", "z"), N: d.IntN(9) / 8}
		for range d.IntN(4) {
			if deep > 0 {
				n.Kids = append(n.Kids, grow(deep-1))
			}
		}
		return n
	}
	for range 20000 {
		f := impl.Func{Name: d.pick("", "f"), Body: grow(d.IntN(6))}
		for range d.IntN(4) {
			f.Params = append(f.Params, impl.Param{Name: d.pick("", "x", "y"), Chan: d.IntN(2) == 0})
		}
		checkDrawn(t, []impl.Func{f}, d.IntN(2) == 0)
	}
}

// letterName is a name of letters for each number.
func letterName(n int) string {
	out := ""
	for range 5 {
		out = string(rune('a'+n%26)) + out
		n /= 26
	}
	return "v" + out
}

func TestVarsOfDeepTrees(t *testing.T) {
	for _, deep := range []int{20, 100, 1000, 300000} {
		lets := named(impl.NdLet, "inmost", node(impl.NdMake, lit(1)))
		blocks := lets
		for range deep {
			lets = named(impl.NdLet, "x", lets)
			blocks = blk(node(impl.NdWhile, lit(1), blocks))
		}
		got := impl.Vars(impl.Func{Body: lets})
		if len(got) != deep+1 || got[0] != param("x") || got[deep-1] != param("x") || got[deep] != channel("inmost") {
			t.Errorf("NdLets %d deep have %d Vars", deep, len(got))
		}
		if got := impl.Vars(fn("f", []impl.Param{channel("c")}, blocks, named(impl.NdLet, "last", vr("c")))); !sameVars(got, []impl.Param{channel("c"), channel("inmost"), channel("last")}) {
			t.Errorf("blocks %d deep have %v", deep, got)
		}
		for _, f := range []impl.Func{{Body: lets}, fn("f", nil, lets), fn("main", nil, blocks), fn("main", nil, node(impl.NdReturn, deepTrees(deep)["right"]))} {
			if impl.Check([]impl.Func{f}, false) != impl.CkTidy || impl.Check([]impl.Func{fn("f", nil), f}, true) != impl.CkTidy {
				t.Errorf("what is %d deep is tidy", deep)
			}
		}
	}
	twice := lit(1)
	for range 200 {
		twice = node(impl.NdMul, twice, twice)
	}
	within := []impl.Node{{Op: impl.NdPeek}}
	within[0].Kids = within
	for _, e := range []impl.Node{twice, within[0]} {
		if impl.Check([]impl.Func{fn("main", nil, node(impl.NdReturn, e))}, true) != impl.CkTidy {
			t.Error("what is far too deep is tidy")
		}
	}
}

// As deep as a Body may be, and one more.
func TestCheckByHowDeepABodyIs(t *testing.T) {
	for deep := 1; deep <= 22; deep++ {
		e := vr("x")
		for range deep - 1 {
			e = node(impl.NdAdd, lit(1), e)
		}
		for _, there := range []bool{true, false} {
			list := []impl.Func{fn("main", nil, named(impl.NdLet, "y", lit(1)), node(impl.NdReturn, e))}
			want := impl.CkName
			if there {
				list[0].Body.Kids[0].S, want = "x", impl.CkDone
			}
			if deep > 18 {
				want = impl.CkTidy
			}
			if code := checkCode(t, list, false); code != want {
				t.Errorf("%d deep is %d, not %d", deep+2, code, want)
			}
		}
	}
}

func TestCheckOfLargeTrees(t *testing.T) {
	const count = 100000
	var lets, chained []impl.Node
	var params []impl.Param
	for i := range count {
		lets = append(lets, named(impl.NdLet, letterName(i), lit(1)))
		chained = append(chained, named(impl.NdLet, letterName(i+1), vr(letterName(i))))
		params = append(params, channel(letterName(i)))
	}
	give := node(impl.NdGive, vr("x"), lit(1), blk())
	sum := lit(1)
	for range 16 {
		sum = node(impl.NdAdd, sum, sum)
	}
	repeat := func(n impl.Node) []impl.Node { return slices.Repeat([]impl.Node{n}, count) }
	for what, k := range map[string]struct {
		f    impl.Func
		code int
	}{
		"one let":       {fn("main", nil, repeat(named(impl.NdLet, "x", lit(1)))...), impl.CkTwice},
		"lets":          {fn("main", nil, lets...), impl.CkMany},
		"chained lets":  {fn("main", params[:1], chained...), impl.CkMany},
		"a let more":    {fn("main", nil, append(slices.Clip(lets), lets[count-1])...), impl.CkTwice},
		"params":        {fn("main", params), impl.CkMany},
		"a param more":  {fn("main", append(slices.Clip(params), params[0])), impl.CkTwice},
		"cases":         {fn("main", []impl.Param{channel("x")}, node(impl.NdSelect, repeat(give)...)), impl.CkMany},
		"statements":    {fn("main", nil, repeat(node(impl.NdReturn, lit(1)))...), impl.CkDone},
		"names":         {fn("main", nil, append(repeat(node(impl.NdReturn, lit(1))), node(impl.NdReturn, vr("x")))...), impl.CkName},
		"args":          {fn("main", nil, node(impl.NdDo, named(impl.NdCall, "f", repeat(lit(1))...))), impl.CkName},
		"a large sum":   {fn("main", nil, named(impl.NdLet, "x", sum), node(impl.NdReturn, sum), node(impl.NdReturn, vr("x"))), impl.CkDone},
		"its own large": {fn("main", nil, named(impl.NdLet, "x", node(impl.NdAdd, sum, vr("x")))), impl.CkName},
	} {
		for _, low := range []bool{false, true} {
			if code := impl.Check([]impl.Func{k.f}, low); code != k.code {
				t.Errorf("%s: %d with low %v, not %d", what, code, low, k.code)
			}
		}
	}
	got := impl.Vars(fn("f", params[:1], chained...))
	if len(got) != count+1 || slices.ContainsFunc(got, func(v impl.Param) bool { return !v.Chan }) || got[count].Name != letterName(count) {
		t.Errorf("%d chained lets", len(got))
	}
	if got := impl.Vars(fn("f", params, lets...)); len(got) != 2*count || !sameVars(got[:count], params) || got[2*count-1] != param(letterName(count-1)) {
		t.Errorf("%d params and lets", len(got))
	}
	long := strings.Repeat("a", 10000000)
	wantVarsOf(t, fn(long, []impl.Param{channel(long)}, named(impl.NdLet, "x", vr(long)), named(impl.NdLet, long, lit(1))), channel(long), channel("x"), param(long))
}

// Many functions that name each other.
func TestCheckOfManyFunctions(t *testing.T) {
	var list []impl.Func
	for i := range 40 {
		f := fn(letterName(i), []impl.Param{param("a")})
		for j := range i {
			f.Body.Kids = append(f.Body.Kids, node(impl.NdDo, named(impl.NdCall, letterName(j), vr("a"))))
		}
		list = append(list, f)
	}
	if impl.Check(list, true) != impl.CkDone || impl.Check(list, false) != impl.CkMain {
		t.Error("functions that call those ahead are not checked")
	}
	for i := range list {
		for j := range list {
			other := slices.Clone(list)
			other[i].Body = blk(append(slices.Clone(list[i].Body.Kids), node(impl.NdDo, named(impl.NdCall, letterName(j), lit(1))))...)
			want := impl.CkName
			if j < i {
				want = impl.CkDone
			}
			if code := impl.Check(other, true); code != want {
				t.Errorf("function %d calls %d: %d, not %d", i, j, code, want)
			}
		}
	}
}

// withEmpty is the same tree, with that for each list without kids.
func withEmpty(n impl.Node, empty []impl.Node) impl.Node {
	n = cloneNode(n)
	if len(n.Kids) == 0 {
		n.Kids = empty
	}
	for i, k := range n.Kids {
		n.Kids[i] = withEmpty(k, empty)
	}
	return n
}

func TestCheckWithListsThatAreEmptyAndNil(t *testing.T) {
	for _, list := range listsForCheck() {
		for _, empty := range [][]impl.Node{nil, {}, make([]impl.Node, 0, 4), make([]impl.Node, 4)[4:]} {
			for _, none := range [][]impl.Param{nil, {}, make([]impl.Param, 0, 2)} {
				other := slices.Clone(list)
				for i, f := range other {
					other[i].Body = withEmpty(f.Body, empty)
					if len(f.Params) == 0 {
						other[i].Params = none
					}
					if !sameVars(impl.Vars(other[i]), impl.Vars(f)) {
						t.Errorf("%s has other Vars with lists that are empty", clip(f))
					}
				}
				if impl.Check(other, false) != impl.Check(list, false) || impl.Check(other, true) != impl.Check(list, true) {
					t.Errorf("%s is checked otherwise with lists that are empty", clip(list))
				}
			}
		}
	}
}

// listsForCheck are functions of each code, in both storeys.
func listsForCheck() [][]impl.Func {
	out := listsForMemory()
	high, low := doneTexts()
	texts := slices.Concat(high, low)
	for _, a := range slices.Concat(faultTexts(false), faultTexts(true)) {
		texts = append(texts, "func f(a, c chan) { "+a.text+" }"+mainText)
	}
	for _, src := range texts {
		list, _ := impl.Parse(src)
		out = append(out, list)
	}
	for _, low := range []bool{false, true} {
		d := &rightDrawer{drawer: newDrawer(85), low: low}
		for range 20 {
			out = append(out, d.program(), d.turn(d.program()))
		}
	}
	for _, n := range opParts() {
		out = append(out, []impl.Func{{Name: "f", Params: []impl.Param{channel("x")}, Body: n}})
	}
	return out
}

func TestVarsAndCheckWriteNowhere(t *testing.T) {
	for _, list := range listsForCheck() {
		high, low := impl.Check(list, false), impl.Check(list, true)
		roomy := withRoomBehind(list)
		kept := cloneFuncs(roomy)
		if impl.Check(roomy, false) != high || impl.Check(roomy, true) != low {
			t.Errorf("%s is checked otherwise with room behind its lists", clip(list))
		}
		for i, f := range roomy {
			if !sameVars(impl.Vars(f), impl.Vars(list[i])) {
				t.Errorf("%s has other Vars with room behind its lists", clip(f))
			}
		}
		if !slices.EqualFunc(roomy, kept, sameFunc) || !roomBehindIsKept(roomy) {
			t.Errorf("%s is written into", clip(list))
		}
	}
}

func TestVarsAndCheckAnswerTheSameAgain(t *testing.T) {
	lists := listsForCheck()
	for i, list := range lists {
		other := lists[(i+1)%len(lists)]
		high, low := impl.Check(list, false), impl.Check(list, true)
		for range 3 {
			impl.Check(other, false)
			impl.Check(other, true)
			if impl.Check(list, false) != high || impl.Check(list, true) != low {
				t.Errorf("%s is checked otherwise when it is asked again", clip(list))
			}
		}
		for _, f := range list {
			vars := impl.Vars(f)
			for _, g := range other {
				impl.Vars(g)
			}
			if !sameVars(impl.Vars(f), vars) {
				t.Errorf("%s has other Vars when it is asked again", clip(f))
			}
		}
	}
}

// textsOf are all texts of a function.
func textsOf(f impl.Func) []string {
	out := []string{f.Name}
	for _, p := range f.Params {
		out = append(out, p.Name)
	}
	for _, n := range nodesOf(f.Body) {
		out = append(out, n.S)
	}
	return out
}

// What Vars answers is its own: lists, their spare room, and names.
func TestEachListOfVarsIsItsOwn(t *testing.T) {
	for _, list := range listsForCheck() {
		for _, f := range withRoomBehind(list) {
			one, other := impl.Vars(f), impl.Vars(f)
			kept, was := slices.Clone(other), cloneFuncs([]impl.Func{f})[0]
			for i := range one[:cap(one)] {
				one[:cap(one)][i] = impl.Param{Name: "spoilt", Chan: true}
			}
			if !sameVars(other, kept) || !sameFunc(f, was) || !roomIsKept(f.Body) || !sameVars(impl.Vars(f), kept) {
				t.Fatalf("the Vars of %s are not its own", clip(f))
			}
			lies := map[*byte]bool{}
			for _, s := range textsOf(f) {
				lies[unsafe.StringData(s)] = s != ""
			}
			if slices.ContainsFunc(other, func(v impl.Param) bool { return v.Name != "" && lies[unsafe.StringData(v.Name)] }) {
				t.Fatalf("a name of the Vars of %s lies in what was given", clip(f))
			}
			for i := range f.Params {
				f.Params[i] = impl.Param{Name: "spoilt", Chan: true}
			}
			if !sameVars(other, kept) {
				t.Fatalf("the Vars of %s are turned with its Params", clip(was))
			}
		}
	}
}

func TestCheckedSideBySide(t *testing.T) {
	lists := listsForCheck()
	var codes [][2]int
	for _, list := range lists {
		codes = append(codes, [2]int{impl.Check(list, false), impl.Check(list, true)})
	}
	var group sync.WaitGroup
	wrong := make([]int, 8)
	for worker := range wrong {
		group.Go(func() {
			for i, list := range lists {
				wrong[worker] += flag(impl.Check(list, false) != codes[i][0]) + flag(impl.Check(list, true) != codes[i][1])
				for _, f := range list {
					wrong[worker] += flag(!sameVars(impl.Vars(f), wantVars(f)))
				}
			}
		})
	}
	group.Wait()
	if !slices.Equal(wrong, make([]int, 8)) {
		t.Errorf("answers side by side are others: %v", wrong)
	}
}
