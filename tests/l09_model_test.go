package tests

import (
	"slices"

	"loop.example/g00286/impl"
)

const mostBegun = 20000

// trace is a run without a thought of fuel, up to the node that no fuel is enough for: how it ends, and for each node that was begun how many words had been printed by then. So what each fuel makes of it is read from the one trace.
type trace struct {
	refused bool
	code    int
	value   int
	out     []int
	begun   []int
}

// What a run panics with where it does not just go on.
type (
	runReturns int
	runStops   struct{}
	runTooLong struct{}
)

// wantTrace is the document's words of Eval, but for its fuel.
func wantTrace(list []impl.Func, name string, args []int) *trace {
	w := &trace{}
	i := slices.IndexFunc(list, func(f impl.Func) bool { return f.Name == name })
	if wantCheck(list, false) != impl.CkDone || i < 0 || len(args) != len(list[i].Params) || !wordsOk(args...) || slices.ContainsFunc(list[i].Params, func(p impl.Param) bool { return p.Chan }) {
		w.refused = true
		return w
	}
	w.run(list, name, args)
	return w
}

func (w *trace) run(list []impl.Func, name string, args []int) {
	defer func() {
		switch r := recover().(type) {
		case nil, runTooLong:
		case runStops:
			w.code = impl.EvStop
		default:
			panic(r)
		}
	}()
	w.value = w.function(list, name, args)
}

func (w *trace) function(list []impl.Func, name string, args []int) (value int) {
	f := list[slices.IndexFunc(list, func(f impl.Func) bool { return f.Name == name })]
	vars := map[string]int{}
	for i, v := range wantVars(f) {
		vars[v.Name] = 0
		if i < len(args) {
			vars[v.Name] = args[i]
		}
	}
	defer func() {
		switch r := recover().(type) {
		case nil:
		case runReturns:
			value = int(r)
		default:
			panic(r)
		}
	}()
	w.all(list, vars, f.Body.Kids)
	return 0
}

func (w *trace) begin() {
	w.begun = append(w.begun, len(w.out))
	if len(w.begun) > mostBegun {
		panic(runTooLong{})
	}
}

func (w *trace) all(list []impl.Func, vars map[string]int, lines []impl.Node) {
	for _, n := range lines {
		w.line(list, vars, n)
	}
}

func (w *trace) line(list []impl.Func, vars map[string]int, n impl.Node) {
	w.begin()
	e := func() int { return w.expr(list, vars, n.Kids[0]) }
	switch n.Op {
	case impl.NdLet, impl.NdSet:
		vars[n.S] = e()
	case impl.NdIf:
		if e() != 0 {
			w.all(list, vars, n.Kids[1].Kids)
		} else if len(n.Kids) == 3 {
			w.all(list, vars, n.Kids[2].Kids)
		}
	case impl.NdWhile:
		for e() != 0 {
			w.all(list, vars, n.Kids[1].Kids)
		}
	case impl.NdPrint:
		w.out = append(w.out, e())
	case impl.NdReturn:
		panic(runReturns(e()))
	case impl.NdDo:
		e()
	default:
		panic(runStops{})
	}
}

func (w *trace) expr(list []impl.Func, vars map[string]int, n impl.Node) int {
	w.begin()
	switch n.Op {
	case impl.NdNum:
		return n.N
	case impl.NdVar:
		return vars[n.S]
	case impl.NdMake:
		panic(runStops{})
	}
	kids := make([]int, len(n.Kids))
	for i, k := range n.Kids {
		kids[i] = w.expr(list, vars, k)
	}
	switch n.Op {
	case impl.NdCall:
		return w.function(list, n.S, kids)
	case impl.NdAdd:
		return wrap(kids[0] + kids[1])
	case impl.NdSub:
		return wrap(kids[0] - kids[1])
	case impl.NdMul:
		return wrap(kids[0] * kids[1])
	case impl.NdLess:
		return flag(kids[0] < kids[1])
	}
	return flag(kids[0] == kids[1])
}

// with is what Eval answers with that fuel.
func (w *trace) with(fuel int) impl.Result {
	fuel = min(fuel, mostBegun)
	switch {
	case w.refused:
		return impl.Result{Code: impl.EvStop}
	case fuel < 0:
		return impl.Result{Code: impl.EvFuel}
	case len(w.begun) > fuel:
		return impl.Result{Code: impl.EvFuel, Out: w.out[:w.begun[fuel]]}
	}
	return impl.Result{Code: w.code, Value: w.value, Out: w.out}
}
