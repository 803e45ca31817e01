package tests

import (
	"slices"

	"loop.example/g00286/impl"
)

// askedKids has, of each op, what its kids must be: w a word, c a channel, x either of these, = what S is, ( what the Params of the function are, . no expr at all. The last letter goes for all kids behind it.
var askedKids = map[int]string{
	impl.NdBlock: ".", impl.NdLet: "x", impl.NdSet: "=", impl.NdIf: "w.", impl.NdWhile: "w.", impl.NdPrint: "w", impl.NdReturn: "w", impl.NdGo: "(", impl.NdSend: "cw", impl.NdRecv: "c", impl.NdClose: "c",
	impl.NdSelect: ".", impl.NdPoke: "w", impl.NdNote: "w", impl.NdSwap: "w", impl.NdHalt: "w", impl.NdOut: "w", impl.NdDo: "w",
	impl.NdAdd: "w", impl.NdSub: "w", impl.NdMul: "w", impl.NdLess: "w", impl.NdSame: "w", impl.NdCall: "(", impl.NdMake: "w", impl.NdPeek: "w", impl.NdCas: "w",
	impl.NdTake: "c.", impl.NdGive: "cw.", impl.NdElse: ".",
}

var (
	lowOps  = []int{impl.NdPoke, impl.NdNote, impl.NdSwap, impl.NdHalt, impl.NdOut, impl.NdPeek, impl.NdCas, impl.NdCore, impl.NdAddr}
	highOps = []int{impl.NdPrint, impl.NdGo, impl.NdSend, impl.NdRecv, impl.NdClose, impl.NdSelect, impl.NdMake}
)

// nodesOf are all nodes of a tree, in the order of the text.
func nodesOf(n impl.Node) []impl.Node {
	out := []impl.Node{n}
	for _, k := range n.Kids {
		out = append(out, nodesOf(k)...)
	}
	return out
}

func nodesOfOp(f impl.Func, ops ...int) []impl.Node {
	return slices.DeleteFunc(nodesOf(f.Body), func(n impl.Node) bool { return !slices.Contains(ops, n.Op) })
}

func isChanBy(e impl.Node, vars []impl.Param) bool {
	return e.Op == impl.NdMake || e.Op == impl.NdVar && slices.Contains(vars, impl.Param{Name: e.S, Chan: true})
}

func wantVars(f impl.Func) []impl.Param {
	out := slices.Clone(f.Params)
	for _, n := range nodesOfOp(f, impl.NdLet) {
		out = append(out, impl.Param{Name: n.S, Chan: len(n.Kids) > 0 && isChanBy(n.Kids[0], out)})
	}
	return out
}

// codesOf are all codes that one function of a list has, whichever comes first.
func codesOf(list []impl.Func, at int, low bool) []int {
	var out []int
	for code, broken := range map[int]func([]impl.Func, int, bool) bool{
		impl.CkTwice: brokenTwice, impl.CkMany: brokenMany, impl.CkName: brokenName, impl.CkType: brokenType, impl.CkLow: brokenLow,
	} {
		if broken(list, at, low) {
			out = append(out, code)
		}
	}
	slices.Sort(out)
	return out
}

// wantCheck is the document's words of Check.
func wantCheck(list []impl.Func, low bool) int {
	if !impl.Tidy(list) {
		return impl.CkTidy
	}
	for at := range list {
		if codes := codesOf(list, at, low); len(codes) > 0 {
			return codes[0]
		}
	}
	if !low && (len(list) == 0 || list[len(list)-1].Name != "main" || len(list[len(list)-1].Params) > 0) {
		return impl.CkMain
	}
	return impl.CkDone
}

func brokenTwice(list []impl.Func, at int, _ bool) bool {
	for _, f := range list[:at] {
		if f.Name == list[at].Name {
			return true
		}
	}
	vars := wantVars(list[at])
	slices.SortFunc(vars, func(a, b impl.Param) int { return slices.Compare([]byte(a.Name), []byte(b.Name)) })
	return len(slices.CompactFunc(vars, func(a, b impl.Param) bool { return a.Name == b.Name })) < len(wantVars(list[at]))
}

func brokenMany(list []impl.Func, at int, _ bool) bool {
	for _, n := range nodesOfOp(list[at], impl.NdSelect) {
		cases := slices.DeleteFunc(slices.Clone(n.Kids), func(k impl.Node) bool { return k.Op == impl.NdElse })
		if len(cases) < 1 || len(cases) > 3 {
			return true
		}
	}
	return len(list[at].Params) > 4 || len(list[at].Params)+len(nodesOfOp(list[at], impl.NdLet)) > 8
}

// mentionsOf are the nodes as they name something, in the order of the text: an NdLet when it has ended.
func mentionsOf(n impl.Node) []impl.Node {
	var within []impl.Node
	for _, k := range n.Kids {
		within = append(within, mentionsOf(k)...)
	}
	if n.Op == impl.NdLet {
		return append(within, n)
	}
	return append([]impl.Node{n}, within...)
}

func functionBy(list []impl.Func, n impl.Node) (impl.Func, bool) {
	i := slices.IndexFunc(list, func(f impl.Func) bool {
		return f.Name == n.S && (n.Op == impl.NdAddr || len(f.Params) == len(n.Kids))
	})
	if i < 0 {
		return impl.Func{}, false
	}
	return list[i], true
}

func brokenName(list []impl.Func, at int, _ bool) bool {
	var ahead []string
	for _, p := range list[at].Params {
		ahead = append(ahead, p.Name)
	}
	for _, n := range mentionsOf(list[at].Body) {
		ok := true
		switch n.Op {
		case impl.NdLet:
			ahead = append(ahead, n.S)
		case impl.NdVar, impl.NdSet, impl.NdRecv, impl.NdTake:
			ok = slices.Contains(ahead, n.S)
		case impl.NdCall:
			_, ok = functionBy(list[:at], n)
		case impl.NdGo, impl.NdAddr:
			_, ok = functionBy(list, n)
		}
		if !ok {
			return true
		}
	}
	return false
}

// brokenType takes a name that is none to be a word, and a function that is none to take words: CkName is told there.
func brokenType(list []impl.Func, at int, _ bool) bool {
	vars := wantVars(list[at])
	for _, n := range nodesOf(list[at].Body) {
		if (n.Op == impl.NdRecv || n.Op == impl.NdTake) && isChanBy(vr(n.S), vars) {
			return true
		}
		for i, k := range n.Kids {
			asked := askedKids[n.Op]
			letter := asked[min(i, len(asked)-1)]
			is, must := isChanBy(k, vars), letter == 'c'
			switch letter {
			case 'x', '.':
				continue
			case '=':
				must = isChanBy(vr(n.S), vars)
			case '(':
				f, ok := functionBy(list, n)
				must = ok && f.Params[i].Chan
			}
			if is != must {
				return true
			}
		}
	}
	return false
}

func brokenLow(list []impl.Func, at int, low bool) bool {
	if !low {
		return len(nodesOfOp(list[at], lowOps...)) > 0
	}
	return len(nodesOfOp(list[at], highOps...)) > 0 || slices.ContainsFunc(list[at].Params, func(p impl.Param) bool { return p.Chan })
}
