package tests

import (
	"slices"
	"strings"

	"loop.example/g00286/impl"
)

const (
	mostRegs   = 250
	mostPlaces = 900
	mostUnits  = 80
	mostParams = 4
)

// tacForm says of an op which fields it names (D, A, B, N, S, and V, its Args), and which of them it sets and reads, in that order (C: of Args what a select reads).
type tacForm struct {
	op     int
	number int
	names  string
	sets   string
	reads  string
}

// tacForms are the ops in the document's order, with the numbers that it gives them.
var tacForms = []tacForm{
	{impl.TcNum, 1, "DN", "D", ""},
	{impl.TcCopy, 2, "DA", "D", "A"},
	{impl.TcAdd, 3, "DAB", "D", "AB"},
	{impl.TcSub, 4, "DAB", "D", "AB"},
	{impl.TcMul, 5, "DAB", "D", "AB"},
	{impl.TcLess, 6, "DAB", "D", "AB"},
	{impl.TcSame, 7, "DAB", "D", "AB"},
	{impl.TcLabel, 8, "N", "", ""},
	{impl.TcJump, 9, "N", "", ""},
	{impl.TcZero, 10, "AN", "", "A"},
	{impl.TcCall, 11, "DSV", "D", "V"},
	{impl.TcRet, 12, "A", "", "A"},
	{impl.TcPrint, 13, "A", "", "A"},
	{impl.TcGo, 14, "SV", "", "V"},
	{impl.TcMake, 15, "DA", "D", "A"},
	{impl.TcSend, 16, "AB", "", "AB"},
	{impl.TcRecv, 17, "DA", "D", "A"},
	{impl.TcClose, 18, "A", "", "A"},
	{impl.TcSelect, 19, "DBNV", "DB", "C"},
	{impl.TcPeek, 20, "DA", "D", "A"},
	{impl.TcPoke, 21, "AB", "", "AB"},
	{impl.TcCas, 22, "DABV", "D", "ABV"},
	{impl.TcCore, 23, "D", "D", ""},
	{impl.TcAddr, 24, "DS", "D", ""},
	{impl.TcOut, 25, "A", "", "A"},
	{impl.TcNote, 26, "AB", "", "AB"},
	{impl.TcSwap, 27, "AB", "", "AB"},
	{impl.TcHalt, 28, "A", "", "A"},
}

func tacFormOf(op int) (tacForm, bool) {
	i := slices.IndexFunc(tacForms, func(f tacForm) bool { return f.op == op })
	if i < 0 {
		return tacForm{}, false
	}
	return tacForms[i], true
}

func tacField(t *impl.Tac, name rune) *int {
	switch name {
	case 'D':
		return &t.D
	case 'A':
		return &t.A
	case 'B':
		return &t.B
	}
	return &t.N
}

// toldBy is the registers of the fields that are named so.
func toldBy(t impl.Tac, names string) []int {
	var out []int
	for _, name := range names {
		switch name {
		case 'V':
			out = append(out, t.Args...)
		case 'C':
			out = append(out, selectReads(t.Args)...)
		default:
			out = append(out, *tacField(&t, name))
		}
	}
	return out
}

// selectReads goes over Args one by one: each stands first, second or third in its case. What is left behind the last whole case is none.
func selectReads(args []int) []int {
	var out []int
	for i, n := range args[:len(args)-len(args)%3] {
		if i%3 == 1 || i%3 == 2 && args[i-2] == 2 {
			out = append(out, n)
		}
	}
	return out
}

func wantSets(t impl.Tac) []int {
	f, _ := tacFormOf(t.Op)
	return toldBy(t, f.sets)
}

func wantUses(t impl.Tac) []int {
	f, _ := tacFormOf(t.Op)
	return toldBy(t, f.reads)
}

// unitRules are what is asked of a unit, each by itself, so that a test can say that just one of them is broken.
var unitRules = map[string]func(u impl.Unit) bool{
	"regs":   func(u impl.Unit) bool { return u.Regs >= 0 && u.Regs <= mostRegs },
	"params": func(u impl.Unit) bool { return u.Params >= 0 && u.Params <= mostParams },
	"both":   func(u impl.Unit) bool { return u.Params <= u.Regs },
	"none":   func(u impl.Unit) bool { return len(u.Code) > 0 },
	"many":   func(u impl.Unit) bool { return len(u.Code) <= mostPlaces },
	"last": func(u impl.Unit) bool {
		return len(u.Code) == 0 || strings.Contains(" 9 12 28 ", " "+impl.Digits(u.Code[len(u.Code)-1].Op)+" ")
	},
	"twice": func(u impl.Unit) bool {
		labels := labelsOf(u)
		slices.Sort(labels)
		return len(slices.Compact(labels)) == len(labelsOf(u))
	},
	"nowhere":  eachTac(func(u impl.Unit, t impl.Tac) bool { return !goesTo(t) || slices.Contains(labelsOf(u), t.N) }),
	"op":       eachTac(func(_ impl.Unit, t impl.Tac) bool { return t.Op >= 1 && t.Op <= 28 }),
	"register": eachTac(func(u impl.Unit, t impl.Tac) bool { return registersOf(u, wantSets(t)) && registersOf(u, wantUses(t)) }),
	"word":     eachTac(func(_ impl.Unit, t impl.Tac) bool { return wordsOk(t.N) }),
	"label":    eachTac(func(_ impl.Unit, t impl.Tac) bool { return t.Op != impl.TcLabel || t.N >= 0 && t.N <= mostPlaces }),
	"unnamed":  eachTac(func(_ impl.Unit, t impl.Tac) bool { return unnamedIsZero(t) }),
	"args": eachTac(func(_ impl.Unit, t impl.Tac) bool {
		return t.Op != impl.TcCall && t.Op != impl.TcGo || len(t.Args) <= mostParams
	}),
	"cas": eachTac(func(_ impl.Unit, t impl.Tac) bool { return t.Op != impl.TcCas || len(t.Args) == 1 }),
	"threes": eachTac(func(_ impl.Unit, t impl.Tac) bool {
		return t.Op != impl.TcSelect || slices.Contains([]int{3, 6, 9}, len(t.Args))
	}),
	"kind": eachSelected(func(kind, _ int) bool { return kind == 1 || kind == 2 }),
	"take": eachSelected(func(kind, value int) bool { return kind != 1 || value == 0 }),
	"default": eachTac(func(_ impl.Unit, t impl.Tac) bool {
		return t.Op != impl.TcSelect || t.N == 0 || t.N == 1
	}),
}

func eachTac(ok func(u impl.Unit, t impl.Tac) bool) func(u impl.Unit) bool {
	return func(u impl.Unit) bool {
		return !slices.ContainsFunc(u.Code, func(t impl.Tac) bool { return !ok(u, t) })
	}
}

func eachSelected(ok func(kind, value int) bool) func(u impl.Unit) bool {
	return eachTac(func(_ impl.Unit, t impl.Tac) bool {
		for i := 2; i < len(t.Args) && t.Op == impl.TcSelect; i += 3 {
			if !ok(t.Args[i-2], t.Args[i]) {
				return false
			}
		}
		return true
	})
}

func labelsOf(u impl.Unit) []int {
	var out []int
	for _, t := range u.Code {
		if t.Op == impl.TcLabel {
			out = append(out, t.N)
		}
	}
	return out
}

func goesTo(t impl.Tac) bool { return t.Op == impl.TcJump || t.Op == impl.TcZero }

func registersOf(u impl.Unit, list []int) bool {
	return !slices.ContainsFunc(list, func(r int) bool { return r < 0 || r >= u.Regs })
}

// unnamedIsZero is true of an op that is none, which names nothing and breaks another rule.
func unnamedIsZero(t impl.Tac) bool {
	f, ok := tacFormOf(t.Op)
	if !ok {
		return true
	}
	for _, name := range "DABN" {
		if !strings.ContainsRune(f.names, name) && *tacField(&t, name) != 0 {
			return false
		}
	}
	return (strings.Contains(f.names, "S") || t.S == "") && (strings.Contains(f.names, "V") || len(t.Args) == 0)
}

// unitFaults are the rules that a unit breaks, sorted.
func unitFaults(u impl.Unit) []string {
	var out []string
	for name, ok := range unitRules {
		if !ok(u) {
			out = append(out, name)
		}
	}
	slices.Sort(out)
	return out
}

func wantUnitOk(u impl.Unit) bool { return len(unitFaults(u)) == 0 }

// unitsFaults are what is amiss in a list of units, sorted: too many of them, one that is not right, two of one name, one that is named and not there, Args that are not as many as Params.
func unitsFaults(list []impl.Unit) []string {
	broken := map[string]bool{"many": len(list) > mostUnits}
	for i, u := range list {
		broken["unit"] = broken["unit"] || !wantUnitOk(u)
		for _, other := range list[:i] {
			broken["twice"] = broken["twice"] || other.Name == u.Name
		}
		for _, t := range u.Code {
			if t.Op == impl.TcCall || t.Op == impl.TcGo || t.Op == impl.TcAddr {
				at := slices.IndexFunc(list, func(u impl.Unit) bool { return u.Name == t.S })
				broken["nowhere"] = broken["nowhere"] || at < 0
				broken["args"] = broken["args"] || at >= 0 && t.Op != impl.TcAddr && list[at].Params != len(t.Args)
			}
		}
	}
	var out []string
	for name, so := range broken {
		if so {
			out = append(out, name)
		}
	}
	slices.Sort(out)
	return out
}

func wantUnitsOk(list []impl.Unit) bool { return len(unitsFaults(list)) == 0 }
