package tests

import (
	"slices"

	"loop.example/g00286/impl"
)

func isEnd(x impl.Tac) bool {
	return slices.Contains([]int{impl.TcJump, impl.TcRet, impl.TcHalt}, x.Op)
}

// goneFor are the document's reasons why a place goes, each by itself, told by the places as they stand.
var goneFor = map[string]func(code []impl.Tac, i int) bool{
	// Back from the place one comes to an end ahead of a label.
	"unmet": func(code []impl.Tac, i int) bool {
		for ; i > 0 && code[i].Op != impl.TcLabel; i-- {
			if isEnd(code[i-1]) {
				return true
			}
		}
		return false
	},
	"jump": func(code []impl.Tac, i int) bool {
		return code[i].Op == impl.TcJump && i < len(code)-1 && sameTac(code[i+1], label(code[i].N))
	},
	"label": func(code []impl.Tac, i int) bool {
		return code[i].Op == impl.TcLabel && !slices.ContainsFunc(code, func(x impl.Tac) bool { return goesTo(x) && x.N == code[i].N })
	},
}

// goneFrom are the places that go, ascending, as all of them stand.
func goneFrom(code []impl.Tac) []int {
	var out []int
	for i := range code {
		for _, goes := range goneFor {
			if goes(code, i) {
				out = append(out, i)
				break
			}
		}
	}
	return out
}

// wantClean is the document's words of Clean: in each turn all places go that may go as it begins.
func wantClean(u impl.Unit) impl.Unit {
	if !wantUnitOk(u) {
		return u
	}
	for {
		gone := goneFrom(u.Code)
		var left []impl.Tac
		for i, x := range u.Code {
			if _, goes := slices.BinarySearch(gone, i); !goes {
				left = append(left, x)
			}
		}
		if len(gone) == 0 || len(left) == 0 || !isEnd(left[len(left)-1]) {
			return u
		}
		u.Code = left
	}
}

// cleanOneByOne lets one place go after the other, which of them is picked, as long as one may go.
func cleanOneByOne(u impl.Unit, pick func(count int) int) impl.Unit {
	u = cloneUnit(u)
	for {
		gone := goneFrom(u.Code)
		if len(gone) == 0 {
			return u
		}
		i := gone[pick(len(gone))]
		u.Code = slices.Delete(u.Code, i, i+1)
	}
}

// inTurns does these passes one behind the other, so many times.
func inTurns(times int, passes ...func(u impl.Unit) impl.Unit) func(u impl.Unit) impl.Unit {
	return func(u impl.Unit) impl.Unit {
		for range times {
			for _, pass := range passes {
				u = pass(u)
			}
		}
		return u
	}
}

// wantBetter is the document's words of Better.
func wantBetter(u impl.Unit) impl.Unit {
	return inTurns(3, wantFold, wantForward, wantDead, wantClean)(u)
}

// wantBetterAll is the document's words of BetterAll.
func wantBetterAll(list []impl.Unit) []impl.Unit {
	if !wantUnitsOk(list) {
		return list
	}
	var out []impl.Unit
	for _, u := range list {
		out = append(out, wantBetter(u))
	}
	return out
}
