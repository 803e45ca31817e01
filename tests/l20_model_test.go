package tests

import (
	"slices"
	"strings"
	"sync"

	"loop.example/g00286/impl"
)

// calledFor are what becomes one call: its name, where its Args come from, and whether its value is for D, or else for a new register.
var calledFor = map[int]struct {
	name, args string
	forD       bool
}{
	impl.TcPrint: {"rtprint", "A", false},
	impl.TcMake:  {"rtmake", "A", true},
	impl.TcSend:  {"rtsend", "AB", false},
	impl.TcRecv:  {"rtrecv", "A", true},
	impl.TcClose: {"rtclose", "A", false},
}

func seenByOthers(x impl.Tac) bool { return x.Op >= 13 && x.Op <= 19 }

// wantPut is what stands in the place of x, where the registers from r on are new, and how many of them there are.
func wantPut(x impl.Tac, r int) ([]impl.Tac, int) {
	switch x.Op {
	case impl.TcGo:
		asked, last := wantAsked(x, r, nil)
		return append(asked, into(last, addr(x.S)), number(last+1, len(x.Args)), into(last+2, call("rtgo", last, last+1))), last + 3 - r
	case impl.TcSelect:
		var numbers []int
		for i := range x.Args {
			if i%3 == 0 || i%3 == 2 && x.Args[i-2] == 1 {
				numbers = append(numbers, i)
			}
		}
		asked, last := wantAsked(x, r, numbers)
		return append(asked, number(last, len(x.Args)/3), number(last+1, x.N), into(x.D, call("rtselect", last, last+1)),
			number(last+2, 3), sum(last+3, r, last+2), place(impl.TcPeek, x.B, last+3, 0)), last + 4 - r
	}
	c, there := calledFor[x.Op]
	switch {
	case !there:
		return []impl.Tac{x}, 0
	case c.forD:
		return []impl.Tac{into(x.D, call(c.name, toldBy(x, c.args)...))}, 0
	}
	return []impl.Tac{into(r, call(c.name, toldBy(x, c.args)...))}, 1
}

// wantAsked puts each of Args where the scheduler looks for it, those that are told as numbers; and which register is the next new one.
func wantAsked(x impl.Tac, r int, numbers []int) ([]impl.Tac, int) {
	code := []impl.Tac{into(r, call("rtself"))}
	next := r + 1
	for i, arg := range x.Args {
		if slices.Contains(numbers, i) {
			code = append(code, number(next, arg))
			arg = next
			next++
		}
		code = append(code, number(next, 7+i), sum(next+1, r, next), place(impl.TcPoke, 0, next+1, arg))
		next += 2
	}
	return code, next
}

// wantJoin is the document's words of Join.
func wantJoin(u impl.Unit) impl.Unit {
	if !wantUnitOk(u) {
		return u
	}
	joined := impl.Unit{Name: u.Name, Params: u.Params, Regs: u.Regs}
	for _, x := range u.Code {
		code, more := wantPut(x, joined.Regs)
		joined.Code = append(joined.Code, code...)
		joined.Regs += more
	}
	if !wantUnitOk(joined) {
		return u
	}
	return joined
}

// theScheduler are the scheduler's units, made once, as they are asked for often; schedUnits hands out a copy.
var theScheduler = sync.OnceValue(impl.SchedUnits)

func schedUnits() []impl.Unit { return cloneUnits(theScheduler()) }

// joinFaults are the reasons why JoinAll tells nothing, sorted.
func joinFaults(list []impl.Unit) []string {
	all := schedUnits()
	broken := map[string]bool{}
	for _, u := range list {
		u = wantJoin(u)
		broken["name"] = broken["name"] || strings.HasPrefix(u.Name, "rt")
		broken["seen"] = broken["seen"] || slices.ContainsFunc(u.Code, seenByOthers)
		all = append(all, u)
	}
	faults := unitsFaults(all)
	for name, so := range broken {
		if so {
			faults = append(faults, name)
		}
	}
	slices.Sort(faults)
	return faults
}

// wantJoinAll is the document's words of JoinAll.
func wantJoinAll(list []impl.Unit) []impl.Unit {
	if len(joinFaults(list)) > 0 {
		return nil
	}
	return append(schedUnits(), join.eachOf(list)...)
}

// selfAt is the word that rtself tells, far from all words of drawn units.
const selfAt = 1234567000

// asking is a unit that runs by itself, as it was or joined, beside a scheduler that only takes down what it is asked for.
type asking struct {
	unit impl.Unit
	regs []int
	// own are how many registers the unit has that was not joined.
	own   int
	names map[int]string
	// asked is what lies in the body from selfAt on.
	asked map[int]int
	lines []string
}

// answer is what others tell: some words, the same ones each time.
func (a *asking) answer(which int) int {
	return []int{0, 1, 7, 0, -1, greatest, 2, least}[(3*len(a.lines)+5*which)%8]
}

// tell takes down what is done, with its words, and what the unit's own registers have by then.
func (a *asking) tell(what string, words ...int) {
	for _, n := range words {
		what += " " + impl.Digits(n)
	}
	what += " of"
	for _, n := range a.regs[:a.own] {
		what += " " + impl.Digits(n)
	}
	a.lines = append(a.lines, what)
}

// from are so many words of what was asked for; one that was not is no word.
func (a *asking) from(count int) []int {
	var out []int
	for i := range count {
		n, there := a.asked[7+i]
		if !there {
			n = greatest + 1
		}
		out = append(out, n)
	}
	return out
}

// runAsking runs so many places, and tells what was done; whole is whether it came to an end.
func runAsking(u impl.Unit, own int, regs []int, most int) (lines []string, whole bool) {
	a := &asking{unit: u, regs: append(slices.Clone(regs), make([]int, u.Regs-len(regs))...), own: own, names: map[int]string{}, asked: map[int]int{}}
	for pc := 0; most > 0; most-- {
		x := u.Code[pc]
		pc++
		switch {
		case x.Op == impl.TcJump || x.Op == impl.TcZero && a.regs[x.A] == 0:
			pc = placeOfLabel(u, x.N)
		case goesTo(x) || x.Op == impl.TcLabel:
		case x.Op == impl.TcRet || x.Op == impl.TcHalt:
			a.tell(tacWords[x.Op-1], a.regs[x.A])
			return a.lines, true
		default:
			a.do(x, a.words(wantUses(x)))
		}
	}
	return a.lines, false
}

func (a *asking) words(registers []int) []int {
	var out []int
	for _, r := range registers {
		out = append(out, a.regs[r])
	}
	return out
}

// do is of a place, with the words that it reads. What was not joined is told as what is asked for in its stead.
func (a *asking) do(x impl.Tac, read []int) {
	c, there := calledFor[x.Op]
	switch {
	case slices.Contains(setsAlone, x.Op):
		a.regs[x.D] = a.alone(x, read)
		return
	case there:
		a.tell(c.name, read...)
	case x.Op == impl.TcGo:
		a.tell("rtgo "+x.S, read...)
	case x.Op == impl.TcSelect:
		a.tell("rtselect", append(a.selected(x.Args), x.N)...)
		a.regs[x.D] = a.answer(0)
		a.regs[x.B] = a.answer(1)
		return
	case x.Op == impl.TcCall && strings.HasPrefix(x.S, "rt"):
		a.called(x, read)
		return
	case x.Op == impl.TcPoke && read[0] > selfAt && read[0] < selfAt+40:
		a.asked[read[0]-selfAt] = read[1]
		return
	case x.Op == impl.TcPeek && read[0] == selfAt+3:
		a.regs[x.D] = a.answer(1)
		return
	default:
		a.tell(tacWords[x.Op-1]+" "+x.S, read...)
	}
	for i, r := range wantSets(x) {
		a.regs[r] = a.answer(i)
	}
}

// alone is wordAlone, but that the word of a name tells that name.
func (a *asking) alone(x impl.Tac, read []int) int {
	if x.Op != impl.TcAddr {
		return wordAlone(x, read)
	}
	word := 0
	for _, letter := range []byte(x.S) {
		word = (word*31 + int(letter)) % 1000003
	}
	a.names[word] = x.S
	return word
}

// selected are the words of the cases of a select.
func (a *asking) selected(args []int) []int {
	var out []int
	for i, arg := range args {
		if i%3 == 1 || i%3 == 2 && args[i-2] == 2 {
			arg = a.regs[arg]
		}
		out = append(out, arg)
	}
	return out
}

// called is of a call of the scheduler's.
func (a *asking) called(x impl.Tac, read []int) {
	switch x.S {
	case "rtself":
		clear(a.asked)
		a.regs[x.D] = selfAt
		return
	case "rtgo":
		a.tell("rtgo "+a.names[read[0]], a.from(read[1])...)
	case "rtselect":
		a.tell("rtselect", append(a.from(3*read[0]), read[1])...)
	default:
		a.tell(x.S, read...)
	}
	a.regs[x.D] = a.answer(0)
}
