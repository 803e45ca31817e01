package tests

import (
	"slices"

	"loop.example/g00286/impl"
)

const (
	mostCap    = 8
	mostBodies = 6
	mostChans  = 8
)

// waitRules are what is asked of those who would take, and of those who would give, each list by itself. More than mostBodies always break another rule, too.
var waitRules = map[string]func(list []impl.Wait) bool{
	"many":   func(list []impl.Wait) bool { return len(list) <= mostBodies },
	"body":   eachWait(func(w impl.Wait) bool { return w.Body >= 0 && w.Body < mostBodies }),
	"value":  eachWait(func(w impl.Wait) bool { return wordsOk(w.Value) }),
	"ticket": eachWait(func(w impl.Wait) bool { return w.Ticket >= 0 }),
	"case":   eachWait(func(w impl.Wait) bool { return w.Case >= 0 }),
	"twice": func(list []impl.Wait) bool {
		bodies := map[int]int{}
		for _, w := range list {
			bodies[w.Body]++
		}
		return len(bodies) == len(list)
	},
}

func eachWait(ok func(w impl.Wait) bool) func(list []impl.Wait) bool {
	return func(list []impl.Wait) bool {
		return !slices.ContainsFunc(list, func(w impl.Wait) bool { return !ok(w) })
	}
}

// chanFaults are what is amiss with a channel, sorted: its Cap, more in Buf than that, what is no word there, and the rules of waits that its Takes or Gives break.
func chanFaults(c impl.Chan) []string {
	var out []string
	if c.Cap < 0 || c.Cap > mostCap {
		out = append(out, "cap")
	}
	if len(c.Buf) > c.Cap {
		out = append(out, "full")
	}
	if !wordsOk(c.Buf...) {
		out = append(out, "word")
	}
	for name, ok := range waitRules {
		if !ok(c.Takes) || !ok(c.Gives) {
			out = append(out, name)
		}
	}
	slices.Sort(out)
	return out
}

// wantAdd goes from the last one to the first, and stops at the one that is w already.
func wantAdd(list []impl.Wait, w impl.Wait) []impl.Wait {
	out := []impl.Wait{w}
	for i := len(list) - 1; i >= 0; i-- {
		if list[i].Body != w.Body {
			out = append(out, list[i])
		} else if list[i].Ticket == w.Ticket {
			return slices.Clone(list)
		}
	}
	slices.Reverse(out)
	return out
}

// livePlaces are the places of those who wait still, by a table of who has which ticket.
func livePlaces(list []impl.Wait, tickets []int) []int {
	type ticket struct{ body, number int }
	now := map[ticket]int{}
	for body, number := range tickets {
		now[ticket{body, number}] = 1
	}
	var out []int
	for i, w := range list {
		if now[ticket{w.Body, w.Ticket}] == 1 {
			out = append(out, i)
		}
	}
	return out
}

func wantFirst(list []impl.Wait, tickets []int) int {
	return append(livePlaces(list, tickets), -1)[0]
}

func wantLive(list []impl.Wait, tickets []int) []impl.Wait {
	var out []impl.Wait
	for _, i := range livePlaces(list, tickets) {
		out = append(out, list[i])
	}
	return out
}
