package tests

import (
	"math"
	"slices"
	"strings"
	"sync"
	"testing"

	"loop.example/g00286/impl"
)

func wt(body, ticket, value, which int) impl.Wait {
	return impl.Wait{Body: body, Ticket: ticket, Value: value, Case: which}
}

// bodies are waits of these, in that order, with fields that differ from each other.
func bodies(list ...int) []impl.Wait {
	var out []impl.Wait
	for i, body := range list {
		out = append(out, wt(body, 10+i, 20+i, 30+i))
	}
	return out
}

func cloneChan(c impl.Chan) impl.Chan {
	c.Buf, c.Takes, c.Gives = slices.Clone(c.Buf), slices.Clone(c.Takes), slices.Clone(c.Gives)
	return c
}

// checkChan asks of the channel open and closed, and with those who take and who give turned about: none of it counts.
func checkChan(t *testing.T, c impl.Chan) []string {
	t.Helper()
	faults := chanFaults(c)
	for _, closed := range []bool{false, true} {
		c.Closed = closed
		turned := c
		turned.Takes, turned.Gives = c.Gives, c.Takes
		for _, x := range []impl.Chan{c, turned} {
			if got := impl.ChanOk(x); got != (len(faults) == 0) {
				t.Errorf("ChanOk(%s) = %v: what is amiss is %v", clip(x), got, faults)
			}
		}
	}
	return faults
}

// wantChan is of a channel with which just that is amiss (words; nothing where it is right).
func wantChan(t *testing.T, c impl.Chan, amiss string) {
	t.Helper()
	if faults := checkChan(t, c); !slices.Equal(faults, strings.Fields(amiss)) {
		t.Errorf("of %s there is amiss %v, not %q", clip(c), faults, amiss)
	}
}

func checkAdd(t *testing.T, list []impl.Wait, w impl.Wait) []impl.Wait {
	t.Helper()
	got, want := impl.AddWait(list, w), wantAdd(list, w)
	if !slices.Equal(got, want) {
		t.Errorf("AddWait(%s, %+v) = %s, not %s", clip(list), w, clip(got), clip(want))
	}
	again := w
	again.Value, again.Case = w.Value+1, w.Case-1
	for _, x := range []impl.Wait{w, again} {
		if twice := impl.AddWait(got, x); !slices.Equal(twice, got) {
			t.Errorf("AddWait(%s, %+v), then of %+v is %s, not %s", clip(list), w, x, clip(twice), clip(got))
		}
	}
	return got
}

func wantAdded(t *testing.T, list []impl.Wait, w impl.Wait, want ...impl.Wait) {
	t.Helper()
	if got := checkAdd(t, list, w); !slices.Equal(got, want) {
		t.Errorf("AddWait(%s, %+v) = %s, not %s", clip(list), w, clip(got), clip(want))
	}
}

// wantAsItWas is of a list in which w stands already.
func wantAsItWas(t *testing.T, list []impl.Wait, w impl.Wait) {
	t.Helper()
	wantAdded(t, list, w, slices.Clone(list)...)
}

func checkLive(t *testing.T, list []impl.Wait, tickets []int) {
	t.Helper()
	if got, want := impl.FirstWait(list, tickets), wantFirst(list, tickets); got != want {
		t.Errorf("FirstWait(%s, %s) = %d, not %d", clip(list), clip(tickets), got, want)
	}
	live := impl.Live(list, tickets)
	if want := wantLive(list, tickets); !slices.Equal(live, want) {
		t.Errorf("Live(%s, %s) = %s, not %s", clip(list), clip(tickets), clip(live), clip(want))
	}
	if got := impl.FirstWait(live, tickets); got != min(0, len(live)-1) {
		t.Errorf("FirstWait of what Live(%s, %s) tells is %d", clip(list), clip(tickets), got)
	}
	if again := impl.Live(live, tickets); !slices.Equal(again, live) {
		t.Errorf("Live of what Live(%s, %s) tells is %s", clip(list), clip(tickets), clip(again))
	}
}

// wantStill is of a list of which just those at these places wait still.
func wantStill(t *testing.T, list []impl.Wait, tickets []int, places ...int) {
	t.Helper()
	checkLive(t, list, tickets)
	first := -1
	var live []impl.Wait
	for _, i := range places {
		live = append(live, list[i])
		first = places[0]
	}
	if got := impl.FirstWait(list, tickets); got != first {
		t.Errorf("FirstWait(%s, %s) = %d, not %d", clip(list), clip(tickets), got, first)
	}
	if got := impl.Live(list, tickets); !slices.Equal(got, live) {
		t.Errorf("Live(%s, %s) = %s, not %s", clip(list), clip(tickets), clip(got), clip(live))
	}
}

func TestChanConstants(t *testing.T) {
	if impl.MaxCap != mostCap || impl.MaxBodies != mostBodies || impl.MaxChans != mostChans {
		t.Error(impl.MaxCap, impl.MaxBodies, impl.MaxChans)
	}
}

func TestOrdinaryChannels(t *testing.T) {
	for _, c := range []impl.Chan{
		{},
		{Cap: 3, Buf: []int{4, -5}},
		{Cap: 1, Buf: []int{4}, Takes: bodies(1, 0)},
		{Takes: bodies(2), Gives: bodies(5, 3, 4)},
		{Cap: 8, Buf: []int{1, 2, 3, 4, 5, 6, 7, 8}, Takes: bodies(5, 4, 3, 2, 1, 0), Gives: bodies(0, 1, 2, 3, 4, 5)},
	} {
		wantChan(t, c, "")
	}
}

func TestCapsOfChannels(t *testing.T) {
	for cap, amiss := range map[int]string{
		math.MinInt: "cap full", least: "cap full", -9: "cap full", -1: "cap full",
		0: "", 1: "", 7: "", 8: "",
		9: "cap", 10: "cap", 256: "cap", 256 + 8: "cap", 1<<32 + 8: "cap", greatest: "cap", math.MaxInt: "cap",
	} {
		wantChan(t, impl.Chan{Cap: cap}, amiss)
		wantChan(t, impl.Chan{Cap: cap, Takes: bodies(0), Gives: bodies(1)}, amiss)
	}
}

func TestHowManyAreInBuf(t *testing.T) {
	for cap := range mostCap + 1 {
		for count := range cap + 1 {
			wantChan(t, impl.Chan{Cap: cap, Buf: make([]int, count)}, "")
		}
		for _, more := range []int{1, 2, 9, 1000} {
			wantChan(t, impl.Chan{Cap: cap, Buf: make([]int, cap+more)}, "full")
			wantChan(t, impl.Chan{Cap: cap, Buf: ramp(cap + more), Takes: bodies(3), Gives: bodies(3)}, "full")
		}
	}
	wantChan(t, impl.Chan{Cap: mostCap + 1, Buf: make([]int, mostCap+1)}, "cap")
	wantChan(t, impl.Chan{Cap: -1, Buf: make([]int, 1)}, "cap full")
}

func TestWordsInBuf(t *testing.T) {
	words := map[int]string{least: "", greatest: "", least - 1: "word", greatest + 1: "word", turn: "word", math.MinInt: "word", math.MaxInt: "word"}
	for n, amiss := range words {
		for count := 1; count <= mostCap; count++ {
			for at := range count {
				wantChan(t, impl.Chan{Cap: count, Buf: put(ramp(count), at, n)}, amiss)
				wantChan(t, impl.Chan{Cap: mostCap, Buf: put(ramp(count), at, n)}, amiss)
			}
		}
		wantChan(t, impl.Chan{Cap: mostCap, Buf: slices.Repeat([]int{n}, mostCap)}, amiss)
	}
}

func TestHowManyWait(t *testing.T) {
	all := bodies(0, 1, 2, 3, 4, 5)
	for count := range mostBodies + 1 {
		wantChan(t, impl.Chan{Takes: all[:count]}, "")
		for other := range mostBodies + 1 {
			wantChan(t, impl.Chan{Takes: all[:count], Gives: all[mostBodies-other:]}, "")
		}
	}
	for _, one := range bodies(0, 5, 6, -1) {
		amiss := "many twice"
		if one.Body < 0 || one.Body > 5 {
			amiss = "body many"
		}
		for at := range mostBodies + 1 {
			seven := slices.Insert(slices.Clone(all), at, one)
			wantChan(t, impl.Chan{Takes: seven}, amiss)
			wantChan(t, impl.Chan{Takes: seven, Gives: all}, amiss)
		}
	}
	wantChan(t, impl.Chan{Takes: slices.Repeat(all, 2)}, "many twice")
}

func TestBodiesThatWait(t *testing.T) {
	for body, amiss := range map[int]string{
		math.MinInt: "body", least: "body", -6: "body", -1: "body",
		0: "", 3: "", 5: "",
		6: "body", 7: "body", 256: "body", 1 << 32: "body", 1<<32 + 5: "body", math.MaxInt: "body",
	} {
		others := slices.DeleteFunc([]int{0, 1, 2, 3, 4, 5}, func(n int) bool { return n == body })[:4]
		for at := range len(others) + 1 {
			list := bodies(slices.Insert(slices.Clone(others), at, body)...)
			wantChan(t, impl.Chan{Takes: list}, amiss)
			wantChan(t, impl.Chan{Cap: 2, Buf: []int{1}, Takes: list, Gives: bodies(others...)}, amiss)
		}
		wantChan(t, impl.Chan{Takes: bodies(body)}, amiss)
	}
}

func TestTwoOfOneBody(t *testing.T) {
	for body := range mostBodies {
		others := slices.DeleteFunc([]int{0, 1, 2, 3, 4, 5}, func(n int) bool { return n == body })[:4]
		for i := range len(others) + 1 {
			one := slices.Insert(slices.Clone(others), i, body)
			for k := i + 1; k <= len(one); k++ {
				list := bodies(slices.Insert(slices.Clone(one), k, body)...)
				wantChan(t, impl.Chan{Takes: list}, "twice")
				list[k].Ticket = list[i].Ticket
				wantChan(t, impl.Chan{Takes: list}, "twice")
				list[k] = list[i]
				wantChan(t, impl.Chan{Takes: list, Gives: bodies(others...)}, "twice")
			}
		}
		wantChan(t, impl.Chan{Takes: bodies(body, body)}, "twice")
		wantChan(t, impl.Chan{Takes: bodies(body), Gives: bodies(body)}, "")
		wantChan(t, impl.Chan{Takes: bodies(others...), Gives: bodies(others...)}, "")
	}
	wantChan(t, impl.Chan{Takes: []impl.Wait{wt(6, 1, 0, 0), wt(6, 2, 0, 0)}}, "body twice")
}

func TestNumbersOfWaits(t *testing.T) {
	fields := map[string]func(w *impl.Wait) *int{
		"ticket": func(w *impl.Wait) *int { return &w.Ticket },
		"case":   func(w *impl.Wait) *int { return &w.Case },
		"value":  func(w *impl.Wait) *int { return &w.Value },
	}
	right := map[int]string{
		math.MinInt: "", least - 1: "", least: "value", -2: "value", -1: "value",
		0: "value ticket case", 1: "value ticket case", 100001: "value ticket case", greatest: "value ticket case",
		greatest + 1: "ticket case", turn: "ticket case", 1 << 62: "ticket case", math.MaxInt: "ticket case",
	}
	for name, field := range fields {
		for n, names := range right {
			amiss := name
			if strings.Contains(names, name) {
				amiss = ""
			}
			for count := 1; count <= mostBodies; count++ {
				for at := range count {
					list := bodies(5, 3, 0, 1, 4, 2)[:count]
					*field(&list[at]) = n
					wantChan(t, impl.Chan{Takes: list}, amiss)
					wantChan(t, impl.Chan{Cap: 1, Takes: list, Gives: bodies(0, 1, 2, 3, 4, 5)}, amiss)
				}
			}
		}
	}
}

// Each number of a whole channel is put to each edge by itself.
func TestEachNumberOfAChannel(t *testing.T) {
	whole := impl.Chan{Cap: 4, Buf: []int{7, 8, 9}, Takes: bodies(2, 0, 5), Gives: bodies(1, 2, 4)}
	numbers := append(edges(), 2, 4, 5, 6, 7, 8, 9, 10)
	met := map[string]int{}
	atEdges := func(to *int) {
		kept := *to
		for _, n := range numbers {
			*to = n
			met[strings.Join(checkChan(t, whole), " ")]++
		}
		*to = kept
	}
	atEdges(&whole.Cap)
	for i := range whole.Buf {
		atEdges(&whole.Buf[i])
	}
	for _, list := range [][]impl.Wait{whole.Takes, whole.Gives} {
		for i := range list {
			atEdges(&list[i].Body)
			atEdges(&list[i].Ticket)
			atEdges(&list[i].Value)
			atEdges(&list[i].Case)
		}
	}
	wantChan(t, whole, "")
	for _, name := range []string{"", "cap", "cap full", "full", "word", "body", "ticket", "value", "case", "twice"} {
		if met[name] == 0 {
			t.Errorf("%q is not met: %v", name, met)
		}
	}
}

// Two things that are amiss do not make one right.
func TestTwoFaultsOfAChannel(t *testing.T) {
	faults := []func(c *impl.Chan){
		func(c *impl.Chan) { c.Cap = 9 },
		func(c *impl.Chan) { c.Cap = -1 },
		func(c *impl.Chan) { c.Buf = append(c.Buf, make([]int, 9)...) },
		func(c *impl.Chan) { c.Buf = append([]int{greatest + 1}, c.Buf...) },
		func(c *impl.Chan) { c.Takes = append(c.Takes, wt(6, 1, 1, 1)) },
		func(c *impl.Chan) { c.Takes = append(c.Takes, c.Takes...) },
		func(c *impl.Chan) { c.Takes = append(c.Takes, wt(3, -1, 1, 1)) },
		func(c *impl.Chan) { c.Gives = append(c.Gives, wt(-1, 1, 1, 1)) },
		func(c *impl.Chan) { c.Gives = append(c.Gives, c.Gives...) },
		func(c *impl.Chan) { c.Gives = append(c.Gives, wt(4, 1, least-1, 1)) },
		func(c *impl.Chan) { c.Gives = append(c.Gives, wt(4, 1, 1, -1)) },
	}
	for _, one := range faults {
		for _, other := range faults {
			c := impl.Chan{Cap: 2, Buf: []int{5}, Takes: bodies(0, 2), Gives: bodies(1, 2)}
			one(&c)
			other(&c)
			if len(checkChan(t, c)) == 0 {
				t.Errorf("nothing is amiss with %s", clip(c))
			}
		}
	}
}

func TestAddWaitOfABodyThatIsNotThere(t *testing.T) {
	a, b, c := wt(3, 1, 7, 2), wt(0, 1, 8, 0), wt(5, 9, -4, 1)
	w := wt(2, 1, 7, 2)
	wantAdded(t, nil, w, w)
	wantAdded(t, []impl.Wait{a}, w, a, w)
	wantAdded(t, []impl.Wait{a, b}, w, a, b, w)
	wantAdded(t, []impl.Wait{c, b, a}, w, c, b, a, w)
	// Others with all but its Body are not it.
	like := wt(4, 1, 7, 2)
	wantAdded(t, []impl.Wait{like, a, like}, w, like, a, like, w)
}

func TestAddWaitOfOneThatIsThere(t *testing.T) {
	a, b, c, d := wt(3, 1, 7, 2), wt(0, 1, 8, 0), wt(5, 9, -4, 1), wt(1, 6, 0, 0)
	for _, list := range [][]impl.Wait{{a}, {a, b}, {a, b, c}, {a, b, c, d}, {a, a}, {a, b, a}} {
		for _, there := range list {
			wantAsItWas(t, list, there)
			wantAsItWas(t, list, wt(there.Body, there.Ticket, there.Value+1, there.Case))
			wantAsItWas(t, list, wt(there.Body, there.Ticket, there.Value, there.Case+1))
			wantAsItWas(t, list, wt(there.Body, there.Ticket, least-1, -1))
		}
	}
}

func TestAddWaitOfABodyWithAnotherTicket(t *testing.T) {
	a, b, c, w := wt(3, 1, 7, 2), wt(0, 1, 8, 0), wt(5, 9, -4, 1), wt(2, 4, 5, 1)
	for _, ticket := range []int{3, 5, 0, -4, 4 + 1<<32, math.MinInt, math.MaxInt} {
		old := wt(2, ticket, 5, 1)
		wantAdded(t, []impl.Wait{old}, w, w)
		wantAdded(t, []impl.Wait{old, a, b, c}, w, a, b, c, w)
		wantAdded(t, []impl.Wait{a, old, b, c}, w, a, b, c, w)
		wantAdded(t, []impl.Wait{a, b, c, old}, w, a, b, c, w)
	}
}

func TestAddWaitOfABodyThatIsThereOften(t *testing.T) {
	a, b, w := wt(3, 1, 7, 2), wt(0, 4, 8, 0), wt(2, 4, 5, 1)
	x, y, z := wt(2, 1, 1, 1), wt(2, 2, 5, 1), wt(2, 1, 9, 0)
	same := wt(2, 4, 6, 0)
	wantAdded(t, []impl.Wait{x, y, z}, w, w)
	wantAdded(t, []impl.Wait{x, a, y, b, z}, w, a, b, w)
	wantAdded(t, []impl.Wait{a, x, y, b}, w, a, b, w)
	for _, list := range [][]impl.Wait{
		{x, same}, {same, x}, {x, same, y}, {x, a, y, b, same}, {same, x, a, y, b}, {x, a, same, b, y}, {x, same, a, same, y}, {a, same, b, same},
	} {
		wantAsItWas(t, list, w)
	}
}

// All lists of up to four of some waits, each of which is added to each.
func TestAddWaitToAllShortLists(t *testing.T) {
	var some []impl.Wait
	for _, body := range []int{-1, 0, 1} {
		for _, ticket := range []int{-1, 0, 3} {
			some = append(some, wt(body, ticket, 0, 0))
		}
	}
	var goOn func(list []impl.Wait)
	goOn = func(list []impl.Wait) {
		for _, w := range some {
			w.Value, w.Case = 50, 60
			checkAdd(t, list, w)
		}
		for _, tickets := range [][]int{nil, {0}, {3}, {0, 3}, {3, 0}, {-1, 3, 0}, {0, 0}} {
			checkLive(t, list, tickets)
		}
		if len(list) == 4 {
			return
		}
		for _, w := range some {
			w.Value, w.Case = len(list), -len(list)
			goOn(append(slices.Clone(list), w))
		}
	}
	goOn(nil)
}

func TestAddWaitBeyondWhatAChannelTakes(t *testing.T) {
	var list []impl.Wait
	for i := range 40 {
		list = append(list, wt(100-i*7, i*i-50, greatest+i, -i))
	}
	for i, there := range list {
		wantAsItWas(t, list, wt(there.Body, there.Ticket, 0, 0))
		w := wt(there.Body, there.Ticket+1, 0, 0)
		wantAdded(t, list, w, append(slices.Delete(slices.Clone(list), i, i+1), w)...)
	}
	w := wt(5, 1, least-3, -2)
	wantAdded(t, list, w, append(slices.Clone(list), w)...)
	for _, n := range append(edges(), manyNumbers(300)...) {
		w := wt(n, n, n, n)
		wantAdded(t, list[:3], w, list[0], list[1], list[2], w)
		wantAdded(t, []impl.Wait{w}, wt(n, n+1, n, n), wt(n, n+1, n, n))
		wantAdded(t, []impl.Wait{w}, wt(n+1, n, n, n), w, wt(n+1, n, n, n))
		wantAdded(t, []impl.Wait{w}, wt(n+1<<32, n, n, n), w, wt(n+1<<32, n, n, n))
	}
}

func TestWhoWaitsStill(t *testing.T) {
	list := []impl.Wait{wt(2, 4, 70, 1), wt(0, 1, 71, 2), wt(1, 9, 72, 0), wt(5, 4, 73, 3), wt(3, 0, 74, 0)}
	wantStill(t, list, []int{2, 2, 2, 2, 2, 2})
	wantStill(t, list, []int{2, 2, 4, 2, 2, 2}, 0)
	wantStill(t, list, []int{1, 2, 2, 2, 2, 2}, 1)
	wantStill(t, list, []int{2, 9, 2, 2, 2, 2}, 2)
	wantStill(t, list, []int{2, 2, 2, 2, 2, 4}, 3)
	wantStill(t, list, []int{2, 2, 2, 0, 2, 2}, 4)
	wantStill(t, list, []int{1, 2, 2, 0, 2, 4}, 1, 3, 4)
	wantStill(t, list, []int{1, 9, 4, 0, 2, 4}, 0, 1, 2, 3, 4)
	// The ticket of another body does not count, nor what stands for a body that does not wait.
	wantStill(t, list, []int{4, 4, 1, 4, 4, 1})
	wantStill(t, list, []int{9, 1, 0, 4, 4, 9, 4, 1, 9})
}

func TestWhoWaitsOften(t *testing.T) {
	list := []impl.Wait{wt(1, 2, 0, 0), wt(1, 3, 1, 0), wt(0, 3, 2, 0), wt(1, 3, 3, 1), wt(1, 3, 1, 0), wt(0, 2, 4, 0)}
	wantStill(t, list, []int{7, 3}, 1, 3, 4)
	wantStill(t, list, []int{3, 3}, 1, 2, 3, 4)
	wantStill(t, list, []int{2, 2}, 0, 5)
	wantStill(t, list, []int{2}, 5)
	wantStill(t, list, []int{3}, 2)
	wantStill(t, list, []int{7, 7})
}

func TestBodiesForWhichThereIsNoTicket(t *testing.T) {
	for _, body := range []int{-1, -2, least, math.MinInt, math.MinInt + 1, 3, 4, 6, 256, 1 << 32, 1<<32 + 1, math.MaxInt} {
		list := []impl.Wait{wt(body, 4, 1, 1), wt(1, 4, 2, 2), wt(body, 4, 3, 3)}
		wantStill(t, list, []int{4, 4, 4}, 1)
		wantStill(t, list, []int{4, 5, 4})
		wantStill(t, list[:1], []int{4, 4, 4})
	}
	list := []impl.Wait{wt(0, 0, 1, 1), wt(1, 0, 2, 2), wt(2, 0, 3, 3)}
	wantStill(t, list, nil)
	wantStill(t, list, []int{})
	wantStill(t, list, []int{0}, 0)
	wantStill(t, list, []int{0, 0}, 0, 1)
	wantStill(t, list, []int{0, 0, 0}, 0, 1, 2)
	// What lies in the room behind tickets is none of it.
	wantStill(t, list, []int{0, 0, 0}[:1], 0)
	wantStill(t, list, []int{0, 0, 0}[:0])
	for _, tickets := range [][]int{nil, {}, {0}, {0, 0, 0}} {
		wantStill(t, nil, tickets)
		wantStill(t, []impl.Wait{}, tickets)
		wantStill(t, list[:0], tickets)
	}
}

func TestTicketsThatAreAnyNumber(t *testing.T) {
	for _, n := range append(edges(), manyNumbers(300)...) {
		list := []impl.Wait{wt(1, n+1, n, n), wt(0, n, n, n), wt(1, n, n, n), wt(1, n+1<<32, n, n)}
		wantStill(t, list, []int{n - 1, n}, 2)
		wantStill(t, list, []int{n, n}, 1, 2)
		wantStill(t, list, []int{n, n + 1}, 0, 1)
		wantStill(t, []impl.Wait{wt(n, 4, 0, 0)}, nil)
		checkLive(t, []impl.Wait{wt(n, 4, 0, 0), wt(n, 5, 0, 0)}, []int{4, 5, 4, 5})
	}
}

type waitDrawer struct{ *drawer }

func newWaitDrawer(seed uint64) *waitDrawer { return &waitDrawer{drawer: newDrawer(seed)} }

// wait draws one as a channel takes it, of few bodies and tickets, so that many meet.
func (d *waitDrawer) wait() impl.Wait {
	return wt(d.IntN(mostBodies), d.IntN(4), d.IntN(100), d.IntN(3))
}

func (d *waitDrawer) waits(most int) []impl.Wait {
	var list []impl.Wait
	for range d.IntN(most + 1) {
		list = append(list, d.wait())
	}
	return list
}

// odd draws waits some of which no channel takes.
func (d *waitDrawer) odd(most int) []impl.Wait {
	list := d.waits(most)
	numbers := []int{-1, 6, 7, least, least - 1, greatest, greatest + 1, math.MinInt, math.MaxInt}
	for i := range list {
		n := numbers[d.IntN(len(numbers))]
		switch d.IntN(12) {
		case 0:
			list[i].Body = n
		case 1:
			list[i].Ticket = n
		case 2:
			list[i].Value = n
		case 3:
			list[i].Case = n
		}
	}
	return list
}

func (d *waitDrawer) tickets() []int {
	list := make([]int, d.IntN(9))
	for i := range list {
		list[i] = d.IntN(4)
	}
	return list
}

func TestDrawnWaits(t *testing.T) {
	d := newWaitDrawer(121)
	met := map[string]int{}
	for range 20000 {
		list := d.odd(12)
		w := d.wait()
		if other := d.odd(2); len(other) > 0 {
			w = other[0]
		}
		switch added := checkAdd(t, list, w); {
		case slices.Equal(added, list):
			met["as it was"]++
		case len(added) > len(list):
			met["behind all"]++
		default:
			met["another ticket"]++
		}
		tickets := d.tickets()
		checkLive(t, list, tickets)
		met["live"] += flag(len(impl.Live(list, tickets)) > 1)
		met["none"] += flag(impl.FirstWait(list, tickets) < 0)
	}
	for _, name := range []string{"as it was", "behind all", "another ticket", "live", "none"} {
		if met[name] < 1000 {
			t.Errorf("%q is drawn %d times: %v", name, met[name], met)
		}
	}
}

// Who waits twice waits once: what is added one by one to nothing stays such as a channel takes it, with each body once, with the ticket that it had last.
func TestWhoWaitsTwiceWaitsOnce(t *testing.T) {
	d := newWaitDrawer(122)
	for range 2000 {
		var list []impl.Wait
		last := make([]int, mostBodies)
		for i := range last {
			last[i] = -1
		}
		for range d.IntN(40) {
			w := d.wait()
			list = checkAdd(t, list, w)
			last[w.Body] = w.Ticket
			wantChan(t, impl.Chan{Takes: list}, "")
			if !slices.ContainsFunc(list, func(x impl.Wait) bool { return x.Body == w.Body && x.Ticket == w.Ticket }) {
				t.Errorf("%+v does not wait in %s", w, clip(list))
			}
			if !slices.Equal(impl.Live(list, last), list) {
				t.Errorf("%s: not all wait still, by %v", clip(list), last)
			}
		}
	}
}

func TestDrawnChannels(t *testing.T) {
	d := newWaitDrawer(123)
	met := map[string]int{}
	for range 30000 {
		c := impl.Chan{Cap: d.IntN(mostCap + 1)}
		c.Buf = ramp(d.IntN(c.Cap + 1))
		var order [2][]int
		for i := range order {
			order[i] = d.Perm(mostBodies)[:d.IntN(mostBodies+1)]
		}
		c.Takes, c.Gives = bodies(order[0]...), bodies(order[1]...)
		wantChan(t, c, "")
		switch d.IntN(5) {
		case 0:
			c.Cap += d.IntN(9) - 4
		case 1:
			c.Buf = append(c.Buf, manyNumbers(d.IntN(3))...)
		case 2:
			c.Takes = append(c.Takes, d.odd(2)...)
		case 3:
			c.Gives = append(c.Gives, d.odd(2)...)
		case 4:
			c.Takes, c.Gives = d.odd(4), d.odd(4)
		}
		met[strings.Join(checkChan(t, c), " ")]++
	}
	for _, name := range []string{"", "cap", "cap full", "full", "body", "ticket", "value", "case", "twice", "many twice"} {
		if met[name] < 20 {
			t.Errorf("%q is drawn %d times: %v", name, met[name], met)
		}
	}
}

func TestWaitsThatAreEmptyAndNil(t *testing.T) {
	some := bodies(4, 5)
	empty := [][]impl.Wait{nil, {}, make([]impl.Wait, 0, 5), some[:0], some[2:]}
	w := wt(1, 2, 3, 4)
	for _, takes := range empty {
		for _, gives := range empty {
			for _, buf := range [][]int{nil, {}, make([]int, 0, 5), []int{turn}[:0]} {
				wantChan(t, impl.Chan{Buf: buf, Takes: takes, Gives: gives}, "")
				wantChan(t, impl.Chan{Cap: -1, Buf: buf, Takes: takes, Gives: gives}, "cap full")
				wantChan(t, impl.Chan{Buf: buf, Takes: takes, Gives: some}, "")
			}
		}
		wantAdded(t, takes, w, w)
		for _, tickets := range [][]int{nil, {}, make([]int, 0, 5), []int{4, 5}[:0], {0, 0}} {
			wantStill(t, takes, tickets)
			wantStill(t, []impl.Wait{{}}, tickets[:0])
		}
	}
	wantAdded(t, nil, impl.Wait{}, impl.Wait{})
	wantAsItWas(t, []impl.Wait{{}}, impl.Wait{})
	wantStill(t, []impl.Wait{{}}, []int{0}, 0)
	if !slices.Equal(some, bodies(4, 5)) {
		t.Errorf("what lies behind is written into: %v", some)
	}
}

func TestVeryLongWaits(t *testing.T) {
	const far = 250000
	list := make([]impl.Wait, far)
	tickets := make([]int, far)
	for i := range list {
		list[i] = wt(i, 3*i, i, i)
		tickets[i] = 3 * i
	}
	for _, at := range []int{0, 1, far / 2, far - 1} {
		wantAsItWas(t, list, wt(at, 3*at, 0, 0))
		checkAdd(t, list, wt(at, 3*at+1, 0, 0))
		one := make([]int, far)
		for i := range one {
			one[i] = -1
		}
		one[at] = 3 * at
		wantStill(t, list, one, at)
	}
	checkAdd(t, list, wt(far, 1, 0, 0))
	checkLive(t, list, tickets)
	checkLive(t, list, tickets[:5])
	checkLive(t, list, nil)
	checkLive(t, list[:5], tickets)
	same := slices.Repeat([]impl.Wait{wt(2, 1, 0, 0)}, far)
	wantAdded(t, same, wt(2, 2, 0, 0), wt(2, 2, 0, 0))
	wantAsItWas(t, same, wt(2, 1, 7, 7))
	wantChan(t, impl.Chan{Cap: 8, Takes: list}, "body many")
	wantChan(t, impl.Chan{Cap: 8, Takes: same, Gives: same}, "many twice")
	wantChan(t, impl.Chan{Cap: 8, Buf: tickets}, "full")
	wantChan(t, impl.Chan{Cap: far, Buf: tickets, Takes: list, Gives: same}, "body cap many twice")
	wantChan(t, impl.Chan{Cap: math.MaxInt, Buf: tickets}, "cap")
}

// spoilWaits writes over a list and the room behind it.
func spoilWaits(list []impl.Wait) {
	list = list[:cap(list)]
	for i := range list {
		list[i] = wt(-99, -99, -99, -99)
	}
}

// roomyWaits is the list with spare room behind it, in which right waits lie, and all of that.
func roomyWaits(list []impl.Wait) ([]impl.Wait, []impl.Wait) {
	whole := append(slices.Clone(list), wt(1, 1, 1, 1), wt(2, 2, 2, 2), wt(0, 0, 0, 0), wt(3, 3, 3, 3))
	return whole[:len(list)], whole
}

// waitLists are lists with waits of all kinds, some of which are there twice.
func waitLists() [][]impl.Wait {
	d := newWaitDrawer(124)
	out := [][]impl.Wait{nil, {}, bodies(3), bodies(0, 1, 2, 3, 4, 5), bodies(1, 1, 1)}
	for range 200 {
		out = append(out, d.waits(6), d.odd(10))
	}
	return out
}

// added are waits of each case: one that is there, one of a body with another ticket, one of a body that is not there.
func added(list []impl.Wait) []impl.Wait {
	out := []impl.Wait{wt(77, 1, 1, 1), wt(1, 1, 1, 1), {}}
	for _, w := range list {
		out = append(out, w, wt(w.Body, w.Ticket+1, 5, 5))
	}
	return out
}

func TestWaitsAreNotWrittenInto(t *testing.T) {
	for _, list := range waitLists() {
		given, whole := roomyWaits(list)
		kept := slices.Clone(whole)
		for _, w := range added(list) {
			got := impl.AddWait(given, w)
			if !slices.Equal(got, impl.AddWait(list, w)) {
				t.Errorf("AddWait(%s, %+v) is another with room behind", clip(list), w)
			}
			spoilWaits(got)
		}
		tickets, wholeTickets := withRoom([]int{0, 1, 2, 3, 1, 2})
		keptTickets := slices.Clone(wholeTickets)
		if impl.FirstWait(given, tickets) != impl.FirstWait(list, tickets) {
			t.Errorf("FirstWait(%s) is another with room behind", clip(list))
		}
		live := impl.Live(given, tickets)
		if !slices.Equal(live, impl.Live(list, tickets)) {
			t.Errorf("Live(%s) is another with room behind", clip(list))
		}
		spoilWaits(live)
		if !slices.Equal(whole, kept) || !slices.Equal(wholeTickets, keptTickets) {
			t.Errorf("%s is written into: %s", clip(kept), clip(whole))
		}
	}
}

func TestChannelsAreNotWrittenInto(t *testing.T) {
	lists := waitLists()
	for i, takes := range lists {
		for _, buf := range [][]int{nil, {}, {4}, {4, turn, 5}, ramp(8), ramp(9)} {
			c := impl.Chan{Cap: len(buf), Closed: i%2 == 0, Buf: buf, Takes: takes, Gives: lists[(i*7+1)%len(lists)]}
			given := c
			var wholeBuf []int
			var wholeTakes, wholeGives []impl.Wait
			given.Buf, wholeBuf = withRoom(c.Buf)
			given.Takes, wholeTakes = roomyWaits(c.Takes)
			given.Gives, wholeGives = roomyWaits(c.Gives)
			keptBuf, keptTakes, keptGives := slices.Clone(wholeBuf), slices.Clone(wholeTakes), slices.Clone(wholeGives)
			if ok := impl.ChanOk(given); ok != impl.ChanOk(c) || ok != impl.ChanOk(cloneChan(c)) {
				t.Errorf("ChanOk(%s) is %v with room behind its lists", clip(c), ok)
			}
			if !slices.Equal(wholeBuf, keptBuf) || !slices.Equal(wholeTakes, keptTakes) || !slices.Equal(wholeGives, keptGives) {
				t.Errorf("%s is written into", clip(c))
			}
		}
	}
}

// What one answer holds is its own: what is written into it is not seen in another one, nor in what was given, and the other way round; also where it is the list as it was.
func TestWaitsThatAreToldAreTheirOwn(t *testing.T) {
	tickets := []int{0, 1, 2, 3, 1, 2}
	for _, list := range waitLists() {
		asks := []func(list []impl.Wait) []impl.Wait{
			func(list []impl.Wait) []impl.Wait { return impl.Live(list, tickets) },
			func(list []impl.Wait) []impl.Wait { return impl.Live(list, allTickets(list)) },
		}
		for _, w := range added(list) {
			asks = append(asks, func(list []impl.Wait) []impl.Wait { return impl.AddWait(list, w) })
		}
		for _, ask := range asks {
			given := slices.Clone(list)
			one, other := ask(given), ask(given)
			want := slices.Clone(other)
			spoilWaits(one)
			if !slices.Equal(other, want) || !slices.Equal(given, list) || !slices.Equal(ask(given), want) {
				t.Errorf("what is told of %s is not its own", clip(list))
			}
			spoilWaits(given)
			if !slices.Equal(other, want) {
				t.Errorf("what was told of %s is turned with it", clip(list))
			}
		}
	}
}

// allTickets has for each body up to the greatest there its first ticket, so that all wait still where each is there once.
func allTickets(list []impl.Wait) []int {
	out := make([]int, 16)
	for i := len(list) - 1; i >= 0; i-- {
		if w := list[i]; w.Body >= 0 && w.Body < len(out) {
			out[w.Body] = w.Ticket
		}
	}
	return out
}

func TestWaitsAnswerTheSameAgain(t *testing.T) {
	lists := waitLists()
	tickets := []int{0, 1, 2, 3, 1, 2}
	for i, list := range lists {
		other := lists[(i+1)%len(lists)]
		c := impl.Chan{Cap: 2, Buf: []int{1}, Takes: list, Gives: other}
		ok, first, live := impl.ChanOk(c), impl.FirstWait(list, tickets), impl.Live(list, tickets)
		for _, w := range added(list) {
			once := impl.AddWait(list, w)
			impl.AddWait(other, w)
			impl.Live(other, tickets)
			if !slices.Equal(impl.AddWait(list, w), once) {
				t.Errorf("AddWait(%s, %+v) is not the same again", clip(list), w)
			}
		}
		if impl.ChanOk(c) != ok || impl.FirstWait(list, tickets) != first || !slices.Equal(impl.Live(list, tickets), live) {
			t.Errorf("%s is not answered the same again", clip(list))
		}
	}
}

func TestWaitsSideBySide(t *testing.T) {
	lists := waitLists()
	tickets := []int{0, 1, 2, 3, 1, 2}
	var group sync.WaitGroup
	wrong := make([]int, 8)
	for worker := range wrong {
		group.Go(func() {
			for _, list := range lists {
				c := impl.Chan{Cap: 1, Takes: list, Gives: list}
				wrong[worker] += flag(impl.ChanOk(c) != (len(chanFaults(c)) == 0))
				wrong[worker] += flag(impl.FirstWait(list, tickets) != wantFirst(list, tickets))
				wrong[worker] += flag(!slices.Equal(impl.Live(list, tickets), wantLive(list, tickets)))
				for _, w := range added(list) {
					wrong[worker] += flag(!slices.Equal(impl.AddWait(list, w), wantAdd(list, w)))
				}
			}
		})
	}
	group.Wait()
	if !slices.Equal(wrong, make([]int, 8)) {
		t.Errorf("answers side by side are others: %v", wrong)
	}
}
