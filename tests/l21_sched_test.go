package tests

import (
	"slices"
	"strings"
	"testing"

	"loop.example/g00286/impl"
)

func TestTheSchedulersUnits(t *testing.T) {
	units := impl.SchedUnits()
	var names []string
	for _, u := range units {
		names = append(names, u.Name+" "+digits(u.Params))
	}
	const want = "rtlock 0, rtfree 0, rtself 0, rtready 1, rtpop 0, rtpark 0, rtwake 3, rtfirst 1, rtwait 4, rtput 2, rtget 1, rttrygive 2, rttrytake 1, rtsend 2, rtrecv 1, rtclose 1, rtmake 1, rtprint 1, rtend 0, rtexit 0, rtgo 2, rtselect 2, rtloop 0"
	if got := strings.Join(names, ", "); got != want {
		t.Errorf("there are %s, not %s", got, want)
	}
	if !slices.EqualFunc(units, impl.Lower(parsed(t, impl.Scheduler()), true), sameUnit) {
		t.Error("they are not what the text is lowered to")
	}
	if faults := unitsFaults(units); len(faults) > 0 || !impl.UnitsOk(units) {
		t.Errorf("they are not right: %v", faults)
	}
	for _, u := range units {
		if slices.ContainsFunc(u.Code, seenByOthers) {
			t.Errorf("in %s there is something that others see", unitText(u))
		}
		if !strings.HasPrefix(u.Name, "rt") {
			t.Errorf("one is called %q", u.Name)
		}
	}
}

func TestTheSchedulersUnitsAreTheirOwn(t *testing.T) {
	one, other := impl.SchedUnits(), impl.SchedUnits()
	if !apart(append(listsOf(one), listsOf(other)...)) {
		t.Error("two answers share memory")
	}
	kept := cloneUnits(other)
	spoilWorld(impl.World{Units: one})
	if !slices.EqualFunc(other, kept, sameUnit) || !slices.EqualFunc(impl.SchedUnits(), kept, sameUnit) {
		t.Error("one answer is turned with another one")
	}
}
