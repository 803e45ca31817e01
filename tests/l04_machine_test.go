package tests

import (
	"math"
	"slices"
	"testing"

	"loop.example/g00286/impl"
)

func cloneMachine(m impl.Machine) impl.Machine {
	out := impl.Machine{Over: m.Over, Code: m.Code}
	out.Image = slices.Clone(m.Image)
	out.Mem = slices.Clone(m.Mem)
	for _, c := range m.Cores {
		out.Cores = append(out.Cores, cloneCore(c))
	}
	out.Out = slices.Clone(m.Out)
	out.Notes = slices.Clone(m.Notes)
	return out
}

// unlike tells the fields in which two machines differ.
func unlike(a, b impl.Machine) []string {
	var out []string
	for _, k := range []struct {
		name string
		same bool
		a, b any
	}{
		{"Image", slices.Equal(a.Image, b.Image), a.Image, b.Image},
		{"Mem", slices.Equal(a.Mem, b.Mem), a.Mem, b.Mem},
		{"Cores", slices.EqualFunc(a.Cores, b.Cores, sameCore), a.Cores, b.Cores},
		{"Out", slices.Equal(a.Out, b.Out), a.Out, b.Out},
		{"Notes", slices.Equal(a.Notes, b.Notes), a.Notes, b.Notes},
		{"Over", a.Over == b.Over, a.Over, b.Over},
		{"Code", a.Code == b.Code, a.Code, b.Code},
	} {
		if !k.same {
			out = append(out, k.name+" is "+clip(k.a)+", not "+clip(k.b))
		}
	}
	return out
}

func wantMachineOk(m impl.Machine) bool {
	ok := len(m.Image) > 0 && len(m.Image) < 3001 && len(m.Mem) < 4001 && len(m.Cores) > 0 && len(m.Cores) < 9 && len(m.Out) < 3001 && len(m.Notes) < 3001
	for _, x := range m.Image {
		ok = ok && wantOk(x)
	}
	for _, c := range m.Cores {
		ok = ok && wantCoreOk(c)
	}
	for _, n := range m.Notes {
		ok = ok && wordsOk(n.Who, n.What)
	}
	return ok && wordsOk(m.Mem...) && wordsOk(m.Out...) && wordsOk(m.Code)
}

// wantGoOn is what one pick makes of a right machine.
func wantGoOn(m impl.Machine, core int) impl.Machine {
	if m.Over || core < 0 || core > len(m.Cores)-1 {
		return m
	}
	c, mem, e := wantExec(m.Image, m.Mem, m.Cores[core], core)
	cores := slices.Clone(m.Cores)
	cores[core] = c
	m.Cores, m.Mem = cores, mem
	switch {
	case e.Kind == 1 && len(m.Out) < 3000:
		m.Out = append(slices.Clone(m.Out), e.A)
	case e.Kind == 2 && len(m.Notes) < 3000:
		m.Notes = append(slices.Clone(m.Notes), impl.Note{Who: e.A, What: e.B})
	case e.Kind == 3:
		m.Over, m.Code = true, e.A
	case e.Kind != 0:
		m.Over, m.Code = true, -1
	}
	return m
}

func wantTicks(m impl.Machine, picks []int) impl.Machine {
	if !wantMachineOk(m) {
		return impl.Machine{}
	}
	if len(picks) < 40001 {
		for _, core := range picks {
			m = wantGoOn(m, core)
		}
	}
	return m
}

func wantTurns(m impl.Machine, n int) impl.Machine {
	var picks []int
	for len(picks) < n && len(picks) < 40000 {
		picks = append(picks, len(picks)%max(len(m.Cores), 1))
	}
	return wantTicks(m, picks)
}

func checkMachine(t *testing.T, what string, got, want impl.Machine) {
	t.Helper()
	for _, text := range unlike(got, want) {
		t.Errorf("%s: %s", what, text)
	}
}

func checkTicks(t *testing.T, what string, m impl.Machine, picks ...int) impl.Machine {
	t.Helper()
	kept, keptPicks := cloneMachine(m), slices.Clone(picks)
	got := impl.Ticks(m, picks)
	checkMachine(t, what, got, wantTicks(kept, keptPicks))
	if unlike(m, kept) != nil || !slices.Equal(picks, keptPicks) {
		t.Errorf("%s: Ticks writes into what it was given", what)
	}
	if impl.MachineOk(got) != impl.MachineOk(m) {
		t.Errorf("%s: MachineOk is %v, and was %v", what, impl.MachineOk(got), impl.MachineOk(m))
	}
	return got
}

func checkTick(t *testing.T, what string, m impl.Machine, core int) impl.Machine {
	t.Helper()
	kept := cloneMachine(m)
	got := impl.Tick(m, core)
	checkMachine(t, what, got, wantTicks(kept, []int{core}))
	if unlike(m, kept) != nil {
		t.Errorf("%s: Tick writes into what it was given", what)
	}
	checkMachine(t, what+" as the only pick", impl.Ticks(m, []int{core}), got)
	return got
}

func checkTurns(t *testing.T, what string, m impl.Machine, n int) impl.Machine {
	t.Helper()
	kept := cloneMachine(m)
	got := impl.Turns(m, n)
	checkMachine(t, what, got, wantTurns(kept, n))
	if unlike(m, kept) != nil {
		t.Errorf("%s: Turns writes into what it was given", what)
	}
	return got
}

// coresAt are so many cores at that place; each has frame and registers of its own.
func coresAt(pc, count int) []impl.Core {
	var out []impl.Core
	for i := range count {
		out = append(out, at(pc, 2+i, 2*i, 3, 10*i+1, 0, -i, 5))
	}
	return out
}

// counting goes round for ever: the word at 0 is one more at each round, and each core tells its number and that word.
func counting(cores int) impl.Machine {
	return impl.Machine{
		Image: []impl.Ins{
			{Op: impl.MCore, R: 1},
			{Op: impl.MLi, R: 2},
			{Op: impl.MLi, R: 3, N: 1},
			{Op: impl.MLd, R: 4, A: 2},
			{Op: impl.MAdd, R: 4, A: 4, B: 3},
			{Op: impl.MSt, A: 2, B: 4},
			{Op: impl.MNote, A: 1, B: 4},
			{Op: impl.MOut, A: 1},
			{Op: impl.MJmp, N: 3},
		},
		Mem:   ramp(16),
		Cores: coresAt(0, cores),
		Out:   []int{71, -72},
		Notes: []impl.Note{{Who: 81, What: -82}},
		Code:  6,
	}
}

// staying has one core that jumps to its own place, so that it is never over.
func staying() impl.Machine {
	return impl.Machine{Image: []impl.Ins{{Op: impl.MJmp}}, Cores: coresAt(0, 1)}
}

func notesOf(count int) []impl.Note {
	out := make([]impl.Note, count)
	for i := range out {
		out[i] = impl.Note{Who: i, What: -i}
	}
	return out
}

func placesOf(count int) []impl.Ins {
	out := make([]impl.Ins, count)
	for i := range out {
		out[i] = impl.Ins{Op: impl.MLi, R: i % 6, N: i}
	}
	return out
}

func TestMachineConstants(t *testing.T) {
	if impl.MaxCores != 8 || impl.MaxImage != 3000 || impl.MaxNotes != 3000 || impl.MaxPicks != 40000 {
		t.Error(impl.MaxCores, impl.MaxImage, impl.MaxNotes, impl.MaxPicks)
	}
}

// formed is a machine, of which the document says whether it is MachineOk.
type formed struct {
	name string
	m    impl.Machine
	ok   bool
}

func turned(name string, ok bool, turn func(m *impl.Machine)) formed {
	m := counting(3)
	turn(&m)
	return formed{name, m, ok}
}

func formedByLength() []formed {
	var out []formed
	for _, k := range []struct {
		n  int
		ok bool
	}{{0, false}, {1, true}, {2, true}, {2999, true}, {3000, true}, {3001, false}, {9000, false}} {
		out = append(out, turned("places "+impl.Digits(k.n), k.ok, func(m *impl.Machine) { m.Image = placesOf(k.n) }))
	}
	for _, k := range []struct {
		n  int
		ok bool
	}{{0, true}, {1, true}, {3999, true}, {4000, true}, {4001, false}, {9000, false}} {
		out = append(out, turned("words of memory "+impl.Digits(k.n), k.ok, func(m *impl.Machine) { m.Mem = ramp(k.n) }))
	}
	for n := range 12 {
		out = append(out, turned("cores "+impl.Digits(n), n > 0 && n < 9, func(m *impl.Machine) { m.Cores = coresAt(0, n) }))
	}
	for _, k := range []struct {
		n  int
		ok bool
	}{{0, true}, {1, true}, {2999, true}, {3000, true}, {3001, false}, {9000, false}} {
		out = append(out, turned("words in Out "+impl.Digits(k.n), k.ok, func(m *impl.Machine) { m.Out = ramp(k.n) }))
		out = append(out, turned("Notes "+impl.Digits(k.n), k.ok, func(m *impl.Machine) { m.Notes = notesOf(k.n) }))
	}
	return out
}

func formedByNumber(n int, ok bool) []formed {
	name := " " + impl.Digits(n)
	out := []formed{
		turned("Code"+name, ok, func(m *impl.Machine) { m.Code = n }),
		turned("Code where it is over"+name, ok, func(m *impl.Machine) { m.Code, m.Over = n, true }),
		turned("N of a place"+name, ok, func(m *impl.Machine) { m.Image[1].N = n }),
	}
	for _, i := range []int{0, 1999, 3999} {
		out = append(out, turned("a word of memory"+name, ok, func(m *impl.Machine) { m.Mem = put(ramp(4000), i, n) }))
	}
	for _, i := range []int{0, 1499, 2999} {
		out = append(out, turned("a word in Out"+name, ok, func(m *impl.Machine) { m.Out = put(ramp(3000), i, n) }))
		out = append(out, turned("Who"+name, ok, func(m *impl.Machine) { m.Notes = notesOf(3000); m.Notes[i].Who = n }))
		out = append(out, turned("What"+name, ok, func(m *impl.Machine) { m.Notes = notesOf(3000); m.Notes[i].What = n }))
	}
	for _, i := range []int{0, 3, 7} {
		out = append(out, turned("Pc"+name, ok, func(m *impl.Machine) { m.Cores = coresAt(0, 8); m.Cores[i].Pc = n }))
		out = append(out, turned("Fp"+name, ok, func(m *impl.Machine) { m.Cores = coresAt(0, 8); m.Cores[i].Fp = n }))
		out = append(out, turned("a register"+name, ok, func(m *impl.Machine) { m.Cores = coresAt(0, 8); m.Cores[i].Regs[i%6] = n }))
	}
	return out
}

func formedByPart() []formed {
	out := []formed{
		{"the zero machine", impl.Machine{}, false},
		{"empty lists", impl.Machine{Image: []impl.Ins{}, Mem: []int{}, Cores: []impl.Core{}, Out: []int{}, Notes: []impl.Note{}}, false},
		{"a place alone", impl.Machine{Image: placesOf(1)}, false},
		{"a core alone", impl.Machine{Cores: coresAt(0, 1)}, false},
		{"a place and a core", impl.Machine{Image: placesOf(1), Cores: coresAt(0, 1)}, true},
		{"a place and a core and empty lists", impl.Machine{Image: placesOf(1), Mem: []int{}, Cores: coresAt(0, 1), Out: []int{}, Notes: []impl.Note{}}, true},
		{"over", impl.Machine{Image: placesOf(1), Cores: coresAt(0, 1), Over: true}, true},
		{"a core of no registers", impl.Machine{Image: placesOf(1), Cores: []impl.Core{{}}}, false},
		{"all at its most", impl.Machine{Image: placesOf(3000), Mem: ramp(4000), Cores: coresAt(0, 8), Out: ramp(3000), Notes: notesOf(3000)}, true},
	}
	for _, n := range []int{1, 2, 1500, 3000} {
		for _, i := range []int{0, n / 2, n - 1} {
			for _, x := range []impl.Ins{{}, {Op: 20}, {Op: -1}, {Op: impl.MLi, R: 6}, {Op: impl.MRet, M: 1}, {Op: impl.MCall, M: 61}} {
				out = append(out, turned("a place that is none", false, func(m *impl.Machine) { m.Image = placesOf(n); m.Image[i] = x }))
			}
		}
	}
	for _, n := range []int{1, 2, 8} {
		for _, i := range []int{0, n / 2, n - 1} {
			for _, regs := range [][]int{nil, {}, {1, 2, 3, 4, 5}, {1, 2, 3, 4, 5, 6, 7}} {
				out = append(out, turned("a core that is none", false, func(m *impl.Machine) { m.Cores = coresAt(0, n); m.Cores[i].Regs = regs }))
			}
		}
	}
	// A core may stand at any word: that it is no place is a trap, but later.
	for _, pc := range []int{-1, 9, 3000, least, greatest} {
		out = append(out, turned("Pc no place", true, func(m *impl.Machine) { m.Cores[1].Pc = pc }))
	}
	return out
}

func allFormed() []formed {
	out := append(formedByLength(), formedByPart()...)
	for _, n := range []int{0, 1, -1, least, least + 1, greatest - 1, greatest} {
		out = append(out, formedByNumber(n, true)...)
	}
	for _, n := range []int{least - 1, greatest + 1, turn, -turn, turn + 5, math.MinInt, math.MinInt + 1, math.MaxInt, math.MaxInt - 1} {
		out = append(out, formedByNumber(n, false)...)
	}
	return out
}

func TestMachineOk(t *testing.T) {
	for _, f := range allFormed() {
		kept := cloneMachine(f.m)
		if impl.MachineOk(f.m) != f.ok || wantMachineOk(f.m) != f.ok {
			t.Errorf("%s: MachineOk is not %v", f.name, f.ok)
		}
		if unlike(f.m, kept) != nil {
			t.Errorf("%s: MachineOk writes into what it was given", f.name)
		}
	}
}

// What is not MachineOk is zero, whatever is picked, and whether it is over or not; what is MachineOk goes on.
func TestMachinesThatAreRightAndWrong(t *testing.T) {
	picks := make([]int, impl.MaxPicks+1)
	for _, f := range allFormed() {
		if f.ok {
			checkTick(t, f.name, f.m, 0)
			checkTicks(t, f.name, f.m, 0, 1, 1, 2, 0)
			checkTurns(t, f.name, f.m, 5)
			checkMachine(t, f.name+" and no picks", impl.Ticks(f.m, nil), f.m)
			checkMachine(t, f.name+" and no turns", impl.Turns(f.m, 0), f.m)
			checkMachine(t, f.name+" and too many picks", impl.Ticks(f.m, picks), f.m)
			continue
		}
		for _, over := range []bool{false, true} {
			m := f.m
			m.Over = over
			for _, n := range []int{math.MinInt, -1, 0, 1, 2, 8, math.MaxInt} {
				checkMachine(t, f.name+" and Tick", impl.Tick(m, n), impl.Machine{})
				checkMachine(t, f.name+" and Ticks", impl.Ticks(m, []int{0, n}), impl.Machine{})
				checkMachine(t, f.name+" and Turns", impl.Turns(m, n), impl.Machine{})
			}
			checkMachine(t, f.name+" and no picks", impl.Ticks(m, nil), impl.Machine{})
			checkMachine(t, f.name+" and empty picks", impl.Ticks(m, []int{}), impl.Machine{})
			checkMachine(t, f.name+" and too many picks", impl.Ticks(m, picks), impl.Machine{})
		}
	}
}

// The room behind the lists does not count.
func TestMachineOkAndTheRoomBehind(t *testing.T) {
	m := counting(2)
	wrong := impl.Machine{
		Image: append(slices.Clone(m.Image), impl.Ins{Op: 99}),
		Mem:   append(slices.Clone(m.Mem), turn),
		Cores: append(slices.Clone(m.Cores), impl.Core{}),
		Out:   append(slices.Clone(m.Out), turn),
		Notes: append(slices.Clone(m.Notes), impl.Note{Who: turn}),
	}
	m.Image = wrong.Image[:len(m.Image)]
	m.Mem = wrong.Mem[:len(m.Mem)]
	m.Cores = wrong.Cores[:len(m.Cores)]
	m.Out = wrong.Out[:len(m.Out)]
	m.Notes = wrong.Notes[:len(m.Notes)]
	if !impl.MachineOk(m) || impl.MachineOk(wrong) {
		t.Error(impl.MachineOk(m), impl.MachineOk(wrong))
	}
	checkTurns(t, "with room behind", m, 40)
}

// Each effect, the machine then said field by field, at each core of machines of each size.
func TestTickAndEachEffect(t *testing.T) {
	image := []impl.Ins{
		{Op: impl.MLi, R: 2, N: 40},
		{Op: impl.MSt, A: 1, B: 2, N: 4},
		{Op: impl.MOut, A: 2},
		{Op: impl.MNote, A: 2, B: 5},
		{Op: impl.MHalt, A: 2},
		{Op: impl.MLd, R: 2, A: 1, N: 9},
		{Op: impl.MCore, R: 2},
	}
	for cores := 1; cores <= impl.MaxCores; cores++ {
		for core := range cores {
			for pc := -1; pc <= len(image); pc++ {
				m := impl.Machine{Image: image, Mem: ramp(10), Cores: coresAt(1, cores), Out: []int{5}, Notes: []impl.Note{{Who: 6, What: 7}}, Code: 8}
				m.Cores[core].Pc = pc
				want := cloneMachine(m)
				c := &want.Cores[core]
				c.Pc = pc + 1
				switch pc {
				case 0:
					c.Regs[2] = 40
				case 1:
					want.Mem[7] = 10*core + 1
				case 2:
					want.Out = []int{5, 10*core + 1}
				case 3:
					want.Notes = []impl.Note{{Who: 6, What: 7}, {Who: 10*core + 1, What: 5}}
				case 4:
					want.Over, want.Code = true, 10*core+1
				case 6:
					c.Regs[2] = core
				default:
					c.Pc = pc
					want.Over, want.Code = true, -1
				}
				got := impl.Tick(m, core)
				checkMachine(t, "by hand", got, want)
				checkTick(t, "by rule", m, core)
				if !impl.MachineOk(got) {
					t.Errorf("place %d of core %d: not MachineOk", pc, core)
				}
			}
		}
	}
}

// A place of each op at each core; the others are as they were.
func TestTickOfEachOp(t *testing.T) {
	met := map[int]int{}
	for _, f := range opForms {
		for _, n := range []int{1, 900} {
			x := ordinary(f)
			if f.op == impl.MLd || f.op == impl.MSt {
				x.N = n
			}
			for cores := 1; cores <= impl.MaxCores; cores++ {
				m := impl.Machine{Image: []impl.Ins{{Op: impl.MRet}, x, {Op: impl.MRet}}, Mem: ramp(40), Cores: coresAt(1, cores)}
				for core := range cores {
					got := checkTick(t, "an op", m, core)
					for i := range cores {
						if i != core && !sameCore(got.Cores[i], m.Cores[i]) {
							t.Errorf("%+v of core %d turns core %d", x, core, i)
						}
					}
					if !got.Over {
						met[f.op]++
					}
				}
			}
		}
		if met[f.op] == 0 && f.op != impl.MHalt {
			t.Errorf("op %d is always a trap", f.op)
		}
	}
}

func TestOneMemoryForAll(t *testing.T) {
	m := counting(3)
	m.Mem[0] = 0
	got := impl.Turns(m, 3*9)
	// All three load ahead of each store, so all three tell the same.
	want := []impl.Note{{Who: 81, What: -82}, {Who: 0, What: 1}, {Who: 1, What: 1}, {Who: 2, What: 1}}
	if !slices.Equal(got.Notes, want) || got.Mem[0] != 1 || !slices.Equal(got.Out, []int{71, -72, 0, 1, 2}) {
		t.Error("in turn", got.Notes, got.Mem[0], got.Out)
	}
	var picks []int
	for core := range 3 {
		for range 9 {
			picks = append(picks, core)
		}
	}
	got = impl.Ticks(m, picks)
	want = []impl.Note{{Who: 81, What: -82}, {Who: 0, What: 1}, {Who: 1, What: 2}, {Who: 2, What: 3}}
	if !slices.Equal(got.Notes, want) || got.Mem[0] != 3 || !slices.Equal(got.Out, []int{71, -72, 0, 1, 2}) {
		t.Error("one behind the other", got.Notes, got.Mem[0], got.Out)
	}
	checkTicks(t, "one behind the other", m, picks...)
}

// Of two that hold the word at 0 against 0, the one that was picked first has it.
func TestWhoIsFirstHasIt(t *testing.T) {
	m := impl.Machine{
		Image: []impl.Ins{{Op: impl.MCas, R: 0, A: 1, B: 2}, {Op: impl.MOut, A: 0}},
		Mem:   []int{0},
		Cores: []impl.Core{at(0, 0, 0, 0, 50, 0, 0, 0), at(0, 0, 0, 0, 60, 0, 0, 0)},
	}
	for _, k := range []struct {
		picks    []int
		mem, out []int
	}{
		{[]int{0, 1, 0, 1}, []int{50}, []int{1, 0}},
		{[]int{1, 0, 0, 1}, []int{60}, []int{0, 1}},
		{[]int{1, 1, 0, 0}, []int{60}, []int{1, 0}},
	} {
		got := checkTicks(t, "cas", m, k.picks...)
		if !slices.Equal(got.Mem, k.mem) || !slices.Equal(got.Out, k.out) || got.Over {
			t.Errorf("%v: %v %v", k.picks, got.Mem, got.Out)
		}
	}
}

// A list that is full: the core has gone on, and it is over; what lies in both lists is as it was.
func TestListsThatAreFull(t *testing.T) {
	for _, count := range []int{0, 1, impl.MaxNotes - 2, impl.MaxNotes - 1, impl.MaxNotes} {
		for _, other := range []int{0, impl.MaxNotes - 1, impl.MaxNotes} {
			full := count == impl.MaxNotes
			m := impl.Machine{Image: []impl.Ins{{Op: impl.MOut, A: 2}, {Op: impl.MNote, A: 5, B: 2}}, Mem: ramp(3), Cores: coresAt(0, 2), Code: 4}
			m.Out, m.Notes = ramp(count), notesOf(other)
			want := cloneMachine(m)
			want.Cores[1].Pc = 1
			if full {
				want.Over, want.Code = true, -1
			} else {
				want.Out = append(want.Out, 11)
			}
			checkMachine(t, "Out", impl.Tick(m, 1), want)
			checkTick(t, "Out", m, 1)

			m.Out, m.Notes = ramp(other), notesOf(count)
			m.Cores[1].Pc = 1
			want = cloneMachine(m)
			want.Cores[1].Pc = 2
			if full {
				want.Over, want.Code = true, -1
			} else {
				want.Notes = append(want.Notes, impl.Note{Who: 5, What: 11})
			}
			checkMachine(t, "Notes", impl.Tick(m, 1), want)
			checkTick(t, "Notes", m, 1)
		}
	}
}

// Words are put out till the list is full; the next one is over, and no more is put out.
func TestListsBecomeFull(t *testing.T) {
	for _, x := range []impl.Ins{{Op: impl.MOut, A: 1}, {Op: impl.MNote, A: 1, B: 0}} {
		m := impl.Machine{Image: []impl.Ins{x, {Op: impl.MJmp}}, Cores: coresAt(0, 1)}
		length := func(m impl.Machine) int { return len(m.Out) + len(m.Notes) }
		last := 2*impl.MaxNotes - 1
		if got := impl.Turns(m, last); length(got) != impl.MaxNotes || got.Over || got.Code != 0 || !impl.MachineOk(got) {
			t.Error("the last that fits", length(got), got.Over, got.Code)
		}
		if got := impl.Turns(m, last+1); length(got) != impl.MaxNotes || got.Over {
			t.Error("the jump behind it", length(got), got.Over)
		}
		for _, n := range []int{last + 2, last + 3, impl.MaxPicks} {
			got := impl.Turns(m, n)
			if length(got) != impl.MaxNotes || !got.Over || got.Code != -1 || got.Cores[0].Pc != 1 || !impl.MachineOk(got) {
				t.Error("the first that does not fit", n, length(got), got.Over, got.Code, got.Cores)
			}
		}
	}
}

func TestWhatIsOverStaysSo(t *testing.T) {
	for _, code := range []int{0, -1, 1, 77, least, greatest} {
		for pc := range 10 {
			m := counting(4)
			m.Over, m.Code = true, code
			for i := range m.Cores {
				m.Cores[i].Pc = pc
			}
			for _, core := range []int{-1, 0, 1, 2, 3, 4, math.MinInt, math.MaxInt} {
				checkMachine(t, "Tick", impl.Tick(m, core), m)
			}
			checkMachine(t, "Ticks", impl.Ticks(m, []int{0, 1, 2, 3, 0, 1, 2, 3}), m)
			checkMachine(t, "no picks", impl.Ticks(m, nil), m)
			for _, n := range []int{math.MinInt, -1, 0, 1, 5, 100, impl.MaxPicks, math.MaxInt} {
				checkMachine(t, "Turns", impl.Turns(m, n), m)
			}
		}
	}
}

// It becomes over among the picks: the rest turns nothing, whichever core it is of.
func TestOverAmongThePicks(t *testing.T) {
	for _, k := range []struct {
		name string
		x    impl.Ins
		pc   int
		code int
	}{
		{"halt", impl.Ins{Op: impl.MHalt, A: 0}, 4, 33},
		{"trap", impl.Ins{Op: impl.MLd, R: 1, A: 0}, 3, -1},
		{"out", impl.Ins{Op: impl.MOut, A: 0}, 4, -1},
	} {
		m := impl.Machine{
			Image: []impl.Ins{{Op: impl.MAdd, R: 1, A: 1, B: 2}, {Op: impl.MNote, A: 1, B: 2}, {Op: impl.MJmp}, k.x},
			Mem:   ramp(2),
			Cores: []impl.Core{at(0, 0, 33, 0, 1, 0, 0, 0), at(3, 0, 33, 0, 1, 0, 0, 0), at(1, 0, 33, 9, 9, 0, 0, 0)},
			Out:   ramp(impl.MaxNotes),
		}
		before := []int{0, 2, 0, 2, 0}
		first := impl.Ticks(m, before)
		if first.Over || first.Cores[0].Pc != 0 || len(first.Notes) != 2 {
			t.Fatalf("%s: ahead of it: %v %v", k.name, first.Over, first.Cores)
		}
		want := cloneMachine(first)
		want.Over, want.Code, want.Cores[1].Pc = true, k.code, k.pc
		for _, rest := range [][]int{nil, {0}, {1}, {2}, {0, 1, 2}, {-1, 3, 1, 1, 1}} {
			picks := append(append(slices.Clone(before), 1), rest...)
			checkMachine(t, k.name, impl.Ticks(m, picks), want)
			checkTicks(t, k.name, m, picks...)
		}
	}
}

func TestOverAmongTheTurns(t *testing.T) {
	m := impl.Machine{Image: []impl.Ins{{Op: impl.MLi, R: 0, N: 7}, {Op: impl.MHalt, A: 0}}, Cores: coresAt(0, 3)}
	want := cloneMachine(m)
	for i := range want.Cores {
		want.Cores[i].Pc, want.Cores[i].Regs[0] = 1, 7
	}
	want.Cores[0].Pc, want.Over, want.Code = 2, true, 7
	for _, n := range []int{4, 5, 6, 7, 100, impl.MaxPicks, impl.MaxPicks + 1, math.MaxInt} {
		checkMachine(t, "Turns", impl.Turns(m, n), want)
	}
	if impl.Turns(m, 3).Over {
		t.Error("over too soon")
	}
}

func TestHaltWithEachCode(t *testing.T) {
	for _, code := range []int{0, 1, -1, 2, 33, -70, least, least + 1, greatest - 1, greatest} {
		for _, was := range []int{0, -1, 5, least, greatest} {
			for reg := range 6 {
				m := impl.Machine{Image: []impl.Ins{{Op: impl.MHalt, A: reg}}, Mem: ramp(2), Cores: coresAt(0, 2), Out: []int{4}, Code: was}
				m.Cores[1].Regs[reg] = code
				want := cloneMachine(m)
				want.Over, want.Code, want.Cores[1].Pc = true, code, 1
				got := impl.Tick(m, 1)
				checkMachine(t, "halt", got, want)
				if !impl.MachineOk(got) {
					t.Errorf("not MachineOk with Code %d", code)
				}
			}
		}
	}
}

// Each reason of a trap that a machine that is MachineOk can meet: only Over and Code are turned.
func TestTrapsOfAMachine(t *testing.T) {
	for _, k := range []struct {
		name string
		x    impl.Ins
		c    impl.Core
	}{
		{"Pc below", impl.Ins{Op: impl.MRet}, at(-1, 0, 0, 0, 0, 0, 0, 0)},
		{"Pc beyond", impl.Ins{Op: impl.MRet}, at(1, 0, 0, 0, 0, 0, 0, 0)},
		{"Pc the least", impl.Ins{Op: impl.MRet}, at(least, 0, 0, 0, 0, 0, 0, 0)},
		{"Pc the greatest", impl.Ins{Op: impl.MRet}, at(greatest, 0, 0, 0, 0, 0, 0, 0)},
		{"MLd", impl.Ins{Op: impl.MLd, R: 1, A: 2, N: 4}, at(0, 0, 1, 1, 0, 1, 1, 1)},
		{"MSt", impl.Ins{Op: impl.MSt, A: 6, B: 2, N: -1}, at(0, 0, 1, 1, 1, 1, 1, 1)},
		{"MCas", impl.Ins{Op: impl.MCas, R: 1, A: 2, B: 3}, at(0, 0, 1, 1, 4, 1, 1, 1)},
		{"MCall", impl.Ins{Op: impl.MCall, M: 3}, at(0, 0, 1, 1, 1, 1, 1, 1)},
		{"MRet", impl.Ins{Op: impl.MRet}, at(0, 3, 1, 1, 1, 1, 1, 1)},
		{"MSwap", impl.Ins{Op: impl.MSwap, A: 1, B: 2}, at(0, 0, 1, 1, 3, 1, 1, 1)},
	} {
		m := impl.Machine{Image: []impl.Ins{k.x}, Mem: ramp(4), Cores: []impl.Core{at(0, 0, 1, 2, 3, 4, 5, 6), k.c}, Out: []int{3}, Notes: notesOf(2), Code: 9}
		want := cloneMachine(m)
		want.Over, want.Code = true, -1
		checkMachine(t, k.name, impl.Tick(m, 1), want)
		checkMachine(t, k.name, impl.Ticks(m, []int{2, -1, 1, 0, 1}), want)
	}
}

func TestCoresThatAreNone(t *testing.T) {
	for cores := 1; cores <= impl.MaxCores; cores++ {
		m := counting(cores)
		none := []int{-1, -2, -8, cores, cores + 1, 8, 9, turn, -turn, least, greatest, math.MinInt, math.MinInt + 1, math.MaxInt, math.MaxInt - 1}
		for _, core := range none {
			checkMachine(t, "Tick", impl.Tick(m, core), m)
			checkMachine(t, "Ticks", impl.Ticks(m, []int{core}), m)
			checkMachine(t, "among the picks", impl.Ticks(m, []int{0, core, cores - 1, core, core, 0}), impl.Ticks(m, []int{0, cores - 1, 0}))
			checkTicks(t, "among the picks", m, core, 0, core)
		}
		checkMachine(t, "all of them", impl.Ticks(m, none), m)
	}
}

// A core that is none in room behind the cores is none, too.
func TestCoresInTheRoomBehind(t *testing.T) {
	m := counting(4)
	m.Cores = m.Cores[:2]
	for core := 2; core < 4; core++ {
		checkMachine(t, "Tick", impl.Tick(m, core), m)
	}
}

func TestHowManyPicks(t *testing.T) {
	for cores := 1; cores <= impl.MaxCores; cores += 7 {
		m := counting(cores)
		m.Image = append(m.Image[:6:6], impl.Ins{Op: impl.MJmp, N: 3})
		picks := make([]int, impl.MaxPicks+1)
		for i := range picks {
			picks[i] = i * 5 % (cores + 1)
		}
		for _, n := range []int{0, 1, 2, 3, 1000, impl.MaxPicks - 1, impl.MaxPicks} {
			got := checkTicks(t, "picks", m, picks[:n]...)
			if n > cores && len(unlike(got, m)) == 0 {
				t.Errorf("%d picks turn nothing", n)
			}
		}
		checkMachine(t, "too many", impl.Ticks(m, picks), m)
		checkMachine(t, "far too many", impl.Ticks(m, append(picks, picks...)), m)
		if n := len(unlike(impl.Ticks(m, picks[:impl.MaxPicks]), impl.Ticks(m, picks[:impl.MaxPicks-7]))); n == 0 {
			t.Error("the last picks turn nothing")
		}
	}
}

// Picks that are none count, too.
func TestPicksThatAreNoneCount(t *testing.T) {
	m := counting(2)
	picks := make([]int, impl.MaxPicks+1)
	for i := range picks {
		picks[i] = -1
	}
	picks[7] = 1
	checkMachine(t, "MaxPicks", impl.Ticks(m, picks[:impl.MaxPicks]), impl.Tick(m, 1))
	checkMachine(t, "one more", impl.Ticks(m, picks), m)
}

func TestPicksInTwoParts(t *testing.T) {
	m := counting(3)
	halting := counting(3)
	halting.Image[7] = impl.Ins{Op: impl.MHalt, A: 4}
	for _, m := range []impl.Machine{m, halting} {
		var picks []int
		for i := range 90 {
			picks = append(picks, i*i%5-1)
		}
		whole := checkTicks(t, "at once", m, picks...)
		for cut := range len(picks) + 1 {
			checkMachine(t, "two parts", impl.Ticks(impl.Ticks(m, picks[:cut]), picks[cut:]), whole)
		}
		one := m
		for _, core := range picks {
			one = impl.Tick(one, core)
		}
		checkMachine(t, "one by one", one, whole)
	}
}

func TestTurns(t *testing.T) {
	for cores := 1; cores <= impl.MaxCores; cores++ {
		m := counting(cores)
		for _, n := range []int{math.MinInt, least, -40000, -2, -1, 0} {
			checkMachine(t, "below", impl.Turns(m, n), m)
		}
		for n := 1; n <= 3*cores+1; n++ {
			got := checkTurns(t, "turns", m, n)
			for i, c := range got.Cores {
				done := n / cores
				if i < n%cores {
					done++
				}
				if c.Pc != done {
					t.Errorf("%d turns of %d cores: core %d is at %d, not at %d", n, cores, i, c.Pc, done)
				}
			}
		}
		checkTurns(t, "many turns", m, 700)
	}
}

// A core that is never over shows how many turns were done: it is one more at each third of them.
func TestMostTurns(t *testing.T) {
	m := impl.Machine{
		Image: []impl.Ins{{Op: impl.MAdd, R: 0, A: 0, B: 1}, {Op: impl.MJmp}},
		Cores: []impl.Core{at(0, 0, 0, 1, 0, 0, 0, 0), at(0, 0, 0, 1, 0, 0, 0, 0), at(0, 0, 0, 1, 0, 0, 0, 0)},
	}
	for _, k := range []struct {
		n    int
		want [3]int
		pc   [3]int
	}{
		{39998, [3]int{6667, 6667, 6666}, [3]int{1, 1, 0}},
		{39999, [3]int{6667, 6667, 6667}, [3]int{1, 1, 1}},
		{40000, [3]int{6667, 6667, 6667}, [3]int{0, 1, 1}},
		{40001, [3]int{6667, 6667, 6667}, [3]int{0, 1, 1}},
		{80000, [3]int{6667, 6667, 6667}, [3]int{0, 1, 1}},
		{math.MaxInt, [3]int{6667, 6667, 6667}, [3]int{0, 1, 1}},
	} {
		got := impl.Turns(m, k.n)
		for i, c := range got.Cores {
			if c.Regs[0] != k.want[i] || c.Pc != k.pc[i] {
				t.Errorf("%d turns: core %d is %+v", k.n, i, c)
			}
		}
		if got.Over || len(got.Cores) != 3 {
			t.Errorf("%d turns: %+v", k.n, got)
		}
	}
}

func TestTurnsArePicksInTurn(t *testing.T) {
	for cores := 1; cores <= impl.MaxCores; cores++ {
		m := counting(cores)
		var picks []int
		for n := range 50 {
			checkMachine(t, "turns", impl.Turns(m, n), impl.Ticks(m, picks))
			picks = append(picks, n%cores)
		}
	}
}

// drawnMachine is mostly right, so that much of it is done.
func drawnMachine(draw *int, numbers []int) impl.Machine {
	next := func(n int) int {
		*draw++
		return numbers[*draw%len(numbers)] & math.MaxInt % n
	}
	var m impl.Machine
	for range 1 + next(12) {
		x := drawnPlace(draw, numbers)
		if x.Op == impl.MJmp || x.Op == impl.MJz || x.Op == impl.MCall {
			x.N = next(14) - 1
		}
		if !wantOk(x) && next(15) > 0 {
			x = impl.Ins{Op: impl.MCore, R: next(6)}
		}
		m.Image = append(m.Image, x)
	}
	for range next(30) {
		m.Mem = append(m.Mem, next(14))
	}
	for range 1 + next(8) {
		c := at(next(len(m.Image)), next(len(m.Mem)+1))
		for range 6 {
			c.Regs = append(c.Regs, next(16)-1)
		}
		m.Cores = append(m.Cores, c)
	}
	m.Code = next(9) - 4
	m.Over = next(50) == 0
	if next(6) == 0 {
		m.Out, m.Notes = ramp(2995+next(7)), notesOf(2995+next(7))
	}
	return m
}

// Many drawn machines against what the document asks, at once, in two parts and in turn.
func TestDrawnMachines(t *testing.T) {
	numbers := manyNumbers(100003)
	draw := 0
	met := map[string]int{}
	for range 5000 {
		m := drawnMachine(&draw, numbers)
		var picks []int
		for range 1 + draw%40 {
			draw++
			picks = append(picks, numbers[draw%len(numbers)]&math.MaxInt%(len(m.Cores)+2)-1)
		}
		got := checkTicks(t, "drawn", m, picks...)
		cut := draw % (len(picks) + 1)
		checkMachine(t, "drawn in two parts", impl.Ticks(impl.Ticks(m, picks[:cut]), picks[cut:]), got)
		checkTick(t, "drawn", m, picks[0])
		turns := checkTurns(t, "drawn", m, draw%60)
		for _, k := range []struct {
			name string
			so   bool
		}{
			{"wrong", !impl.MachineOk(m)},
			{"over by a trap", !m.Over && got.Over && got.Code == -1},
			{"over by a halt", !m.Over && got.Over && got.Code != -1},
			{"still going on", impl.MachineOk(got) && !got.Over},
			{"put out", len(got.Out) > len(m.Out)},
			{"noted", len(got.Notes) > len(m.Notes)},
			{"full", len(m.Out)+len(m.Notes) < len(turns.Out)+len(turns.Notes) && max(len(turns.Out), len(turns.Notes)) == impl.MaxNotes},
			{"memory turned", len(got.Mem) == len(m.Mem) && !slices.Equal(got.Mem, m.Mem)},
		} {
			met[k.name] += flag(k.so)
		}
	}
	for _, name := range []string{"wrong", "over by a trap", "over by a halt", "still going on", "put out", "noted", "memory turned"} {
		if met[name] < 100 {
			t.Errorf("%s was met %d times", name, met[name])
		}
	}
	if met["full"] < 20 {
		t.Errorf("full was met %d times", met["full"])
	}
}

// roomy is the machine with spare room behind each of its lists, and these lists whole.
func roomy(m impl.Machine) (impl.Machine, impl.Machine) {
	whole := cloneMachine(m)
	given := impl.Machine{Over: m.Over, Code: m.Code}
	whole.Image = append(whole.Image, impl.Ins{Op: 7}, impl.Ins{Op: 8})
	whole.Mem = append(whole.Mem, 61, 62)
	whole.Out = append(whole.Out, 63, 64)
	whole.Notes = append(whole.Notes, impl.Note{Who: 65}, impl.Note{Who: 66})
	for i := range whole.Cores {
		whole.Cores[i].Regs = append(whole.Cores[i].Regs, 67, 68)
	}
	given.Image = whole.Image[:len(m.Image)]
	given.Mem = whole.Mem[:len(m.Mem)]
	given.Out = whole.Out[:len(m.Out)]
	given.Notes = whole.Notes[:len(m.Notes)]
	given.Cores = make([]impl.Core, len(m.Cores), len(m.Cores)+2)
	for i, c := range m.Cores {
		given.Cores[i] = impl.Core{Pc: c.Pc, Fp: c.Fp, Regs: whole.Cores[i].Regs[:len(c.Regs)]}
	}
	return given, whole
}

// spoilMachine writes over all of a machine and the room behind its lists.
func spoilMachine(m impl.Machine) {
	for i := range m.Image[:cap(m.Image)] {
		m.Image[:cap(m.Image)][i] = impl.Ins{Op: -99}
	}
	for i := range m.Notes[:cap(m.Notes)] {
		m.Notes[:cap(m.Notes)][i] = impl.Note{Who: -99, What: -99}
	}
	for i := range m.Cores {
		spoil(m.Cores[i].Regs)
		m.Cores[i] = impl.Core{Pc: -99, Fp: -99}
	}
	for i := range m.Cores[:cap(m.Cores)] {
		m.Cores[:cap(m.Cores)][i] = impl.Core{Pc: -99}
	}
	spoil(m.Mem)
	spoil(m.Out)
}

// asked are the ways to ask for a machine: where it goes on, where it is as it was, and where it is zero.
func asked() map[string]func(m impl.Machine) impl.Machine {
	return map[string]func(m impl.Machine) impl.Machine{
		"Tick":           func(m impl.Machine) impl.Machine { return impl.Tick(m, 1) },
		"Tick of none":   func(m impl.Machine) impl.Machine { return impl.Tick(m, -1) },
		"Ticks":          func(m impl.Machine) impl.Machine { return impl.Ticks(m, []int{0, 1, 1, 0, 1, 9, 1, 0}) },
		"Ticks of none":  func(m impl.Machine) impl.Machine { return impl.Ticks(m, nil) },
		"Ticks too many": func(m impl.Machine) impl.Machine { return impl.Ticks(m, make([]int, impl.MaxPicks+1)) },
		"Turns":          func(m impl.Machine) impl.Machine { return impl.Turns(m, 40) },
		"Turns of none":  func(m impl.Machine) impl.Machine { return impl.Turns(m, -1) },
	}
}

func machinesForMemory() []impl.Machine {
	out := []impl.Machine{counting(1), counting(2), counting(8), staying(), {}}
	over := counting(3)
	over.Over = true
	wrong := counting(3)
	wrong.Code = turn
	full := counting(2)
	full.Out, full.Notes = ramp(impl.MaxNotes), notesOf(impl.MaxNotes)
	out = append(out, over, wrong, full)
	for _, f := range opForms {
		x := ordinary(f)
		if f.op == impl.MLd || f.op == impl.MSt {
			x.N = 1
		}
		out = append(out, impl.Machine{Image: []impl.Ins{x, {Op: impl.MRet}}, Mem: ramp(30), Cores: coresAt(0, 2), Out: []int{1}, Notes: notesOf(1)})
	}
	return out
}

func TestMachinesThatAreGivenAreNotWrittenInto(t *testing.T) {
	for name, ask := range asked() {
		for _, m := range machinesForMemory() {
			given, whole := roomy(m)
			kept := cloneMachine(whole)
			got := ask(given)
			if texts := unlike(whole, kept); texts != nil {
				t.Errorf("%s writes into what it was given: %v", name, texts)
			}
			want := ask(cloneMachine(m))
			spoilMachine(got)
			for i, c := range given.Cores {
				if c.Pc != m.Cores[i].Pc || c.Fp != m.Cores[i].Fp || !slices.Equal(c.Regs, m.Cores[i].Regs) {
					t.Errorf("%s: core %d is written into", name, i)
				}
			}
			if texts := unlike(whole, kept); texts != nil {
				t.Errorf("%s: the answer shares memory with what was given: %v", name, texts)
			}
			checkMachine(t, name+" again", ask(given), want)
			for _, c := range given.Cores[:cap(given.Cores)][len(given.Cores):] {
				if c.Pc != 0 || c.Fp != 0 || c.Regs != nil {
					t.Errorf("%s writes into the room behind the cores", name)
				}
			}
		}
	}
}

func TestEachMachineIsNewMemory(t *testing.T) {
	for name, ask := range asked() {
		for _, m := range machinesForMemory() {
			one, other := ask(m), ask(m)
			kept := cloneMachine(other)
			spoilMachine(one)
			if texts := unlike(other, kept); texts != nil {
				t.Errorf("%s: two answers share memory: %v", name, texts)
			}
		}
	}
}

// No two lists of one answer share any memory, not even behind their ends.
func TestListsOfAMachineShareNothing(t *testing.T) {
	for name, ask := range asked() {
		for _, m := range machinesForMemory() {
			got := ask(m)
			lists := [][]int{got.Mem, got.Out}
			for _, c := range got.Cores {
				lists = append(lists, c.Regs)
			}
			for i, list := range lists {
				for j, other := range lists {
					kept := slices.Clone(other)
					was := slices.Clone(list[:cap(list)])
					spoil(list)
					if i != j && !slices.Equal(other, kept) {
						t.Errorf("%s: lists %d and %d share memory", name, i, j)
					}
					copy(list[:cap(list)], was)
				}
			}
		}
	}
}

// What was handed in may share memory with itself; the answer does not.
func TestAMachineWhoseListsShare(t *testing.T) {
	one := []int{0, 1, 2, 3, 4, 5, 6, 7}
	m := impl.Machine{
		Image: []impl.Ins{{Op: impl.MSt, A: 0, B: 3}, {Op: impl.MLi, R: 2, N: 50}, {Op: impl.MOut, A: 2}},
		Mem:   one,
		Cores: []impl.Core{{Regs: one[:6]}, {Regs: one[:6]}},
		Out:   one[2:4],
	}
	got := checkTicks(t, "shared", m, 0, 0, 1, 0)
	if !slices.Equal(one, []int{0, 1, 2, 3, 4, 5, 6, 7}) {
		t.Error("written into", one)
	}
	if !slices.Equal(got.Mem, []int{3, 1, 2, 3, 4, 5, 6, 7}) || !slices.Equal(got.Out, []int{2, 3, 50}) || !slices.Equal(got.Cores[0].Regs, []int{0, 1, 50, 3, 4, 5}) || !slices.Equal(got.Cores[1].Regs, []int{0, 1, 2, 3, 4, 5}) {
		t.Error(got)
	}
	given := cloneMachine(got)
	got.Cores[0].Regs[0] = 9
	if got.Cores[1].Regs[0] != 0 || got.Mem[0] != 3 {
		t.Error("the answer shares", got.Cores, given.Cores)
	}
}

func TestPicksAreNotWrittenInto(t *testing.T) {
	whole := []int{0, 1, 0, 1, 7, 7, 7}
	for n := range len(whole) + 1 {
		impl.Ticks(counting(2), whole[:n])
		if !slices.Equal(whole, []int{0, 1, 0, 1, 7, 7, 7}) {
			t.Fatal("Ticks writes into the picks", whole)
		}
	}
}

// Nothing is kept from call to call.
func TestAMachineAnswersTheSameAgain(t *testing.T) {
	for name, ask := range asked() {
		m := counting(5)
		first := ask(m)
		impl.Turns(counting(8), 500)
		impl.Tick(impl.Machine{}, 0)
		checkMachine(t, name, ask(m), first)
	}
}

// A machine of the most of all, at the most picks.
func TestTheLargestMachine(t *testing.T) {
	m := impl.Machine{Image: make([]impl.Ins, impl.MaxImage), Mem: ramp(impl.MaxMem), Cores: coresAt(0, impl.MaxCores), Out: ramp(impl.MaxNotes), Notes: notesOf(impl.MaxNotes)}
	for i := range m.Image {
		m.Image[i] = impl.Ins{Op: impl.MAdd, R: 3, A: 3, B: 1}
	}
	m.Image[impl.MaxImage-1] = impl.Ins{Op: impl.MJmp}
	for i := range m.Cores {
		m.Cores[i].Regs[3] = 0
	}
	got := impl.Turns(m, impl.MaxPicks)
	for i, c := range got.Cores {
		// 5000 each: 2999 sums, the jump, 2000 sums.
		if c.Pc != 2000 || c.Regs[3] != 3*4999 {
			t.Errorf("core %d: %+v", i, c)
		}
	}
	if got.Over || !impl.MachineOk(got) || !slices.Equal(got.Mem, m.Mem) || len(got.Out) != impl.MaxNotes || len(got.Notes) != impl.MaxNotes {
		t.Error(got.Over, len(got.Out), len(got.Notes))
	}
}
