package tests

import (
	"slices"

	"loop.example/g00286/impl"
)

// seen is a world at work, in memory of its own, and the body that does something in it.
type seen struct {
	impl.World
	id int
}

func (s *seen) body() *impl.Body { return &s.Bodies[s.id] }

func (s *seen) regs() []int {
	frames := s.body().Frames
	return frames[len(frames)-1].Regs
}

func (s *seen) end(code int) { s.Over, s.Code = true, code }

// still are those of a list who wait still.
func (s *seen) still(list []impl.Wait) []impl.Wait {
	var tickets []int
	for _, b := range s.Bodies {
		tickets = append(tickets, b.Ticket)
	}
	return wantLive(list, tickets)
}

// woken is of who waits no more. What it was given goes into these registers: with none, with the first one, with the second one, and with both.
func (s *seen) woken(x impl.Wait, value int) {
	b := &s.Bodies[x.Body]
	b.Waits, b.Ticket, b.Value, b.Case = false, b.Ticket+1, value, x.Case
	goes := map[[2]bool][][2]int{
		{false, false}: {},
		{true, false}:  {{b.Dst, value}},
		{false, true}:  {{b.Two, value}},
		{true, true}:   {{b.Dst, x.Case}, {b.Two, value}},
	}
	for _, pair := range goes[[2]bool{b.Dst >= 0, b.Two >= 0}] {
		if count := len(b.Frames); count > 0 && pair[0] < len(b.Frames[count-1].Regs) {
			b.Frames[count-1].Regs[pair[0]] = pair[1]
		}
	}
}

// talkRule is what is done where that is so, and what is taken by it.
type talkRule struct {
	so   func(s *seen, c *impl.Chan) bool
	does func(s *seen, c *impl.Chan, value int) int
}

func someTake(s *seen, c *impl.Chan) bool { return len(s.still(c.Takes)) > 0 }

func someGive(s *seen, c *impl.Chan) bool { return len(s.still(c.Gives)) > 0 }

func isClosed(_ *seen, c *impl.Chan) bool { return c.Closed }

func ends(code int) func(s *seen, c *impl.Chan, value int) int {
	return func(s *seen, _ *impl.Chan, _ int) int {
		s.end(code)
		return 0
	}
}

// talkRules are the document's words of a channel that is there, to take (1) and to give (2): the first one that is so is done, and where none is, it can't be done now.
var talkRules = map[int][]talkRule{
	1: {
		{
			func(s *seen, c *impl.Chan) bool { return len(c.Buf) > 0 && someGive(s, c) },
			func(s *seen, c *impl.Chan, _ int) int {
				first, giver := c.Buf[0], s.still(c.Gives)[0]
				c.Buf = slices.Concat(c.Buf[1:], []int{giver.Value})
				s.woken(giver, 0)
				return first
			},
		},
		{
			func(_ *seen, c *impl.Chan) bool { return len(c.Buf) > 0 },
			func(_ *seen, c *impl.Chan, _ int) int {
				first := c.Buf[0]
				c.Buf = slices.Clone(c.Buf[1:])
				return first
			},
		},
		{
			someGive,
			func(s *seen, c *impl.Chan, _ int) int {
				giver := s.still(c.Gives)[0]
				s.woken(giver, 0)
				return giver.Value
			},
		},
		{isClosed, func(*seen, *impl.Chan, int) int { return 0 }},
	},
	2: {
		{isClosed, ends(2)},
		{
			someTake,
			func(s *seen, c *impl.Chan, value int) int {
				s.woken(s.still(c.Takes)[0], value)
				return 0
			},
		},
		{
			func(_ *seen, c *impl.Chan) bool { return len(c.Buf) < c.Cap },
			func(_ *seen, c *impl.Chan, value int) int {
				c.Buf = slices.Concat(c.Buf, []int{value})
				return 0
			},
		},
	},
}

// talk is one case: what was taken, and whether anything was done.
func (s *seen) talk(kind, number, value int) (int, bool) {
	if number < 1 || number > len(s.Chans) {
		s.end(7)
		return 0, true
	}
	for _, rule := range talkRules[kind] {
		if c := &s.Chans[number-1]; rule.so(s, c) {
			return rule.does(s, c, value), true
		}
	}
	return 0, false
}

func (s *seen) waits(dst, two int) {
	b := s.body()
	b.Waits, b.Dst, b.Two = true, dst, two
}

func (s *seen) waitsToTake(number, which int) {
	c := &s.Chans[number-1]
	c.Takes = wantAdd(c.Takes, impl.Wait{Body: s.id, Ticket: s.body().Ticket, Value: 0, Case: which})
}

func (s *seen) waitsToGive(number, value, which int) {
	c := &s.Chans[number-1]
	c.Gives = wantAdd(c.Gives, impl.Wait{Body: s.id, Ticket: s.body().Ticket, Value: value, Case: which})
}

// seenWays say of each place that others see what is done, and of which kind it is.
var seenWays = map[int]func(s *seen, t impl.Tac) int{
	impl.TcPrint: func(s *seen, t impl.Tac) int {
		s.Out = slices.Concat(s.Out, []int{s.regs()[t.A]})
		return 1
	},
	impl.TcGo: func(s *seen, t impl.Tac) int {
		if len(s.Bodies) == mostBodies {
			s.end(5)
			return 2
		}
		unit := slices.IndexFunc(s.Units, func(u impl.Unit) bool { return u.Name == t.S })
		b := worldAt(s.Units, unit).Bodies[0]
		for i, r := range t.Args {
			b.Frames[0].Regs[i] = s.regs()[r]
		}
		s.Bodies = append(slices.Clone(s.Bodies), b)
		return 2
	},
	impl.TcMake: func(s *seen, t impl.Tac) int {
		switch room := s.regs()[t.A]; {
		case room < 0 || room > mostCap:
			s.end(4)
		case len(s.Chans) == mostChans:
			s.end(6)
		default:
			s.Chans = append(slices.Clone(s.Chans), impl.Chan{Cap: room})
			s.regs()[t.D] = len(s.Chans)
		}
		return 3
	},
	impl.TcSend: func(s *seen, t impl.Tac) int {
		number, value := s.regs()[t.A], s.regs()[t.B]
		if _, done := s.talk(2, number, value); !done {
			s.waits(-1, -1)
			s.waitsToGive(number, value, 0)
		}
		return 4
	},
	impl.TcRecv: func(s *seen, t impl.Tac) int {
		number := s.regs()[t.A]
		taken, done := s.talk(1, number, 0)
		switch {
		case !done:
			s.waits(t.D, -1)
			s.waitsToTake(number, 0)
		case !s.Over:
			s.regs()[t.D] = taken
		}
		return 5
	},
	impl.TcClose: func(s *seen, t impl.Tac) int {
		number := s.regs()[t.A]
		if number < 1 || number > len(s.Chans) {
			s.end(7)
			return 6
		}
		c := &s.Chans[number-1]
		if c.Closed || someGive(s, c) {
			s.end(3)
			return 6
		}
		for _, x := range s.still(c.Takes) {
			s.woken(x, 0)
		}
		c.Closed = true
		return 6
	},
	impl.TcSelect: func(s *seen, t impl.Tac) int {
		count := len(t.Args) / 3
		for i := range count {
			kind, number, value := t.Args[3*i], s.regs()[t.Args[3*i+1]], s.regs()[t.Args[3*i+2]]
			if taken, done := s.talk(kind, number, value); done {
				s.regs()[t.D] = i
				if !s.Over {
					s.regs()[t.B] = taken
				}
				return 7
			}
		}
		if t.N == 1 {
			s.regs()[t.D] = count
			return 7
		}
		s.waits(t.D, t.B)
		for i := range count {
			if number := s.regs()[t.Args[3*i+1]]; t.Args[3*i] == 1 {
				s.waitsToTake(number, i)
			} else {
				s.waitsToGive(number, s.regs()[t.Args[3*i+2]], i)
			}
		}
		return 7
	},
	impl.TcRet: func(s *seen, _ impl.Tac) int {
		if s.id > 0 {
			s.body().Ended = true
			return 8
		}
		s.end(0)
		return 9
	},
}

// wantStep is the document's words of Step.
func wantStep(w impl.World, id int) (impl.World, int) {
	if len(worldFaults(w)) > 0 {
		return impl.World{}, 0
	}
	told, tac, ok := wantAhead(w, id)
	if !ok {
		return w, 0
	}
	s := &seen{cloneWorld(told), id}
	if frames := s.body().Frames; tac.Op != impl.TcRet {
		frames[len(frames)-1].Pc++
	}
	kind := seenWays[tac.Op](s, tac)
	return s.World, kind
}

func wantSteps(w impl.World, order []int) (impl.World, []int) {
	var kinds []int
	for _, id := range order[:min(len(order), mostSteps)] {
		next, kind := wantStep(w, id)
		w, kinds = next, append(kinds, kind)
	}
	return w, kinds
}
