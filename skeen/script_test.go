package skeen_test

import (
	"math"
	"reflect"
	"slices"
	"testing"

	"cutwater/api"
	"cutwater/skeen"
)

// draw: numbers that are the same each time.
type draw uint64

func (d *draw) n(n int) int {
	*d = *d*6364136223846793005 + 1442695040888963407
	return int(uint64(*d) >> 33 % uint64(n))
}

// model: a server by the numbers of entries: time 0, if one does not wait.
type model struct {
	clock int
	times [21]int
	final [21]bool
	done  []int
}

func (m *model) waiting() int {
	count := 0
	for _, time := range m.times {
		count += min(time, 1)
	}
	return count
}

func (m *model) propose(number int) (int, api.Errno) {
	switch {
	case number < 1 || number > 20:
		return 0, api.ErrRange
	case m.times[number] > 0 || slices.Contains(m.done, number):
		return 0, api.ErrTwice
	case m.waiting() == 8 || m.clock == 999:
		return 0, api.ErrMany
	}
	m.clock++
	m.times[number] = m.clock
	return m.clock, api.OK
}

func (m *model) commit(number, time int) api.Errno {
	switch {
	case number < 1 || number > 20 || time < 1 || time > 999:
		return api.ErrRange
	case m.times[number] == 0:
		return api.ErrNone
	case m.final[number] || time < m.times[number]:
		return api.ErrState
	}
	m.times[number], m.final[number] = time, true
	m.clock = max(m.clock, time)
	m.deliver()
	return api.OK
}

// deliver goes time by time, number by number, up to what is not final.
func (m *model) deliver() {
	for time := 1; time <= 999; time++ {
		for number := 1; number <= 20; number++ {
			if m.times[number] != time {
				continue
			}
			if !m.final[number] {
				return
			}
			m.done = append(m.done, number)
			m.times[number], m.final[number] = 0, false
		}
	}
}

func (m *model) server() api.Server {
	s := api.Server{Clock: m.clock, Done: m.done}
	for number, time := range m.times {
		if time > 0 {
			s.Waits = append(s.Waits, api.Wait{Number: number, Time: time, Final: m.final[number]})
		}
	}
	return s
}

// C2: whatever is proposed and committed, a server is as the model is, and stands Check.
func TestC2Scripts(t *testing.T) {
	d := draw(3)
	for range 400 {
		m := &model{clock: d.n(2) * d.n(999)}
		s := api.Server{Clock: m.clock}
		for range 80 {
			number := d.n(22)
			x, got, expect := s, api.OK, api.OK
			if d.n(2) == 0 {
				var time, must int
				x, time, got = skeen.Propose(s, number)
				if must, expect = m.propose(number); time != must {
					t.Fatalf("Propose(%v, %d) has time %d, must have %d", s, number, time, must)
				}
			} else {
				time := max(0, m.clock-5) + d.n(8)
				x, got = skeen.Commit(s, number, time)
				expect = m.commit(number, time)
			}
			if got != expect || got != api.OK && !same(x, api.Server{}) {
				t.Fatalf("of %v and %d it is %v %d, must be of %d", s, number, x, got, expect)
			}
			if got == api.OK {
				s = x
			}
			if !same(s, m.server()) || skeen.Check(s) != api.OK {
				t.Fatalf("it is %v, must be %v", s, m.server())
			}
		}
	}
}

// C3: All is Propose by each, then Commit by each, by the greatest time.
func TestC3AllIsItsCalls(t *testing.T) {
	d := draw(11)
	for range 400 {
		l := make([]api.Server, 3)
		for i := range l {
			l[i].Clock = d.n(20)
			for range d.n(4) {
				if s, _, errno := skeen.Propose(l[i], 1+d.n(20)); errno == api.OK {
					l[i] = s
				}
			}
		}
		for range 12 {
			number, colors := 1+d.n(20), 1+d.n(7)
			x, expect := byCalls(l, number, colors)
			all, errno := skeen.All(l, number, colors)
			wantAll(t, "drawn", all, errno, x, expect)
			if errno == api.OK {
				l = all
			}
		}
	}
}

func byCalls(l []api.Server, number, colors int) ([]api.Server, api.Errno) {
	x := slices.Clone(l)
	greatest := 0
	for i := range x {
		if colors&(1<<i) == 0 {
			continue
		}
		s, time, errno := skeen.Propose(x[i], number)
		if errno != api.OK {
			return nil, errno
		}
		x[i], greatest = s, max(greatest, time)
	}
	for i := range x {
		if colors&(1<<i) == 0 {
			continue
		}
		s, errno := skeen.Commit(x[i], number, greatest)
		if errno != api.OK {
			return nil, errno
		}
		x[i] = s
	}
	return x, api.OK
}

// wantOneOrder: of two that two servers have both done, both have the same one ahead.
func wantOneOrder(t *testing.T, l []api.Server) {
	t.Helper()
	for i, a := range l {
		for j, b := range l[:i] {
			both := func(own, other []int) []int {
				return slices.DeleteFunc(slices.Clone(own), func(n int) bool { return !slices.Contains(other, n) })
			}
			if !slices.Equal(both(a.Done, b.Done), both(b.Done, a.Done)) {
				t.Fatalf("servers %d and %d have no one order: %v", j, i, l)
			}
		}
	}
}

// C4: two entries that come to two servers crosswise, and are committed crosswise.
func TestC4Crosswise(t *testing.T) {
	var l [2]api.Server
	greatest := map[int]int{}
	for _, p := range []struct{ at, number int }{{0, 1}, {0, 3}, {1, 2}, {0, 2}, {1, 1}} {
		s, time, errno := skeen.Propose(l[p.at], p.number)
		if errno != api.OK {
			t.Fatalf("Propose of %d at %d has error %d", p.number, p.at, errno)
		}
		l[p.at], greatest[p.number] = s, max(greatest[p.number], time)
	}
	for _, p := range []struct{ at, number int }{{0, 2}, {1, 1}, {0, 3}, {1, 2}, {0, 1}} {
		s, errno := skeen.Commit(l[p.at], p.number, greatest[p.number])
		if errno != api.OK {
			t.Fatalf("Commit of %d at %d has error %d", p.number, p.at, errno)
		}
		l[p.at] = s
	}
	if !slices.Equal(l[0].Done, []int{1, 3, 2}) {
		t.Errorf("server 0 has done %v", l[0].Done)
	}
	if !slices.Equal(l[1].Done, []int{1, 2}) {
		t.Errorf("server 1 has done %v", l[1].Done)
	}
	wantOneOrder(t, l[:])
}

// sent: an entry on its way to servers: those that have not proposed it, or committed it, yet.
type sent struct {
	number, greatest int
	propose, commit  []int
}

// next does one thing of an entry that it may do now, at a drawn server.
func (e *sent) next(t *testing.T, d *draw, l []api.Server) {
	t.Helper()
	if len(e.propose) > 0 {
		i := d.n(len(e.propose))
		at := e.propose[i]
		s, time, errno := skeen.Propose(l[at], e.number)
		if errno == api.ErrMany && len(l[at].Waits) == api.MaxWaits {
			return
		}
		if errno != api.OK {
			t.Fatalf("Propose(%v, %d) has error %d", l[at], e.number, errno)
		}
		l[at], e.greatest = s, max(e.greatest, time)
		e.propose = slices.Delete(e.propose, i, i+1)
		return
	}
	if len(e.commit) > 0 {
		i := d.n(len(e.commit))
		at := e.commit[i]
		s, errno := skeen.Commit(l[at], e.number, e.greatest)
		if errno != api.OK {
			t.Fatalf("Commit(%v, %d, %d) has error %d", l[at], e.number, e.greatest, errno)
		}
		l[at] = s
		e.commit = slices.Delete(e.commit, i, i+1)
	}
}

func send(d *draw, count int) []*sent {
	var all []*sent
	for number := range count {
		e := &sent{number: number + 1}
		colors := 1 + d.n(api.AllColors)
		for at := range api.Servers {
			if colors>>at&1 == 1 {
				e.propose = append(e.propose, at)
				e.commit = append(e.commit, at)
			}
		}
		all = append(all, e)
	}
	return all
}

// C4: whatever comes between, at each step, whole entries by All too; and at last all is done.
func TestC4Between(t *testing.T) {
	d := draw(7)
	for range 300 {
		l := []api.Server{{Clock: d.n(9)}, {Clock: d.n(9)}, {Clock: d.n(9)}}
		some := 1 + d.n(8)
		entries := send(&d, some)
		whole := some
		for range 150 {
			entries[d.n(some)].next(t, &d, l)
			if d.n(20) == 0 && whole < api.MaxNumber {
				if all, errno := skeen.All(l, whole+1, 1+d.n(7)); errno == api.OK {
					l = all
					whole++
				}
			}
			wantOneOrder(t, l)
		}
		finish(t, &d, entries, l)
	}
}

// finish brings each entry to its end: nothing waits then.
func finish(t *testing.T, d *draw, entries []*sent, l []api.Server) {
	t.Helper()
	for range 200 {
		for _, e := range entries {
			e.next(t, d, l)
		}
	}
	wantOneOrder(t, l)
	for _, s := range l {
		if len(s.Waits) > 0 {
			t.Fatalf("at last %v waits", s)
		}
	}
}

// roomy: the same server, with room behind its lists; and what that room's lists are.
func roomy(s api.Server) (api.Server, func() api.Server) {
	w := append(append([]api.Wait{}, s.Waits...), final(9, 9), open(-1, -1), final(20, 1), open(3, 3))
	n := append(append([]int{}, s.Done...), 77, -77, 9, 0)
	s.Waits, s.Done = w[:len(s.Waits)], n[:len(s.Done)]
	return s, func() api.Server { return api.Server{Clock: s.Clock, Waits: w, Done: n} }
}

// spoil changes all that a server's lists have, the room behind them too.
func spoil(s api.Server) {
	for i := range s.Waits[:cap(s.Waits)] {
		s.Waits[:cap(s.Waits)][i] = final(99, -99)
	}
	for i := range s.Done[:cap(s.Done)] {
		s.Done[:cap(s.Done)][i] = -99
	}
}

// lists: three servers that share one memory.
func lists(s api.Server) []api.Server { return []api.Server{s, s, s} }

// calls that answer servers.
var calls = []struct {
	name string
	of   api.Server
	do   func(api.Server) ([]api.Server, api.Errno)
}{
	{"Propose first", server(9, done(7, 8), open(2, 4), final(5, 5)), func(s api.Server) ([]api.Server, api.Errno) {
		x, _, errno := skeen.Propose(s, 1)
		return []api.Server{x}, errno
	}},
	{"Propose last", server(9, done(7, 8), open(2, 4), final(5, 5)), func(s api.Server) ([]api.Server, api.Errno) {
		x, _, errno := skeen.Propose(s, 6)
		return []api.Server{x}, errno
	}},
	{"Commit one", server(9, done(7, 8), open(2, 4), open(5, 5)), func(s api.Server) ([]api.Server, api.Errno) {
		x, errno := skeen.Commit(s, 2, 4)
		return []api.Server{x}, errno
	}},
	{"Commit several", server(9, done(7, 8), open(2, 4), final(5, 5)), func(s api.Server) ([]api.Server, api.Errno) {
		x, errno := skeen.Commit(s, 2, 6)
		return []api.Server{x}, errno
	}},
	{"Commit none", server(9, done(7, 8), open(2, 4), open(5, 5)), func(s api.Server) ([]api.Server, api.Errno) {
		x, errno := skeen.Commit(s, 5, 6)
		return []api.Server{x}, errno
	}},
	{"All of one color", server(9, done(7, 8), open(2, 4), final(5, 5)), func(s api.Server) ([]api.Server, api.Errno) {
		return skeen.All(lists(s), 1, 2)
	}},
	{"All of all colors", server(9, done(7, 8), open(2, 4), final(5, 5)), func(s api.Server) ([]api.Server, api.Errno) {
		return skeen.All(lists(s), 1, 7)
	}},
}

func plainAll(l []api.Server) []api.Server {
	var x []api.Server
	for _, s := range l {
		x = append(x, plain(s))
	}
	return x
}

// P2, P3: what is handed in is only read, the room behind it too; an answer shares nothing with it, nor do its lists with each other; the same is answered again.
func TestP2AnswersAreTheCallers(t *testing.T) {
	for _, c := range calls {
		s, all := roomy(c.of)
		before := plain(all())
		l, errno := c.do(s)
		if errno != api.OK {
			t.Errorf("%s has error %d", c.name, errno)
		}
		mine := plainAll(l)
		again, _ := c.do(s)
		for i := range l {
			spoil(l[i])
			if !slices.EqualFunc(l[i+1:], mine[i+1:], same) {
				t.Errorf("%s: servers of one answer share memory", c.name)
			}
		}
		if !same(all(), before) {
			t.Errorf("%s: %v was handed in, and is %v", c.name, before, all())
		}
		spoil(all())
		if !slices.EqualFunc(again, mine, same) {
			t.Errorf("%s: it is %v the second time, was %v", c.name, again, mine)
		}
	}
}

// P2: the list of servers is the caller's, too.
func TestP2ListOfServers(t *testing.T) {
	all := []api.Server{{Clock: 1}, {Clock: 2}, {Clock: 3}, {Clock: 4}}
	l, errno := skeen.All(all[:3], 1, 7)
	if errno != api.OK {
		t.Fatalf("All has error %d", errno)
	}
	for i := range l[:cap(l)] {
		l[:cap(l)][i].Clock = 99
	}
	if !reflect.DeepEqual(all, []api.Server{{Clock: 1}, {Clock: 2}, {Clock: 3}, {Clock: 4}}) {
		t.Errorf("the list that was handed in is %v", all)
	}
}

// P1, P2: whatever is handed in, every call ends, and has changed nothing, with an error or without one.
func TestP1P2WhateverIsHandedIn(t *testing.T) {
	odd := []int{math.MinInt, -1, 0, 1, 2, 5, 7, 8, 20, 21, 999, 1000, math.MaxInt}
	for _, c := range checks {
		s, all := roomy(c.s)
		before := plain(all())
		skeen.Check(s)
		for _, number := range odd {
			x, time, errno := skeen.Propose(s, number)
			if errno != api.OK && (!same(x, api.Server{}) || time != 0) {
				t.Errorf("%s: Propose of %d is %v %d with error %d", c.name, number, x, time, errno)
			}
			for _, n := range odd {
				if x, errno := skeen.Commit(s, number, n); errno != api.OK && !same(x, api.Server{}) {
					t.Errorf("%s: Commit of %d is %v with error %d", c.name, number, x, errno)
				}
				if l, errno := skeen.All(lists(s), number, n); errno != api.OK && len(l) > 0 {
					t.Errorf("%s: All of %d is %v with error %d", c.name, number, l, errno)
				}
			}
		}
		if !same(all(), before) {
			t.Errorf("%s: %v was handed in, and is %v", c.name, before, all())
		}
	}
}
