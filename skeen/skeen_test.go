package skeen_test

import (
	"math"
	"reflect"
	"slices"
	"testing"

	"cutwater/api"
	"cutwater/skeen"
)

func open(number, time int) api.Wait { return api.Wait{Number: number, Time: time} }

func final(number, time int) api.Wait { return api.Wait{Number: number, Time: time, Final: true} }

func done(numbers ...int) []int { return numbers }

func waits(clock int, l ...api.Wait) api.Server { return api.Server{Clock: clock, Waits: l} }

func server(clock int, done []int, l ...api.Wait) api.Server {
	return api.Server{Clock: clock, Waits: l, Done: done}
}

// rising: numbers from one on, all of them waiting, number n at time n.
func rising(from, count int) []api.Wait {
	var l []api.Wait
	for n := range count {
		l = append(l, open(from+n, from+n))
	}
	return l
}

func numbers(from, to int) []int {
	var l []int
	for n := from; n <= to; n++ {
		l = append(l, n)
	}
	return l
}

// plain takes a nil list for an empty one, as P2 does.
func plain(s api.Server) api.Server {
	s.Waits = append([]api.Wait{}, s.Waits...)
	s.Done = append([]int{}, s.Done...)
	return s
}

func same(a, b api.Server) bool { return reflect.DeepEqual(plain(a), plain(b)) }

// want an answer; P1: the zero server, if there is an error.
func want(t *testing.T, name string, s api.Server, got api.Errno, x api.Server, errno api.Errno) {
	t.Helper()
	if !same(s, x) || got != errno {
		t.Errorf("%s: it is %v %d, must be %v %d", name, s, got, x, errno)
	}
}

var checks = []struct {
	name string
	s    api.Server
	want api.Errno
}{
	{"nothing", api.Server{}, api.OK},
	{"empty lists", api.Server{Waits: []api.Wait{}, Done: []int{}}, api.OK},
	{"greatest clock", api.Server{Clock: api.MaxClock}, api.OK},
	{"one waits", waits(5, open(1, 1)), api.OK},
	{"least and greatest", waits(999, open(1, 999), open(20, 1)), api.OK},
	{"a time that is the clock", waits(5, open(7, 5)), api.OK},
	{"all that may wait", waits(20, rising(1, api.MaxWaits)...), api.OK},
	{"all are done", server(0, numbers(1, api.MaxNumber)), api.OK},
	{"done in any order", server(3, done(9, 20, 1)), api.OK},
	{"all but those that wait are done", server(20, numbers(1, 12), rising(13, 8)...), api.OK},
	{"one time for two", waits(5, open(1, 2), open(2, 2)), api.OK},
	{"final behind by time", waits(5, open(1, 1), final(2, 2)), api.OK},
	{"final behind by time, of a lesser number", waits(5, final(1, 2), open(2, 1)), api.OK},
	{"final behind by number", waits(5, open(1, 2), final(2, 2)), api.OK},
	{"finals between and behind", waits(9, final(1, 4), open(2, 3), final(3, 5), open(4, 6)), api.OK},

	{"clock below 0", api.Server{Clock: -1}, api.ErrRange},
	{"clock far below 0", api.Server{Clock: math.MinInt}, api.ErrRange},
	{"clock too great", api.Server{Clock: api.MaxClock + 1}, api.ErrRange},
	{"clock far too great", api.Server{Clock: math.MaxInt}, api.ErrRange},
	{"too many wait", waits(20, rising(1, api.MaxWaits+1)...), api.ErrMany},
	{"too many done", server(0, make([]int, api.MaxDone+1)), api.ErrMany},
	{"number 0", waits(5, open(0, 1)), api.ErrRange},
	{"number below 0", waits(5, open(math.MinInt, 1)), api.ErrRange},
	{"number too great", waits(5, open(api.MaxNumber+1, 1)), api.ErrRange},
	{"time 0", waits(5, open(1, 0)), api.ErrRange},
	{"time below 0", waits(5, open(1, -1)), api.ErrRange},
	{"time behind the clock", waits(5, open(1, 6)), api.ErrRange},
	{"time behind the clock 0", waits(0, open(1, 1)), api.ErrRange},
	{"second wait's time", waits(5, open(1, 1), open(2, 6)), api.ErrRange},
	{"waits fall", waits(5, open(2, 1), open(1, 2)), api.ErrState},
	{"one waits twice", waits(5, open(1, 1), open(1, 2)), api.ErrState},
	{"last wait falls", waits(5, open(1, 1), open(3, 1), open(2, 1)), api.ErrState},
	{"done number 0", server(5, done(1, 0)), api.ErrRange},
	{"done number below 0", server(5, done(-1)), api.ErrRange},
	{"done number too great", server(5, done(1, 21)), api.ErrRange},
	{"one done twice", server(5, done(3, 1, 3)), api.ErrTwice},
	{"done, and waits", server(5, done(1), open(1, 1)), api.ErrTwice},
	{"done, and waits behind another one", server(5, done(4, 2), open(1, 1), open(2, 2)), api.ErrTwice},
	{"as many done as may be", server(5, append(numbers(1, 20), numbers(1, 10)...)), api.ErrTwice},
	{"final alone", waits(5, final(1, 1)), api.ErrState},
	{"final ahead by time", waits(5, final(1, 1), open(2, 2)), api.ErrState},
	{"final ahead by time, of a greater number", waits(5, open(1, 2), final(2, 1)), api.ErrState},
	{"final ahead by number", waits(5, final(1, 2), open(2, 2)), api.ErrState},
	{"all final", waits(5, final(1, 2), final(2, 3)), api.ErrState},

	{"clock ahead of many", server(-1, make([]int, 31)), api.ErrRange},
	{"many wait ahead of a wait's range", waits(5, make([]api.Wait, 9)...), api.ErrMany},
	{"many wait ahead of one that falls", waits(20, append(rising(1, 8), open(1, 1))...), api.ErrMany},
	{"many done ahead of a wait's range", server(5, make([]int, 31), open(0, 1)), api.ErrMany},
	{"many done ahead of a wait's state", server(5, make([]int, 31), open(2, 1), open(1, 1)), api.ErrMany},
	{"many done ahead of twice", server(5, append(numbers(1, 20), numbers(1, 11)...)), api.ErrMany},
	{"a wait's range ahead of its state", waits(5, open(2, 1), open(1, 6)), api.ErrRange},
	{"first wait's range ahead of the second one's state", waits(5, open(2, 6), open(1, 1)), api.ErrRange},
	{"second wait's state ahead of the third one's range", waits(5, open(2, 1), open(1, 1), open(3, 6)), api.ErrState},
	{"a wait's range ahead of done", server(5, done(1, 1), open(1, 0)), api.ErrRange},
	{"a wait's state ahead of done's range", server(5, done(0), open(2, 1), open(1, 1)), api.ErrState},
	{"a wait's state ahead of twice", server(5, done(1), open(2, 1), open(1, 1)), api.ErrState},
	{"done's range ahead of a later twice", server(5, done(21, 1, 1)), api.ErrRange},
	{"a number's twice ahead of a later one's range", server(5, done(1, 1, 21)), api.ErrTwice},
	{"done's range ahead of final", server(5, done(0), final(1, 1)), api.ErrRange},
	{"twice ahead of final", server(5, done(1), final(1, 1)), api.ErrTwice},
	{"a wait's range ahead of final", waits(5, final(1, 1), open(2, 6)), api.ErrRange},
}

// C1: what Check says, and which error is told first.
func TestC1Check(t *testing.T) {
	for _, c := range checks {
		if got := skeen.Check(c.s); got != c.want {
			t.Errorf("%s: Check is %d, must be %d", c.name, got, c.want)
		}
	}
}

// C1: of all that three waits may be, the one ahead by time, then by number, must not be final.
func TestC1Ahead(t *testing.T) {
	for n := range 27 * 8 {
		l := []api.Wait{open(4, 1+n%3), open(5, 1+n/3%3), open(9, 1+n/9%3)}
		for i := range l {
			l[i].Final = n/27>>i&1 == 1
		}
		least := slices.MinFunc(l, func(a, b api.Wait) int { return a.Time*100 + a.Number - b.Time*100 - b.Number })
		expect := api.OK
		if least.Final {
			expect = api.ErrState
		}
		if got := skeen.Check(waits(3, l...)); got != expect {
			t.Errorf("Check of %v is %d, must be %d", l, got, expect)
		}
	}
}

// C2, C3: Check is told ahead of all else by every call; P1: nothing comes with it.
func TestC2C3CheckFirst(t *testing.T) {
	for _, c := range checks {
		if c.want == api.OK {
			continue
		}
		for _, number := range []int{-7, 0, 1, 7, 21} {
			s, time, errno := skeen.Propose(c.s, number)
			want(t, c.name+": Propose", s, errno, api.Server{}, c.want)
			if time != 0 {
				t.Errorf("%s: Propose has time %d", c.name, time)
			}
			for _, time := range []int{-1, 0, 1, 5, 999, 1000} {
				s, errno = skeen.Commit(c.s, number, time)
				want(t, c.name+": Commit", s, errno, api.Server{}, c.want)
			}
			for at := range 3 {
				l := make([]api.Server, 3)
				l[at] = c.s
				for _, colors := range []int{-1, 0, 1, 2, 4, 7, 8} {
					all, errno := skeen.All(l, number, colors)
					wantAll(t, c.name, all, errno, nil, c.want)
				}
			}
		}
	}
}

// C2: Propose: the entry waits at the next time, in its place by number; which error is told first.
func TestC2Propose(t *testing.T) {
	full := func(clock int) api.Server { return waits(clock, rising(1, api.MaxWaits)...) }
	for _, c := range []struct {
		name   string
		s      api.Server
		number int
		x      api.Server
		time   int
		want   api.Errno
	}{
		{"the first one", api.Server{}, 1, waits(1, open(1, 1)), 1, api.OK},
		{"the greatest number", api.Server{}, 20, waits(1, open(20, 1)), 1, api.OK},
		{"ahead by number", waits(4, open(5, 4)), 2, waits(5, open(2, 5), open(5, 4)), 5, api.OK},
		{"behind by number", waits(4, open(5, 2)), 9, waits(5, open(5, 2), open(9, 5)), 5, api.OK},
		{"between", waits(4, open(5, 2), final(9, 3)), 7, waits(5, open(5, 2), open(7, 5), final(9, 3)), 5, api.OK},
		{"what is done stays", server(8, done(9, 1)), 4, server(9, done(9, 1), open(4, 9)), 9, api.OK},
		{"the last that may wait", waits(20, rising(2, 7)...), 1, waits(21, append([]api.Wait{open(1, 21)}, rising(2, 7)...)...), 21, api.OK},
		{"the last time", api.Server{Clock: 998}, 3, waits(999, open(3, 999)), 999, api.OK},
		{"all others are done", server(0, numbers(1, 19)), 20, server(1, numbers(1, 19), open(20, 1)), 1, api.OK},

		{"number 0", api.Server{}, 0, api.Server{}, 0, api.ErrRange},
		{"number below 0", api.Server{}, -1, api.Server{}, 0, api.ErrRange},
		{"number far below 0", api.Server{}, math.MinInt, api.Server{}, 0, api.ErrRange},
		{"number too great", api.Server{}, 21, api.Server{}, 0, api.ErrRange},
		{"number far too great", api.Server{}, math.MaxInt, api.Server{}, 0, api.ErrRange},
		{"waits", waits(4, open(5, 4)), 5, api.Server{}, 0, api.ErrTwice},
		{"waits, final", waits(4, open(5, 2), final(6, 4)), 6, api.Server{}, 0, api.ErrTwice},
		{"done", server(4, done(3, 5)), 5, api.Server{}, 0, api.ErrTwice},
		{"too many wait", full(20), 9, api.Server{}, 0, api.ErrMany},
		{"no time is left", api.Server{Clock: 999}, 1, api.Server{}, 0, api.ErrMany},

		{"range ahead of many", full(20), 0, api.Server{}, 0, api.ErrRange},
		{"range ahead of the clock", api.Server{Clock: 999}, 21, api.Server{}, 0, api.ErrRange},
		{"twice ahead of many", full(20), 8, api.Server{}, 0, api.ErrTwice},
		{"twice ahead of the clock", server(999, done(4)), 4, api.Server{}, 0, api.ErrTwice},
		{"waiting ahead of the clock", waits(999, open(4, 1)), 4, api.Server{}, 0, api.ErrTwice},
	} {
		s, time, errno := skeen.Propose(c.s, c.number)
		want(t, c.name, s, errno, c.x, c.want)
		if time != c.time {
			t.Errorf("%s: the time is %d, must be %d", c.name, time, c.time)
		}
	}
}

// C2: Commit: final by a time; what is then ahead of all and final is done; which error is told first.
func TestC2Commit(t *testing.T) {
	row := func() api.Server { return server(9, done(7), open(2, 4), final(3, 6), open(5, 5)) }
	for _, c := range []struct {
		name         string
		s            api.Server
		number, time int
		x            api.Server
		want         api.Errno
	}{
		{"alone, its own time", waits(3, open(1, 2)), 1, 2, server(3, done(1)), api.OK},
		{"alone, the clock", waits(3, open(1, 2)), 1, 3, server(3, done(1)), api.OK},
		{"alone, behind the clock", waits(3, open(1, 2)), 1, 4, server(4, done(1)), api.OK},
		{"alone, the last time", waits(3, open(1, 2)), 1, 999, server(999, done(1)), api.OK},
		{"the last time, again", waits(999, open(1, 999)), 1, 999, server(999, done(1)), api.OK},
		{"ahead of all", row(), 2, 4, server(9, done(7, 2), final(3, 6), open(5, 5)), api.OK},
		{"behind the one that is next", row(), 2, 9, server(9, done(7), final(2, 9), final(3, 6), open(5, 5)), api.OK},
		{"at the time of the one that is next", row(), 2, 5, server(9, done(7, 2), final(3, 6), open(5, 5)), api.OK},
		{"not ahead of all", row(), 5, 5, server(9, done(7), open(2, 4), final(3, 6), final(5, 5)), api.OK},
		{"behind what is final already", row(), 5, 12, server(12, done(7), open(2, 4), final(3, 6), final(5, 12)), api.OK},
		{"several, by time", waits(9, final(1, 9), final(2, 5), open(3, 2), final(4, 7)), 3, 6, server(9, done(2, 3, 4, 1)), api.OK},
		{"several, by number", waits(9, open(1, 5), final(2, 5), open(3, 5), final(4, 5)), 1, 5, server(9, done(1, 2), open(3, 5), final(4, 5)), api.OK},
		{"behind one of its time", waits(9, open(1, 5), open(2, 3)), 2, 5, waits(9, open(1, 5), final(2, 5)), api.OK},
		{"ahead of one of its time", waits(9, open(1, 3), open(2, 5)), 1, 5, server(9, done(1), open(2, 5)), api.OK},
		{"the last one of all", server(5, numbers(1, 19), open(20, 5)), 20, 5, server(5, numbers(1, 20)), api.OK},

		{"number 0", row(), 0, 5, api.Server{}, api.ErrRange},
		{"number below 0", row(), math.MinInt, 5, api.Server{}, api.ErrRange},
		{"number too great", row(), 21, 5, api.Server{}, api.ErrRange},
		{"time 0", row(), 2, 0, api.Server{}, api.ErrRange},
		{"time below 0", row(), 2, -1, api.Server{}, api.ErrRange},
		{"time too great", row(), 2, 1000, api.Server{}, api.ErrRange},
		{"time far too great", row(), 2, math.MaxInt, api.Server{}, api.ErrRange},
		{"there is none", row(), 4, 9, api.Server{}, api.ErrNone},
		{"nothing waits", api.Server{}, 1, 1, api.Server{}, api.ErrNone},
		{"done", row(), 7, 9, api.Server{}, api.ErrNone},
		{"final", row(), 3, 9, api.Server{}, api.ErrState},
		{"final, its own time", row(), 3, 6, api.Server{}, api.ErrState},
		{"a lesser time", row(), 2, 3, api.Server{}, api.ErrState},

		{"number ahead of none", api.Server{}, 21, 1, api.Server{}, api.ErrRange},
		{"time ahead of none", row(), 4, 1000, api.Server{}, api.ErrRange},
		{"time ahead of done", row(), 7, 0, api.Server{}, api.ErrRange},
		{"time ahead of final", row(), 3, 1000, api.Server{}, api.ErrRange},
		{"time ahead of a lesser one", row(), 2, -3, api.Server{}, api.ErrRange},
	} {
		s, errno := skeen.Commit(c.s, c.number, c.time)
		want(t, c.name, s, errno, c.x, c.want)
		if got := skeen.Check(s); got != api.OK {
			t.Errorf("%s: Check of the answer is %d", c.name, got)
		}
	}
}

// wantAll: an answer of All; P1: no server, if there is an error.
func wantAll(t *testing.T, name string, l []api.Server, got api.Errno, x []api.Server, errno api.Errno) {
	t.Helper()
	if got != errno || !slices.EqualFunc(l, x, same) {
		t.Errorf("%s: All is %v %d, must be %v %d", name, l, got, x, errno)
	}
}

// C3: All: to the servers of the colors alone, at the greatest time; which error is told first.
func TestC3All(t *testing.T) {
	mixed := func() []api.Server {
		return []api.Server{{Clock: 2}, server(7, done(3), open(5, 6)), server(4, done(3, 8))}
	}
	full := func() api.Server { return waits(20, rising(1, api.MaxWaits)...) }
	busy := server(8, done(3), final(1, 8), open(5, 6))
	for _, c := range []struct {
		name           string
		l              []api.Server
		number, colors int
		x              []api.Server
		want           api.Errno
	}{
		{"color 1", mixed(), 1, 1, []api.Server{server(3, done(1)), mixed()[1], mixed()[2]}, api.OK},
		{"color 2, behind one that waits", mixed(), 1, 2, []api.Server{mixed()[0], busy, mixed()[2]}, api.OK},
		{"color 4", mixed(), 1, 4, []api.Server{mixed()[0], mixed()[1], server(5, done(3, 8, 1))}, api.OK},
		{"colors 1 and 4", mixed(), 1, 5, []api.Server{server(5, done(1)), mixed()[1], server(5, done(3, 8, 1))}, api.OK},
		{"all colors", mixed(), 1, 7, []api.Server{server(8, done(1)), busy, server(8, done(3, 8, 1))}, api.OK},
		{"twice at a server of no such color", mixed(), 3, 1, []api.Server{server(3, done(3)), mixed()[1], mixed()[2]}, api.OK},
		{"full is a server of no such color", []api.Server{full(), {}, {}}, 9, 6, []api.Server{full(), server(1, done(9)), server(1, done(9))}, api.OK},
		{"the last time", []api.Server{{Clock: 998}, {}, {}}, 2, 3, []api.Server{server(999, done(2)), server(999, done(2)), {}}, api.OK},

		{"no servers", nil, 1, 1, nil, api.ErrForm},
		{"two servers", make([]api.Server, 2), 1, 1, nil, api.ErrForm},
		{"four servers", make([]api.Server, 4), 1, 1, nil, api.ErrForm},
		{"no color", mixed(), 1, 0, nil, api.ErrRange},
		{"colors below 0", mixed(), 1, -1, nil, api.ErrRange},
		{"colors far below 0", mixed(), 1, math.MinInt, nil, api.ErrRange},
		{"colors too great", mixed(), 1, 8, nil, api.ErrRange},
		{"colors too great, of color 1 too", mixed(), 1, 9, nil, api.ErrRange},
		{"number 0", mixed(), 0, 1, nil, api.ErrRange},
		{"number too great", mixed(), 21, 7, nil, api.ErrRange},
		{"done at the second one", mixed(), 3, 3, nil, api.ErrTwice},
		{"waits at the second one", mixed(), 5, 7, nil, api.ErrTwice},
		{"done at the third one", mixed(), 8, 7, nil, api.ErrTwice},
		{"too many wait", []api.Server{{}, full(), {}}, 9, 2, nil, api.ErrMany},
		{"no time is left", []api.Server{{}, {}, {Clock: 999}}, 9, 7, nil, api.ErrMany},

		{"form ahead of Check", []api.Server{{Clock: -1}}, 1, 1, nil, api.ErrForm},
		{"form ahead of colors", make([]api.Server, 2), 1, 8, nil, api.ErrForm},
		{"Check of a server of no such color", []api.Server{{}, {}, waits(5, final(1, 1))}, 1, 1, nil, api.ErrState},
		{"Check of the first one ahead of the second one's", []api.Server{server(0, done(1, 1)), {Clock: -1}, {}}, 1, 4, nil, api.ErrTwice},
		{"Check ahead of colors", []api.Server{{}, {}, server(0, done(1, 1))}, 1, 0, nil, api.ErrTwice},
		{"colors ahead of twice", mixed(), 3, 10, nil, api.ErrRange},
		{"first server's many ahead of the second one's twice", []api.Server{{Clock: 999}, server(0, done(4)), {}}, 4, 3, nil, api.ErrMany},
		{"first server's twice ahead of the second one's many", []api.Server{server(0, done(4)), {Clock: 999}, {}}, 4, 3, nil, api.ErrTwice},
	} {
		l, errno := skeen.All(c.l, c.number, c.colors)
		wantAll(t, c.name, l, errno, c.x, c.want)
	}
}
