package desk_test

import (
	"cmp"
	"reflect"
	"slices"
	"testing"

	"cutwater/api"
	"cutwater/chain"
	"cutwater/client"
	"cutwater/dag"
	"cutwater/desk"
	"cutwater/entry"
	"cutwater/fold"
	"cutwater/order"
	"cutwater/packet"
	"cutwater/site"
	"cutwater/skeen"
	"cutwater/world"
)

// draw: numbers that are the same each time.
type draw uint64

func (d *draw) n(n int) int {
	*d = *d*6364136223846793005 + 1442695040888963407
	return int(uint64(*d) >> 33 % uint64(n))
}

func (d *draw) text() string {
	key := []string{"a", "b", "ab"}[d.n(3)]
	switch d.n(6) {
	case 0:
		return "hello"
	case 1:
		return "drop " + key
	}
	return "put " + key + " " + []string{"x", "y", "z"}[d.n(3)]
}

// script of acts, of which some have an error.
func (d *draw) script(size int) []api.Act {
	var l []api.Act
	for range size {
		switch kind := 1 + d.n(7); kind {
		case api.ActBring, api.ActLose, api.ActAgain:
			l = append(l, api.Act{Kind: kind, At: d.n(2), N: d.n(4)})
		case api.ActAll:
			if d.n(3) == 0 {
				l = append(l, all(d.n(2)))
			} else {
				l = append(l, bring(d.n(2), d.n(2)))
			}
		default:
			l = append(l, put(d.n(2), 1+d.n(7), d.text()))
		}
	}
	return l
}

// worlds that scripts that are drawn came to.
func worlds(t *testing.T, seed draw, count int) []api.World {
	t.Helper()
	var all []api.World
	for n := range count {
		w, _, errno := desk.Run(seed.script(n % (api.MaxScript + 1)))
		if errno != api.OK || world.Check(w) != api.OK {
			t.Fatalf("Run has error %d, Check %d", errno, world.Check(w))
		}
		all = append(all, w)
	}
	return all
}

func rise(a, b api.Id) int {
	return cmp.Or(cmp.Compare(a.Region, b.Region), cmp.Compare(a.Number, b.Number))
}

func rising(l []api.Entry) []api.Entry {
	return slices.SortedFunc(slices.Values(plainLog(l)), func(a, b api.Entry) int { return rise(a.Id, b.Id) })
}

// L1: Run is Do again and again, as long as each one has no error.
func TestL1RunIsDo(t *testing.T) {
	d := draw(5)
	for n := range 82 {
		l := d.script(n % 41)
		w := world.New()
		var told []api.Errno
		for _, a := range l {
			x, errno := world.Do(w, a)
			told = append(told, errno)
			if errno == api.OK {
				w = x
			}
		}
		wantRun(t, "drawn", l, w, told...)
	}
}

// L2, and what the whole promises: behind Settle both have the same entries, and show the same, by whatever colors.
func TestL2BehindSettle(t *testing.T) {
	apart := 0
	for _, w := range worlds(t, 31, 164) {
		s, errno := world.Settle(w)
		if errno != api.OK {
			t.Fatalf("Settle has error %d", errno)
		}
		if a, b := rising(s.Sites[0].Log), rising(s.Sites[1].Log); !reflect.DeepEqual(a, b) {
			t.Fatalf("site 0 has\n%v, site 1 has\n%v", a, b)
		}
		for colors := 1; colors <= 7; colors++ {
			wantSame(t, "behind Settle", s, colors, true, api.OK)
			a, _ := desk.Text(s.Sites[0].Log, colors)
			wantText(t, "behind Settle", s.Sites[1].Log, colors, a, api.OK)
			if is, _ := desk.Same(w, colors); !is {
				apart++
			}
		}
	}
	if apart < 100 {
		t.Errorf("just %d times both did not show the same ahead of Settle: the scripts are too tame", apart)
	}
}

// shuffle: the same entries in another order, each behind its links and behind those of its region that are ahead of it.
func (d *draw) shuffle(l []api.Entry) []api.Entry {
	left := slices.Clone(l)
	var out []api.Entry
	for len(left) > 0 {
		i := d.n(len(left))
		if dag.Check(append(slices.Clone(out), left[i])) == api.OK {
			out = append(out, left[i])
			left = slices.Delete(left, i, i+1)
		}
	}
	return out
}

// L2, and what the whole promises: what a site shows hangs on what it has alone: neither on the order, nor on what waits, nor on what is on the way. A map neither.
func TestL2HangsOnWhatItHas(t *testing.T) {
	d := draw(3)
	for _, w := range worlds(t, 37, 82) {
		for at, s := range w.Sites {
			other := d.shuffle(s.Log)
			for colors := 1; colors <= 7; colors++ {
				want, _ := desk.Text(s.Log, colors)
				wantText(t, "in another order", other, colors, want, api.OK)
				a, _ := fold.Map(s.Log, colors)
				b, _ := fold.Map(other, colors)
				if !reflect.DeepEqual(a, b) {
					t.Fatalf("Map is %v, and in another order %v", a, b)
				}
				for n := len(w.Way[at]) - 1; n >= 0; n-- {
					x, errno := world.Do(w, api.Act{Kind: api.ActLose, At: at, N: n})
					if errno != api.OK {
						t.Fatalf("ActLose has error %d", errno)
					}
					wantText(t, "something is lost", x.Sites[at].Log, colors, want, api.OK)
				}
			}
		}
	}
}

// What the whole promises: what is encoded is decoded as it was.
func TestWholeBytes(t *testing.T) {
	for _, w := range worlds(t, 41, 82) {
		for _, l := range [][]api.Entry{w.Sites[0].Log, w.Sites[1].Waits, w.Way[0]} {
			s, errno := packet.Encode(l)
			x, told := packet.Decode(s)
			if errno != api.OK || told != api.OK || !reflect.DeepEqual(plainLog(x), plainLog(l)) {
				t.Fatalf("%v was encoded (%d), and is %v (%d)", l, errno, x, told)
			}
			for _, e := range l {
				s, _ := entry.Encode(e)
				x, size, errno := entry.Decode(s + "behind")
				if errno != api.OK || size != len(s) || !reflect.DeepEqual(plainLog(log(x)), plainLog(log(e))) {
					t.Fatalf("%v was encoded, and is %v %d %d", e, x, size, errno)
				}
			}
		}
	}
}

// What the whole promises: what was written is read as it was for good.
func TestWholeChain(t *testing.T) {
	d := draw(43)
	var c api.Chain
	var written [api.MaxPlace]string
	for range 400 {
		at, text := d.n(api.MaxPlace), d.text()
		x, errno := chain.Write(c, c.Epoch, at, text)
		switch {
		case errno == api.OK:
			c, written[at] = x, text
		case d.n(3) == 0:
			c, _ = chain.Seal(c, c.Epoch)
			c, _ = chain.Open(c)
		}
		for at, want := range written {
			if s, errno := chain.Read(c, at); want != "" && (s != want || errno != api.OK) {
				t.Fatalf("%q was written at %d, and it is %q %d", want, at, s, errno)
			}
		}
		if c.Epoch == api.MaxEpoch {
			break
		}
	}
}

// step: a number that is proposed by two servers, or is committed by one of them.
type step struct{ number, server int }

// What the whole promises: two that are both done by two servers are there in one order, whatever comes between.
func TestWholeOneOrder(t *testing.T) {
	d := draw(47)
	for range 60 {
		var servers [2]api.Server
		var times [9]int
		var left []step
		for number := 1; number <= 8; number++ {
			for _, at := range []int{number % 2, 1 - number%2} {
				s, time, errno := skeen.Propose(servers[at], number)
				if errno != api.OK {
					t.Fatalf("Propose has error %d", errno)
				}
				servers[at], times[number] = s, max(times[number], time)
				left = append(left, step{number, at})
			}
			for len(left) > d.n(9) {
				left = commitOne(t, &d, &servers, times[:], left)
			}
		}
		for len(left) > 0 {
			left = commitOne(t, &d, &servers, times[:], left)
		}
		if a, b := servers[0].Done, servers[1].Done; len(a) != 8 || !slices.Equal(a, b) {
			t.Fatalf("one has done %v, the other one %v", a, b)
		}
	}
}

func commitOne(t *testing.T, d *draw, servers *[2]api.Server, times []int, left []step) []step {
	t.Helper()
	i := d.n(len(left))
	s, errno := skeen.Commit(servers[left[i].server], left[i].number, times[left[i].number])
	if errno != api.OK {
		t.Fatalf("Commit has error %d", errno)
	}
	servers[left[i].server] = s
	return slices.Delete(left, i, i+1)
}

// What the whole promises: the past of what is past is past; what was there stays ahead, whatever comes behind.
func TestWholePastsAndOrders(t *testing.T) {
	for _, w := range worlds(t, 53, 82) {
		l := w.Sites[0].Log
		for _, e := range l {
			past, _ := dag.Past(l, e.Id)
			for _, x := range past {
				more, _ := dag.Past(l, x)
				if slices.ContainsFunc(more, func(y api.Id) bool { return !slices.Contains(past, y) }) {
					t.Fatalf("%v is past, and its past %v is not in %v", x, more, past)
				}
			}
		}
		s, _ := world.Settle(w)
		for colors := 1; colors <= 7; colors++ {
			first, _ := order.First(l, colors)
			more, errno := order.More(s.Sites[0].Log, colors, first)
			if errno != api.OK || !slices.Equal(more[:len(first)], first) {
				t.Fatalf("%v was there, and it is %v %d", first, more, errno)
			}
			if is, errno := order.Is(s.Sites[0].Log, more); !is || errno != api.OK {
				t.Fatalf("%v is no order (%d)", more, errno)
			}
		}
	}
}

// What the whole promises: whatever comes in whatever order, all that a site has stands behind its links.
func TestWholeSites(t *testing.T) {
	d := draw(59)
	for _, w := range worlds(t, 59, 41) {
		s := w.Sites[0]
		var left []api.Entry
		for _, e := range w.Sites[1].Log {
			if e.Id.Region == 1 {
				left = append(left, e, e)
			}
		}
		for len(left) > 0 {
			i := d.n(len(left))
			x, errno := site.Receive(s, left[i])
			if errno != api.OK || dag.Check(x.Log) != api.OK || site.Check(x) != api.OK {
				t.Fatalf("Receive is %v %d", x, errno)
			}
			s, left = x, slices.Delete(left, i, i+1)
		}
		if want, _ := world.Settle(w); !reflect.DeepEqual(rising(s.Log), rising(want.Sites[0].Log)) {
			t.Fatalf("all has come, and it is %v, must be %v", s.Log, want.Sites[0].Log)
		}
	}
}

// What the whole promises: who plays to one time, and then to a later one, has at last what is there, each once.
func TestWholeReaders(t *testing.T) {
	for _, w := range worlds(t, 61, 82) {
		l := w.Sites[1].Log
		s, _ := world.Settle(w)
		for colors := 1; colors <= 7; colors++ {
			c := api.Client{Colors: colors}
			for _, l := range [][]api.Entry{l[:len(l)/2], l, s.Sites[1].Log} {
				time, _ := dag.Count(l)
				x, errno := client.Play(s.Sites[1].Log, c, time)
				if errno != api.OK || !slices.Equal(x.Played[:len(c.Played)], c.Played) {
					t.Fatalf("%v was played, and it is %v %d", c, x, errno)
				}
				c = x
			}
			want, _ := order.First(s.Sites[1].Log, colors)
			if !slices.Equal(slices.SortedFunc(slices.Values(c.Played), rise), slices.SortedFunc(slices.Values(want), rise)) {
				t.Fatalf("%v was played at last, %v is there", c.Played, want)
			}
		}
	}
}
