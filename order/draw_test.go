package order_test

import (
	"cmp"
	"reflect"
	"slices"
	"testing"

	"cutwater/api"
	"cutwater/dag"
	"cutwater/order"
)

// draw: numbers that are the same each time.
type draw uint64

func (d *draw) n(n int) int {
	*d = *d*6364136223846793005 + 1442695040888963407
	return int(uint64(*d) >> 33 % uint64(n))
}

// log of some size; near: how far back its links go.
func (d *draw) log(size, near int) []api.Entry {
	var l []api.Entry
	var many [2]int
	for range size {
		region := d.n(2)
		if many[region] == api.MaxNumber {
			region = 1 - region
		}
		many[region]++
		l = append(l, api.Entry{Id: id(region, many[region]), Colors: 1 + d.n(7), Links: d.links(l, near)})
	}
	return l
}

func (d *draw) links(ahead []api.Entry, near int) []api.Id {
	ahead = ahead[max(0, len(ahead)-near):]
	var links []api.Id
	for range d.n(4) {
		if len(ahead) == 0 {
			break
		}
		links = append(links, ahead[d.n(len(ahead))].Id)
	}
	slices.SortFunc(links, rise)
	return slices.Compact(links)
}

func rise(a, b api.Id) int {
	return cmp.Or(cmp.Compare(a.Region, b.Region), cmp.Compare(a.Number, b.Number))
}

// logs that are drawn: small ones and great ones, with links that go back a little or far.
func logs(seed draw, count int) [][]api.Entry {
	var all [][]api.Entry
	for n := range count {
		all = append(all, seed.log(n%41, 2+seed.n(12)))
	}
	return all
}

// model of a log: its entries by id, the ids that are in the past of each.
type model struct {
	colors map[api.Id]int
	past   map[api.Id]map[api.Id]bool
}

func modelOf(l []api.Entry) model {
	m := model{colors: map[api.Id]int{}, past: map[api.Id]map[api.Id]bool{}}
	for _, e := range l {
		m.colors[e.Id] = e.Colors
		m.past[e.Id] = map[api.Id]bool{}
		for _, link := range e.Links {
			m.past[e.Id][link] = true
			for x := range m.past[link] {
				m.past[e.Id][x] = true
			}
		}
	}
	return m
}

func (m model) isOrder(l []api.Id) bool {
	for i, x := range l {
		for j, y := range l {
			if m.past[x][y] && j > i {
				return false
			}
		}
	}
	return true
}

// state is what More must say of ids that are there, each once.
func (m model) state(colors int, l []api.Id) api.Errno {
	if !m.isOrder(l) {
		return api.ErrState
	}
	for _, x := range l {
		if m.colors[x]&colors == 0 {
			return api.ErrState
		}
		for y := range m.past[x] {
			if m.colors[y]&colors != 0 && !slices.Contains(l, y) {
				return api.ErrState
			}
		}
	}
	return api.OK
}

// more goes through all ids anew for each one that it adds.
func (m model) more(colors int, l []api.Id) []api.Id {
	l = slices.Clone(l)
	for {
		var free []api.Id
		for x, its := range m.colors {
			waits := its&colors == 0 || slices.Contains(l, x)
			for y := range m.past[x] {
				waits = waits || m.colors[y]&colors != 0 && !slices.Contains(l, y)
			}
			if !waits {
				free = append(free, x)
			}
		}
		if len(free) == 0 {
			return l
		}
		l = append(l, slices.MinFunc(free, rise))
	}
}

// sequences of ids of a log, each there once: all of them.
func sequences(l []api.Entry) [][]api.Id {
	all := [][]api.Id{nil}
	for at := 0; at < len(all); at++ {
		for _, e := range l {
			if !slices.Contains(all[at], e.Id) {
				all = append(all, append(slices.Clone(all[at]), e.Id))
			}
		}
	}
	return all
}

// F1: of all that may be handed in for small logs: Is, and More of each color.
func TestF1AllOfSmallLogs(t *testing.T) {
	d := draw(11)
	for n := range 24 {
		l := d.log(1+n%5, 4)
		m := modelOf(l)
		for _, x := range sequences(l) {
			wantIs(t, "a small log", l, x, m.isOrder(x), api.OK)
			for colors := 1; colors <= 7; colors++ {
				errno := m.state(colors, x)
				var want []api.Id
				if errno == api.OK {
					want = m.more(colors, x)
				}
				wantMore(t, "a small log", l, colors, x, want, errno)
			}
		}
	}
}

// F1: of logs that are drawn: First of each color.
func TestF1Drawn(t *testing.T) {
	for _, l := range logs(7, 82) {
		m := modelOf(l)
		for colors := 1; colors <= 7; colors++ {
			wantFirst(t, "First", l, colors, m.more(colors, nil), api.OK)
		}
	}
}

// F1: as many as there may be, each behind the one ahead, and none behind another one.
func TestF1Long(t *testing.T) {
	var chain, alone []api.Entry
	var along, rising []api.Id
	for n := range api.MaxLog {
		e := en(1-n%2, n/2+1, 2)
		alone = append(alone, e)
		e.Links = along[max(0, n-1):n:n]
		chain = append(chain, e)
		along = append(along, e.Id)
		rising = append(rising, id(n/20, n%20+1))
	}
	wantFirst(t, "each behind another one", chain, 2, along, api.OK)
	wantFirst(t, "none behind another one", alone, 2, rising, api.OK)
	wantIs(t, "each behind another one", chain, along, true, api.OK)
	wantIs(t, "each behind another one, rising", chain, rising, false, api.OK)
	wantIs(t, "none behind another one", alone, along, true, api.OK)
	wantMore(t, "all were there", alone, 2, along, along, api.OK)
}

// first and more are those of which nothing may be wrong.
func first(t *testing.T, l []api.Entry, colors int) []api.Id {
	t.Helper()
	return more(t, l, colors, nil)
}

func more(t *testing.T, l []api.Entry, colors int, x []api.Id) []api.Id {
	t.Helper()
	all, errno := order.More(l, colors, x)
	if errno != api.OK {
		t.Fatalf("More of %v has error %d: %v", x, errno, l)
	}
	return all
}

// F2: what was there stays ahead, whatever comes behind: a log is read as it grows, all at once or bit by bit.
func TestF2WhatWasThereStaysAhead(t *testing.T) {
	d := draw(23)
	for _, l := range logs(29, 82) {
		colors := 1 + d.n(7)
		var read []api.Id
		for n := 0; n <= len(l); n += 1 + d.n(6) {
			before := read
			read = more(t, l[:n], colors, before)
			if len(read) < len(before) || !slices.Equal(read[:len(before)], before) {
				t.Fatalf("%v was there, and it is %v", before, read)
			}
		}
		read = more(t, l, colors, read)
		wantIs(t, "what was read bit by bit", l, read, true, api.OK)
		wantSame(t, read, first(t, l, colors))
	}
}

// wantSame: two lists have the same ids, each once, in whatever order.
func wantSame(t *testing.T, a, b []api.Id) {
	t.Helper()
	a, b = slices.SortedFunc(slices.Values(a), rise), slices.SortedFunc(slices.Values(b), rise)
	if !slices.Equal(a, b) || len(slices.Compact(a)) != len(b) {
		t.Fatalf("it is %v and %v", a, b)
	}
}

// F2: First has all of the colors, each once, and nothing else; it is an order, and so is each beginning of it, from which More goes on to the same.
func TestF2FirstGoesOn(t *testing.T) {
	d := draw(31)
	for _, l := range logs(37, 82) {
		colors := 1 + d.n(7)
		var all []api.Id
		for _, e := range l {
			if e.Colors&colors != 0 {
				all = append(all, e.Id)
			}
		}
		x := first(t, l, colors)
		wantSame(t, x, all)
		for n := range len(x) + 1 {
			wantIs(t, "a beginning", l, x[:n], true, api.OK)
			wantMore(t, "a beginning", l, colors, x[:n], x, api.OK)
		}
	}
}

// again: the same entries, in another order in which each one stands behind its links, and behind those of its region.
func (d *draw) again(l []api.Entry) []api.Entry {
	var x []api.Entry
	has := map[api.Id]bool{}
	for len(x) < len(l) {
		var free []api.Entry
		for _, e := range l {
			waits := has[e.Id] || e.Id.Number > 1 && !has[id(e.Id.Region, e.Id.Number-1)]
			for _, link := range e.Links {
				waits = waits || !has[link]
			}
			if !waits {
				free = append(free, e)
			}
		}
		next := free[d.n(len(free))]
		has[next.Id] = true
		x = append(x, next)
	}
	return x
}

// F2: the order is one: it hangs on what there is, not on how the log came to have it.
func TestF2OrderIsOne(t *testing.T) {
	d := draw(41)
	for _, l := range logs(43, 82) {
		other := d.again(l)
		if errno := dag.Check(other); errno != api.OK {
			t.Fatalf("Check(%v) is %d", other, errno)
		}
		for colors := 1; colors <= 7; colors++ {
			x := first(t, l, colors)
			wantFirst(t, "the same entries", other, colors, x, api.OK)
			begun := x[:d.n(len(x)+1)]
			wantMore(t, "the same entries", other, colors, begun, x, api.OK)
			heads, _ := dag.Heads(l, colors)
			same, errno := dag.Heads(other, colors)
			wantIds(t, "the same entries' heads", same, errno, heads, api.OK)
		}
	}
}

// roomy: the same log, with room behind it and behind each list of links; and all of that room.
func roomy(l []api.Entry) ([]api.Entry, []api.Entry) {
	all := slices.Clone(l)
	for i, e := range all {
		room := append(append([]api.Id{}, e.Links...), id(0, 1), id(7, 7), id(1, 1))
		all[i].Links = room[:len(e.Links)]
	}
	all = append(all, en(0, 1, 1, id(0, 9)), api.Entry{}, en(9, 9, 9))
	return all[:len(l)], all
}

// whole: a log with what stands behind its lists.
func whole(all []api.Entry) []api.Entry {
	x := slices.Clone(all)
	for i, e := range x {
		x[i].Links = slices.Clone(e.Links[:cap(e.Links)])
	}
	return x
}

// roomyIds: the same ids, with room behind them; and all of that room.
func roomyIds(l []api.Id) ([]api.Id, []api.Id) {
	all := append(slices.Clone(l), slices.Repeat(ids(id(6, 6)), api.MaxLog)...)
	return all[:len(l)], all
}

// spoil all that a list has, the room behind it too.
func spoil(l []api.Id) {
	for i := range l[:cap(l)] {
		l[:cap(l)][i] = id(8, 8)
	}
}

// P2: what is handed in is only read, whatever is wrong with it.
func TestP2HandedInIsOnlyRead(t *testing.T) {
	all := [][]api.Entry{mixed(), nil}
	for _, c := range wrongLogs {
		all = append(all, c.l)
	}
	lists := append(sequences(mixed()[:4]), ids(id(0, 1), id(0, 1)), ids(id(0, 1), id(0, 9)))
	for _, x := range all {
		l, room := roomy(x)
		before := whole(room)
		for _, list := range lists {
			mine, behind := roomyIds(list)
			was := slices.Clone(behind)
			order.Is(l, mine)
			for colors := 0; colors <= 8; colors++ {
				read, _ := order.First(l, colors)
				spoil(read)
				read, _ = order.More(l, colors, mine)
				spoil(read)
			}
			if !slices.Equal(behind, was) {
				t.Fatalf("%v was handed in, and is %v", was, behind)
			}
		}
		if !reflect.DeepEqual(whole(room), before) {
			t.Fatalf("%v was handed in, and is %v", before, whole(room))
		}
	}
}

// P2, P3: an answer is the caller's: a later change of what was handed in is not seen, the same is answered again.
func TestP2AnswersAreTheCallers(t *testing.T) {
	for _, list := range [][]api.Id{nil, ids(id(1, 1)), ids(id(1, 1), id(0, 1), id(0, 3), id(0, 2))} {
		l, _ := roomy(mixed())
		handed, behind := roomyIds(list)
		read := more(t, l, 1, handed)
		mine := slices.Clone(read)
		spoil(read)
		again := more(t, l, 1, handed)
		wantIds(t, "again", again, api.OK, mine, api.OK)
		spoil(behind)
		for i := range l {
			spoil(l[i].Links)
			l[i] = api.Entry{}
		}
		wantIds(t, "what was handed in is changed", again, api.OK, mine, api.OK)
	}
}
