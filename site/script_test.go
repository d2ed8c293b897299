package site_test

import (
	"cmp"
	"reflect"
	"slices"
	"testing"

	"cutwater/api"
	"cutwater/dag"
	"cutwater/site"
)

// draw: numbers that are the same each time.
type draw uint64

func (d *draw) n(n int) int {
	*d = *d*6364136223846793005 + 1442695040888963407
	return int(uint64(*d) >> 33 % uint64(n))
}

func rise(a, b api.Id) int {
	return cmp.Or(cmp.Compare(a.Region, b.Region), cmp.Compare(a.Number, b.Number))
}

// model of a site: what it has, by id, in which order it came to have it, and what waits.
type model struct {
	region int
	has    map[api.Id]int
	log    []api.Entry
	waits  map[api.Id]api.Entry
}

func newModel(region int) *model {
	return &model{region: region, has: map[api.Id]int{}, waits: map[api.Id]api.Entry{}}
}

func (m *model) add(e api.Entry) {
	m.log = append(m.log, e)
	m.has[e.Id] = 1
	delete(m.waits, e.Id)
}

// settle: ready is what a log may have right behind it: its links, and the one ahead of it in its region.
func (m *model) settle() {
	for {
		var ready []api.Id
		for x, e := range m.waits {
			lacks := e.Id.Number > 1 && m.has[id(x.Region, x.Number-1)] == 0
			for _, link := range e.Links {
				lacks = lacks || m.has[link] == 0
			}
			if !lacks {
				ready = append(ready, x)
			}
		}
		if len(ready) == 0 {
			return
		}
		m.add(m.waits[slices.MinFunc(ready, rise)])
	}
}

func (m *model) receive(e api.Entry) {
	if _, waits := m.waits[e.Id]; m.has[e.Id] == 0 && !waits {
		m.waits[e.Id] = e
		m.settle()
	}
}

func (m *model) site() api.Site {
	s := api.Site{Region: m.region, Log: m.log}
	for _, e := range m.waits {
		s.Waits = append(s.Waits, e)
	}
	slices.SortFunc(s.Waits, func(a, b api.Entry) int { return rise(a.Id, b.Id) })
	return s
}

// pair of sites beside their models; sent: all entries that each one has appended.
type pair struct {
	t      *testing.T
	sites  [2]api.Site
	models [2]*model
	sent   [2][]api.Entry
}

func newPair(t *testing.T) *pair {
	p := &pair{t: t}
	for region := range 2 {
		p.sites[region], _ = site.New(region)
		p.models[region] = newModel(region)
	}
	return p
}

// look: a site is as its model has it; G4: all that it has stands behind its links, and nothing that could be there waits.
func (p *pair) look(at int) {
	p.t.Helper()
	s := p.sites[at]
	if want := p.models[at].site(); !same(s, want) {
		p.t.Fatalf("the site is\n%v, must be\n%v", s, want)
	}
	if errno := dag.Check(s.Log); errno != api.OK {
		p.t.Fatalf("Check of its log is %d: %v", errno, s.Log)
	}
	if errno := site.Check(s); errno != api.OK {
		p.t.Fatalf("Check is %d: %v", errno, s)
	}
}

// write at a site: what it links to are heads of its colors, and, in the end, all that the site has of them.
func (p *pair) write(at, colors int) {
	p.t.Helper()
	links, _ := dag.Heads(p.sites[at].Log, colors)
	full := len(p.sent[at]) == api.MaxNumber || len(links) > api.MaxLinks
	s, e, errno := site.Append(p.sites[at], colors, "t")
	if full {
		if errno != api.ErrMany || !isZero(s) {
			p.t.Fatalf("Append is %v %v %d, but there is no room", s, e, errno)
		}
		return
	}
	if want := en(at, len(p.sent[at])+1, colors, "t", links...); errno != api.OK || !sameEntries(log(e), log(want)) {
		p.t.Fatalf("Append is %v %d, must be %v", e, errno, want)
	}
	p.sites[at] = s
	p.sent[at] = append(p.sent[at], e)
	p.models[at].add(e)
	p.models[at].settle()
	p.look(at)
}

// bring an entry to the other site.
func (p *pair) bring(e api.Entry) {
	p.t.Helper()
	to := 1 - e.Id.Region
	s, errno := site.Receive(p.sites[to], e)
	if errno != api.OK {
		p.t.Fatalf("Receive of %v has error %d: %v", e, errno, p.sites[to])
	}
	p.sites[to] = s
	p.models[to].receive(e)
	p.look(to)
}

// play a script that is drawn: some are written, some come, in whatever order, some of them again, some not yet.
func (p *pair) play(d *draw, steps int) {
	p.t.Helper()
	for range steps {
		at := d.n(2)
		if sent := p.sent[at]; len(sent) > 0 && d.n(3) > 0 {
			p.bring(sent[d.n(len(sent))])
		} else {
			p.write(at, 1+d.n(7))
		}
	}
}

// bringAll that each site has written, in an order that is drawn.
func (p *pair) bringAll(d *draw) {
	p.t.Helper()
	all := slices.Concat(p.sent[0], p.sent[1])
	for len(all) > 0 {
		at := d.n(len(all))
		p.bring(all[at])
		all = slices.Delete(all, at, at+1)
	}
}

func rising(l []api.Entry) []api.Entry {
	return slices.SortedFunc(slices.Values(l), func(a, b api.Entry) int { return rise(a.Id, b.Id) })
}

// G2, G3, G4: whatever comes in whatever order, again or not: it is as the model says, and in the end both have the same.
func TestG4WhateverOrder(t *testing.T) {
	d := draw(5)
	for n := range 60 {
		p := newPair(t)
		p.play(&d, 2*n)
		p.bringAll(&d)
		a, b := p.sites[0], p.sites[1]
		if len(a.Waits)+len(b.Waits) != 0 || !sameEntries(rising(a.Log), rising(b.Log)) {
			t.Fatalf("all has come, and it is\n%v and\n%v", a, b)
		}
		if !sameEntries(rising(a.Log), slices.Concat(p.sent[0], p.sent[1])) {
			t.Fatalf("%v were written, and there are %v", p.sent, a.Log)
		}
	}
}

// orders of some numbers: all that there are.
func orders(n int) [][]int {
	if n == 0 {
		return [][]int{nil}
	}
	var all [][]int
	for _, l := range orders(n - 1) {
		for at := range n {
			all = append(all, slices.Insert(slices.Clone(l), at, n-1))
		}
	}
	return all
}

// G3, G4: five entries in each order that there is, each one twice: the log has all of them in the end, none of them ahead of its links, and none waits longer than it must.
func TestG4AllOrders(t *testing.T) {
	sent := log(
		en(1, 1, 1, "m", id(0, 1)), en(1, 2, 2, "n"), en(1, 3, 4, "o", id(0, 2), id(1, 1)), en(1, 4, 1, "p", id(1, 3)), en(1, 5, 7, "q", id(1, 2), id(1, 4)),
	)
	for _, l := range orders(len(sent)) {
		p := newPair(t)
		p.write(0, 1)
		for _, at := range l {
			p.bring(sent[at])
			p.bring(sent[at])
		}
		if s := p.sites[0]; len(s.Log) != 3 || len(s.Waits) != 3 {
			t.Fatalf("(0, 2) is not there, and it is %v", s)
		}
		p.write(0, 2)
		if s := p.sites[0]; len(s.Waits) != 0 || !sameEntries(rising(s.Log)[2:], sent) {
			t.Fatalf("all has come, and it is %v", s)
		}
	}
}

// G4: what is lost for now keeps the rest waiting, as many as there may be, and none of them is forgotten.
func TestG4BackToFront(t *testing.T) {
	p := newPair(t)
	for range api.MaxNumber {
		p.write(1, 3)
	}
	for _, e := range slices.Backward(p.sent[1]) {
		if len(p.sites[0].Log) != 0 {
			t.Fatalf("ahead of (1, 1) there is %v", p.sites[0].Log)
		}
		p.bring(e)
	}
	if s := p.sites[0]; !sameEntries(s.Log, p.sent[1]) || len(s.Waits) != 0 {
		t.Errorf("all has come, and it is %v", s)
	}
}

// roomy: the same entries, with room behind them and behind each list of links; and all of that room.
func roomy(l []api.Entry) ([]api.Entry, []api.Entry) {
	all := slices.Clone(l)
	for i, e := range all {
		all[i] = roomyEntry(e)
	}
	all = append(all, en(0, 1, 1, "room", id(0, 9)), api.Entry{}, en(9, 9, 9, "room"))
	return all[:len(l)], all
}

func roomyEntry(e api.Entry) api.Entry {
	room := append(append([]api.Id{}, e.Links...), id(0, 1), id(7, 7), id(1, 1))
	e.Links = room[:len(e.Links)]
	return e
}

// whole: entries with what stands behind their lists.
func whole(all ...api.Entry) []api.Entry {
	x := slices.Clone(all)
	for i, e := range x {
		x[i].Links = slices.Clone(e.Links[:cap(e.Links)])
	}
	return x
}

// lists of an answer: those of entries, and those of ids.
func lists(s api.Site, more ...api.Entry) ([][]api.Entry, [][]api.Id) {
	var links [][]api.Id
	for _, e := range slices.Concat(s.Log, s.Waits, more) {
		links = append(links, e.Links[:cap(e.Links)])
	}
	return [][]api.Entry{s.Log[:cap(s.Log)], s.Waits[:cap(s.Waits)]}, links
}

// spoil all of an answer, the room behind its lists too, each list by a mark of its own: P2: no two of them share memory.
func spoil(t *testing.T, s api.Site, more ...api.Entry) {
	t.Helper()
	entries, links := lists(s, more...)
	for mark, l := range links {
		for i := range l {
			l[i] = id(mark, -8)
		}
	}
	for mark, l := range entries {
		for i := range l {
			l[i] = en(mark, -9, 0, "spoilt")
		}
	}
	for mark, l := range links {
		if slices.ContainsFunc(l, func(x api.Id) bool { return x != id(mark, -8) }) {
			t.Fatalf("links share memory with others of the answer")
		}
	}
	for mark, l := range entries {
		if slices.ContainsFunc(l, func(e api.Entry) bool { return e.Id != id(mark, -9) }) {
			t.Fatalf("Log and Waits share memory")
		}
	}
}

// P2: what is handed in is only read, whatever is wrong with it; an answer is the caller's, each list of it.
func TestP2HandedInIsOnlyRead(t *testing.T) {
	all := []api.Site{mixed(), {Waits: stuck()}, heads(6)}
	for _, c := range goodSites {
		all = append(all, c.s)
	}
	for _, c := range wrongSites {
		if len(c.s.Waits) < 1000 {
			all = append(all, c.s)
		}
	}
	for _, s := range all {
		l, logRoom := roomy(s.Log)
		w, waitsRoom := roomy(s.Waits)
		before := slices.Concat(whole(logRoom...), whole(waitsRoom...))
		x := api.Site{Region: s.Region, Log: l, Waits: w}
		site.Check(x)
		for colors := 0; colors <= 8; colors++ {
			y, e, _ := site.Append(x, colors, "new")
			spoil(t, y, e)
		}
		for _, e := range slices.Concat(s.Log, s.Waits, log(en(1, 1, 1, "m"), en(1, 3, 1, "o", id(1, 2)), en(1, 19, 1, "far", id(0, 3), id(1, 2)))) {
			e = roomyEntry(e)
			was := whole(e)
			y, _ := site.Receive(x, e)
			spoil(t, y)
			if !reflect.DeepEqual(whole(e), was) {
				t.Fatalf("%v was handed in, and is %v", was, whole(e))
			}
		}
		if after := slices.Concat(whole(logRoom...), whole(waitsRoom...)); !reflect.DeepEqual(after, before) {
			t.Fatalf("%v was handed in, and is %v", before, after)
		}
	}
}

// deeds: calls whose answers hold what was handed in: in the log, in the waits, from the waits to the log.
var deeds = []struct {
	name string
	do   func(s api.Site, e api.Entry) (api.Site, api.Entry, api.Errno)
	e    api.Entry
}{
	{"Append", func(s api.Site, _ api.Entry) (api.Site, api.Entry, api.Errno) { return site.Append(s, 3, "c") }, api.Entry{}},
	{"Receive, again", receive, en(1, 4, 1, "p", id(0, 3), id(1, 3))},
	{"Receive, ready", receive, en(1, 3, 1, "o", id(0, 2), id(1, 2))},
	{"Receive, it waits", receive, en(1, 6, 1, "q", id(0, 3), id(1, 5))},
}

func receive(s api.Site, e api.Entry) (api.Site, api.Entry, api.Errno) {
	s, errno := site.Receive(s, e)
	return s, api.Entry{}, errno
}

// P2, P3: a later change of what was handed in is not seen; the same is answered again.
func TestP2AnswersAreTheCallers(t *testing.T) {
	for _, c := range deeds {
		want, own, errno := c.do(mixed(), c.e)
		if errno != api.OK {
			t.Fatalf("%s has error %d", c.name, errno)
		}
		s, e := mixed(), roomyEntry(c.e)
		x, y, _ := c.do(s, e)
		spoil(t, x, y)
		x, y, errno = c.do(s, e)
		spoil(t, s, e)
		if errno != api.OK || !same(x, want) || !sameEntries(log(y), log(own)) {
			t.Errorf("%s: it is %v %v %d, must be %v %v", c.name, x, y, errno, want, own)
		}
	}
}
