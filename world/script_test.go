package world_test

import (
	"cmp"
	"reflect"
	"slices"
	"testing"

	"cutwater/api"
	"cutwater/dag"
	"cutwater/world"
)

// draw: numbers that are the same each time.
type draw uint64

func (d *draw) n(n int) int {
	*d = *d*6364136223846793005 + 1442695040888963407
	return int(uint64(*d) >> 33 % uint64(n))
}

func rise(a, b api.Id) int {
	return cmp.Or(cmp.Compare(a.Region, b.Region), cmp.Compare(a.Number, b.Number))
}

// model of a world: all that was ever written, by its id; of each site ids that it has, and that wait; ids on each way.
type model struct {
	all   map[api.Id]api.Entry
	has   [2][]api.Id
	waits [2][]api.Id
	way   [2][]api.Id
}

// past of an id, by links of links.
func (m *model) past(x api.Id) map[api.Id]bool {
	past := map[api.Id]bool{}
	left := slices.Clone(m.all[x].Links)
	for len(left) > 0 {
		y := left[0]
		left = left[1:]
		if !past[y] {
			past[y] = true
			left = append(left, m.all[y].Links...)
		}
	}
	return past
}

// heads of a site, of some colors.
func (m *model) heads(at, colors int) []api.Id {
	var heads []api.Id
	for _, x := range m.has[at] {
		is := m.all[x].Colors&colors != 0
		for _, y := range m.has[at] {
			is = is && !(m.all[y].Colors&colors != 0 && m.past(y)[x])
		}
		if is {
			heads = append(heads, x)
		}
	}
	slices.SortFunc(heads, rise)
	return heads
}

func (m *model) write(at, colors int, text string) api.Errno {
	number := 1
	for _, x := range m.has[at] {
		if x.Region == at {
			number++
		}
	}
	links := m.heads(at, colors)
	if number > 20 || len(links) > 6 {
		return api.ErrMany
	}
	e := en(at, number, colors, text, links...)
	m.all[e.Id] = e
	m.has[at] = append(m.has[at], e.Id)
	if len(m.way[1-at]) < 30 {
		m.way[1-at] = append(m.way[1-at], e.Id)
	}
	return api.OK
}

func (m *model) isReady(at int, x api.Id) bool {
	if x.Number > 1 && !slices.Contains(m.has[at], id(x.Region, x.Number-1)) {
		return false
	}
	return !slices.ContainsFunc(m.all[x].Links, func(y api.Id) bool { return !slices.Contains(m.has[at], y) })
}

func (m *model) receive(at int, x api.Id) {
	if slices.Contains(m.has[at], x) || slices.Contains(m.waits[at], x) {
		return
	}
	m.waits[at] = append(m.waits[at], x)
	slices.SortFunc(m.waits[at], rise)
	for i := 0; i < len(m.waits[at]); i++ {
		if y := m.waits[at][i]; m.isReady(at, y) {
			m.has[at] = append(m.has[at], y)
			m.waits[at] = slices.Delete(m.waits[at], i, i+1)
			i = -1
		}
	}
}

func (m *model) receiveAll(at int) {
	for _, x := range slices.Clone(m.has[1-at]) {
		if x.Region != at {
			m.receive(at, x)
		}
	}
}

// do an act that is of its form, at a site that there is.
func (m *model) do(a api.Act) api.Errno {
	switch {
	case a.Kind == api.ActAppend:
		return m.write(a.At, a.Colors, a.Text)
	case a.Kind == api.ActAll:
		m.receiveAll(a.At)
		return api.OK
	case a.N < 0 || a.N >= len(m.way[a.At]):
		return api.ErrNone
	}
	x := m.way[a.At][a.N]
	if a.Kind == api.ActAgain {
		if len(m.way[a.At]) == 30 {
			return api.ErrMany
		}
		m.way[a.At] = append(m.way[a.At], x)
		return api.OK
	}
	m.way[a.At] = slices.Delete(m.way[a.At], a.N, a.N+1)
	if a.Kind == api.ActBring {
		m.receive(a.At, x)
	}
	return api.OK
}

func (m *model) entries(ids []api.Id) []api.Entry {
	var l []api.Entry
	for _, x := range ids {
		l = append(l, m.all[x])
	}
	return l
}

func (m *model) world() api.World {
	var w api.World
	for at := range 2 {
		w.Sites = append(w.Sites, api.Site{Region: at, Log: m.entries(m.has[at]), Waits: m.entries(m.waits[at])})
		w.Way = append(w.Way, m.entries(m.way[at]))
	}
	return w
}

// act: one in some is at a place that there is not. In a busy script nothing is lost, and more comes again, so that ways fill.
func (d *draw) act(w api.World, busy bool) api.Act {
	a := api.Act{Kind: 1 + d.n(5), At: d.n(2)}
	if busy && a.Kind == api.ActLose {
		a.Kind = api.ActAgain
	}
	switch a.Kind {
	case api.ActAppend:
		a.Colors, a.Text = 1+d.n(7), []string{"", "put a x", "put b y", "drop a", "t"}[d.n(5)]
	case api.ActAll:
		if !busy && d.n(4) > 0 {
			a.Kind = api.ActBring
			a.N = d.n(1 + len(w.Way[a.At]))
		}
	default:
		a.N = d.n(2+len(w.Way[a.At])) - d.n(2)
	}
	return a
}

// played: worlds that acts that are drawn came to, each of them beside what a model says.
func played(t *testing.T, seed draw, scripts, steps int, look func(w api.World)) {
	t.Helper()
	for n := range scripts {
		w, m := world.New(), &model{all: map[api.Id]api.Entry{}}
		for range steps {
			a := seed.act(w, n%2 == 1)
			x, errno := world.Do(w, a)
			if want := m.do(a); errno != want {
				t.Fatalf("Do of %v has error %d, must have %d; the world is %v", a, errno, want, w)
			}
			if errno != api.OK {
				if !same(x, api.World{}) {
					t.Fatalf("Do of %v has error %d, and is %v", a, errno, x)
				}
				continue
			}
			w = x
			if want := m.world(); !same(w, want) {
				t.Fatalf("behind %v it is\n%v, must be\n%v", a, w, want)
			}
			if errno := world.Check(w); errno != api.OK {
				t.Fatalf("behind %v Check is %d: %v", a, errno, w)
			}
			look(w)
		}
	}
}

// K2: scripts that are drawn, act by act, are as the model has them.
func TestK2Drawn(t *testing.T) {
	waited, fullLog, fullWay, noWay := 0, 0, 0, 0
	played(t, 3, 20, 400, func(w api.World) {
		for at := range 2 {
			waited += len(w.Sites[at].Waits)
			fullLog += len(w.Sites[at].Log) / api.MaxLog
			fullWay += len(w.Way[at]) / api.MaxWay
		}
		if len(w.Way[0])+len(w.Way[1]) == 0 {
			noWay++
		}
	})
	t.Logf("%d waited, %d times a log was full, %d times a way was, %d times nothing was on the way", waited, fullLog, fullWay, noWay)
	if waited == 0 || fullLog == 0 || fullWay == 0 || noWay == 0 {
		t.Error("the scripts are too tame")
	}
}

func rising(l []api.Entry) []api.Entry {
	return slices.SortedFunc(slices.Values(l), func(a, b api.Entry) int { return rise(a.Id, b.Id) })
}

// ownOf a site: what it wrote.
func ownOf(s api.Site) []api.Entry {
	return slices.DeleteFunc(slices.Clone(s.Log), func(e api.Entry) bool { return e.Id.Region != s.Region })
}

// K3: whatever is lost, comes twice, or late: behind Settle both have the same entries: all that was written, each once, each behind its links; none waits; what they had stays where it was.
func TestK3Settle(t *testing.T) {
	apart := 0
	played(t, 9, 40, 60, func(w api.World) {
		s, errno := world.Settle(w)
		if errno != api.OK || world.Check(s) != api.OK {
			t.Fatalf("Settle has error %d, Check %d", errno, world.Check(s))
		}
		want := slices.Concat(ownOf(w.Sites[0]), ownOf(w.Sites[1]))
		for at, x := range s.Sites {
			if !sameEntries(rising(x.Log), want) || len(x.Waits) != 0 || x.Region != at {
				t.Fatalf("behind Settle site %d is\n%v, must have\n%v", at, x, want)
			}
			if had := w.Sites[at].Log; !sameEntries(x.Log[:len(had)], had) {
				t.Fatalf("site %d had\n%v, and has\n%v", at, had, x.Log)
			}
			if errno := dag.Check(x.Log); errno != api.OK {
				t.Fatalf("behind Settle Check of a log is %d: %v", errno, x.Log)
			}
		}
		if !reflect.DeepEqual(plain(s).Way, plain(w).Way) {
			t.Fatalf("the ways were %v, and are %v", w.Way, s.Way)
		}
		if len(w.Sites[0].Log) != len(w.Sites[1].Log) {
			apart++
		}
		x, _ := world.Do(w, api.Act{Kind: api.ActAll})
		x, _ = world.Do(x, api.Act{Kind: api.ActAll, At: 1})
		if !same(s, x) {
			t.Fatalf("Settle is\n%v, ActAll at both is\n%v", s, x)
		}
	})
	if apart == 0 {
		t.Error("both had as many entries all the time: the scripts are too tame")
	}
}

// K3: all is lost: all that was written is there all the same behind Settle.
func TestK3AllIsLost(t *testing.T) {
	w := world.New()
	for range api.MaxNumber {
		for at := range 2 {
			w, _ = world.Do(w, api.Act{Kind: api.ActAppend, At: at, Colors: 1, Text: "t"})
			w, _ = world.Do(w, api.Act{Kind: api.ActLose, At: 1 - at})
		}
	}
	s, errno := world.Settle(w)
	if errno != api.OK || len(s.Sites[0].Log) != api.MaxLog || !sameEntries(rising(s.Sites[0].Log), rising(s.Sites[1].Log)) {
		t.Errorf("Settle is %v %d", s, errno)
	}
}

// roomyLinks, roomyLog: the same, with room behind each list.
func roomyLinks(l []api.Id) []api.Id {
	room := append(append([]api.Id{}, l...), id(0, 1), id(7, 7), id(1, 1))
	return room[:len(l)]
}

func roomyLog(l []api.Entry) []api.Entry {
	var all []api.Entry
	for _, e := range l {
		e.Links = roomyLinks(e.Links)
		all = append(all, e)
	}
	all = append(all, en(0, 1, 1, "room", id(0, 9)), api.Entry{}, en(9, 9, 9, "room"))
	return all[:len(l)]
}

// roomy: the same world, with room behind each list.
func roomy(w api.World) api.World {
	var x api.World
	for _, s := range w.Sites {
		x.Sites = append(x.Sites, api.Site{Region: s.Region, Log: roomyLog(s.Log), Waits: roomyLog(s.Waits)})
	}
	for _, l := range w.Way {
		x.Way = append(x.Way, roomyLog(l))
	}
	x.Sites = append(x.Sites, api.Site{Region: 5, Log: roomyLog(nil)})[:len(w.Sites)]
	x.Way = append(x.Way, roomyLog(nil))[:len(w.Way)]
	return x
}

// whole: a world with what stands behind its lists.
func whole(w api.World) api.World {
	x := api.World{Sites: slices.Clone(w.Sites[:cap(w.Sites)]), Way: slices.Clone(w.Way[:cap(w.Way)])}
	for i, s := range x.Sites {
		x.Sites[i].Log, x.Sites[i].Waits = wholeLog(s.Log), wholeLog(s.Waits)
	}
	for i, l := range x.Way {
		x.Way[i] = wholeLog(l)
	}
	return x
}

func wholeLog(l []api.Entry) []api.Entry {
	x := slices.Clone(l[:cap(l)])
	for i, e := range x {
		x[i].Links = slices.Clone(e.Links[:cap(e.Links)])
	}
	return x
}

// lists of a world: those of entries, and those of ids, with the room behind them.
func lists(w api.World) ([][]api.Entry, [][]api.Id) {
	var entries [][]api.Entry
	for _, s := range w.Sites {
		entries = append(entries, s.Log[:cap(s.Log)], s.Waits[:cap(s.Waits)])
	}
	for _, l := range w.Way {
		entries = append(entries, l[:cap(l)])
	}
	var links [][]api.Id
	for _, l := range entries {
		for _, e := range l {
			links = append(links, e.Links[:cap(e.Links)])
		}
	}
	return entries, links
}

// spoil all of a world, the room behind its lists too, each list by a mark of its own: P2: no two of them share memory.
func spoil(t *testing.T, w api.World) {
	t.Helper()
	entries, links := lists(w)
	for mark, l := range links {
		for i := range l {
			l[i] = id(mark, -8)
		}
	}
	for mark, l := range links {
		if slices.ContainsFunc(l, func(x api.Id) bool { return x != id(mark, -8) }) {
			t.Fatal("links share memory with others of the answer")
		}
	}
	for mark, l := range entries {
		for i := range l {
			l[i] = en(mark, -9, 0, "spoilt")
		}
	}
	for mark, l := range entries {
		if slices.ContainsFunc(l, func(e api.Entry) bool { return e.Id != id(mark, -9) }) {
			t.Fatal("two lists of entries share memory")
		}
	}
	for i := range w.Sites[:cap(w.Sites)] {
		w.Sites[:cap(w.Sites)][i] = api.Site{Region: -7}
	}
	for i := range w.Way[:cap(w.Way)] {
		w.Way[:cap(w.Way)][i] = log(en(-7, -7, -7, "spoilt"))
	}
}

// handed: worlds of all kinds, of whatever is wrong with them.
func handed(t *testing.T) []api.World {
	t.Helper()
	all := []api.World{world.New(), mixed()}
	for _, c := range goodWorlds {
		all = append(all, c.w)
	}
	for _, c := range strangers {
		all = append(all, c.w)
	}
	for _, c := range wrongSites {
		all = append(all, two(c.s, there(), row(1, 1, 1)))
	}
	for _, c := range wrongWays {
		all = append(all, two(here(row(0, 1, 2)...), there(row(1, 1, 2)...), row(1, 1, 2), c.way[:min(len(c.way), 50)]))
	}
	played(t, 21, 2, 50, func(w api.World) { all = append(all, w) })
	return all
}

// P2: what is handed in is only read, whatever is wrong with it; an answer is the caller's, each list of it.
func TestP2HandedInIsOnlyRead(t *testing.T) {
	for _, w := range handed(t) {
		x := roomy(w)
		before := whole(x)
		world.Check(x)
		for _, a := range acts {
			y, _ := world.Do(x, a)
			spoil(t, y)
		}
		for _, c := range wrongActs {
			y, _ := world.Do(x, c.a)
			spoil(t, y)
		}
		y, _ := world.Settle(x)
		spoil(t, y)
		if after := whole(x); !reflect.DeepEqual(after, before) {
			t.Fatalf("it was handed in as\n%v, and is\n%v", before, after)
		}
	}
}

// P2, P3: a later change of what was handed in, or of an answer, is not seen; the same is answered again.
func TestP2AnswersAreTheCallers(t *testing.T) {
	settle := api.Act{}
	do := func(w api.World, a api.Act) (api.World, api.Errno) {
		if a == settle {
			return world.Settle(w)
		}
		return world.Do(w, a)
	}
	for _, w := range handed(t) {
		for _, a := range append([]api.Act{settle}, acts...) {
			first, errno := do(w, a)
			want := plain(first)
			spoil(t, first)
			x := roomy(w)
			again, got := do(x, a)
			spoil(t, x)
			if got != errno || !same(again, want) {
				t.Fatalf("%v: it is\n%v %d, must be\n%v %d", a, again, got, want, errno)
			}
		}
	}
}

// P2: each New is a new one.
func TestP2NewIsNew(t *testing.T) {
	w := world.New()
	spoil(t, w)
	if w := world.New(); !same(w, two(here(), there())) {
		t.Errorf("New is %v", w)
	}
}
