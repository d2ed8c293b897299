package fold_test

import (
	"cmp"
	"reflect"
	"regexp"
	"slices"
	"sort"
	"testing"

	"cutwater/api"
	"cutwater/dag"
	"cutwater/fold"
	"cutwater/site"
)

// draw: numbers that are the same each time.
type draw uint64

func (d *draw) n(n int) int {
	*d = *d*6364136223846793005 + 1442695040888963407
	return int(uint64(*d) >> 33 % uint64(n))
}

// text: often an op of few keys and values, at times none.
func (d *draw) text() string {
	key := []string{"a", "b", "ab", "0"}[d.n(4)]
	switch d.n(8) {
	case 0:
		return []string{"", "hello", "put a", "drop", "put A x", "put a  x"}[d.n(6)]
	case 1, 2:
		return "drop " + key
	}
	return "put " + key + " " + []string{"x", "y", "xy", "7"}[d.n(4)]
}

// log of some size; near: how far back its links go.
func (d *draw) log(size, near int) []api.Entry {
	var l []api.Entry
	var many [2]int
	for range size {
		region := d.n(2)
		if many[region] == api.MaxNumber {
			region = 1 - region
		}
		many[region]++
		l = append(l, en(region, many[region], 1+d.n(7), d.text(), d.links(l, near)...))
	}
	return l
}

func (d *draw) links(ahead []api.Entry, near int) []api.Id {
	ahead = ahead[max(0, len(ahead)-near):]
	var links []api.Id
	for range d.n(4) {
		if len(ahead) == 0 {
			break
		}
		links = append(links, ahead[d.n(len(ahead))].Id)
	}
	slices.SortFunc(links, rise)
	return slices.Compact(links)
}

func rise(a, b api.Id) int {
	return cmp.Or(cmp.Compare(a.Region, b.Region), cmp.Compare(a.Number, b.Number))
}

// logs that are drawn: small ones and great ones, with links that go back a little or far.
func logs(seed draw, count int) [][]api.Entry {
	var all [][]api.Entry
	for n := range count {
		all = append(all, seed.log(n%41, 2+seed.n(12)))
	}
	return all
}

// modelAhead: is the entry at one place in the past of that at another one? Told by links, and then by going on place by place.
func modelAhead(l []api.Entry) [40][40]bool {
	var ahead [40][40]bool
	for i, e := range l {
		for j, f := range l {
			ahead[j][i] = slices.Contains(e.Links, f.Id)
		}
	}
	for k := range l {
		for i := range l {
			for j := range l {
				ahead[i][j] = ahead[i][j] || ahead[i][k] && ahead[k][j]
			}
		}
	}
	return ahead
}

var form = regexp.MustCompile(`\A(?:put ([a-z0-9]{1,3}) ([a-z0-9]{1,3})|drop ([a-z0-9]{1,3}))\z`)

// modelMap: keys and values by which nothing of the same key, and of the colors, comes behind.
func modelMap(l []api.Entry, colors int) []api.Pair {
	ahead := modelAhead(l)
	stand := map[string]map[string]bool{}
	for i, e := range l {
		op := form.FindStringSubmatch(e.Text)
		if op == nil || op[1] == "" || e.Colors&colors == 0 {
			continue
		}
		is := true
		for j, f := range l {
			other := form.FindStringSubmatch(f.Text)
			if ahead[i][j] && f.Colors&colors != 0 && other != nil && other[1]+other[3] == op[1] {
				is = false
			}
		}
		if is && stand[op[1]] == nil {
			stand[op[1]] = map[string]bool{}
		}
		if is {
			stand[op[1]][op[2]] = true
		}
	}
	var all []api.Pair
	for key, values := range stand {
		p := api.Pair{Key: key}
		for value := range values {
			p.Values = append(p.Values, value)
		}
		sort.Strings(p.Values)
		all = append(all, p)
	}
	sort.Slice(all, func(i, j int) bool { return all[i].Key < all[j].Key })
	return all
}

// I2: of logs that are drawn, of all colors: Map, and Get of each key, whether it is there or not.
func TestI2Drawn(t *testing.T) {
	for _, l := range logs(7, 205) {
		for colors := 1; colors <= 7; colors++ {
			want := modelMap(l, colors)
			wantMap(t, "drawn", l, colors, want, api.OK)
			for _, key := range []string{"a", "b", "ab", "0", "q", "aa"} {
				var values []string
				for _, p := range want {
					if p.Key == key {
						values = p.Values
					}
				}
				wantGet(t, "drawn", l, colors, key, values, api.OK)
			}
		}
	}
}

// shuffle: the same entries in another order, each behind its links and behind those of its region that are ahead of it.
func (d *draw) shuffle(l []api.Entry) []api.Entry {
	left := slices.Clone(l)
	var out []api.Entry
	for len(left) > 0 {
		i := d.n(len(left))
		if dag.Check(append(slices.Clone(out), left[i])) == api.OK {
			out = append(out, left[i])
			left = slices.Delete(left, i, i+1)
		}
	}
	return out
}

// I3: a map hangs on what is there, and not on the order.
func TestI3AnyOrder(t *testing.T) {
	d := draw(11)
	moved := 0
	for _, l := range logs(13, 82) {
		for range 3 {
			other := d.shuffle(l)
			if !reflect.DeepEqual(other, l) {
				moved++
			}
			for colors := 1; colors <= 7; colors++ {
				want, _ := fold.Map(l, colors)
				wantMap(t, "in another order", other, colors, want, api.OK)
			}
		}
	}
	if moved < 200 {
		t.Errorf("just %d logs were put in another order", moved)
	}
}

// writer: two sites that append, and at times bring what one has to the other one.
type writer struct {
	draw
	sites [2]api.Site
}

func newWriter(t *testing.T, seed draw) *writer {
	w := &writer{draw: seed}
	for region := range 2 {
		s, errno := site.New(region)
		if errno != api.OK {
			t.Fatalf("New has error %d", errno)
		}
		w.sites[region] = s
	}
	return w
}

func (w *writer) append(t *testing.T, at, colors int, text string) {
	t.Helper()
	s, _, errno := site.Append(w.sites[at], colors, text)
	if errno != api.OK {
		t.Fatalf("Append has error %d", errno)
	}
	w.sites[at] = s
}

func (w *writer) bring(t *testing.T, at int) {
	t.Helper()
	for _, e := range w.sites[1-at].Log {
		s, errno := site.Receive(w.sites[at], e)
		if errno != api.OK {
			t.Fatalf("Receive has error %d", errno)
		}
		w.sites[at] = s
	}
}

// I3: two sites that have all show the same; what is then put, by who knows all, is the one that stands, wherever that has come.
func TestI3WhoKnowsAll(t *testing.T) {
	for seed := range draw(40) {
		w := newWriter(t, seed)
		for range 12 {
			at := w.n(2)
			w.append(t, at, 1+w.n(7), w.text())
			if w.n(4) == 0 {
				w.bring(t, 1-at)
			}
		}
		w.bring(t, 0)
		w.bring(t, 1)
		for colors := 1; colors <= 7; colors++ {
			want, _ := fold.Map(w.sites[0].Log, colors)
			wantMap(t, "at the other site", w.sites[1].Log, colors, want, api.OK)
		}
		at, key := w.n(2), []string{"a", "b", "ab", "0"}[w.n(4)]
		w.append(t, at, 7, "put "+key+" new")
		w.bring(t, 1-at)
		for _, s := range w.sites {
			for colors := 1; colors <= 7; colors++ {
				wantGet(t, "who knows all", s.Log, colors, key, []string{"new"}, api.OK)
			}
		}
		w.append(t, at, 7, "drop "+key)
		wantGet(t, "dropped by who knows all", w.sites[at].Log, 7, key, nil, api.OK)
		wantGet(t, "which has not come", w.sites[1-at].Log, 7, key, []string{"new"}, api.OK)
	}
}

// I3: the document's example.
func TestI3Example(t *testing.T) {
	w := newWriter(t, 1)
	w.append(t, 0, 1, "put a x")
	w.append(t, 1, 1, "put a y")
	w.bring(t, 0)
	w.bring(t, 1)
	for _, s := range w.sites {
		wantMap(t, "nobody knew of the other one", s.Log, 1, pairs(pair("a", "x", "y")), api.OK)
	}
	w.append(t, 0, 1, "put a z")
	wantMap(t, "z alone stands", w.sites[0].Log, 1, pairs(pair("a", "z")), api.OK)
	wantMap(t, "z has not come", w.sites[1].Log, 1, pairs(pair("a", "x", "y")), api.OK)
	w.bring(t, 1)
	wantMap(t, "z has come", w.sites[1].Log, 1, pairs(pair("a", "z")), api.OK)
}

// roomy: the same log, with room behind it and behind each list of links; and all of that room.
func roomy(l []api.Entry) ([]api.Entry, []api.Entry) {
	all := slices.Clone(l)
	for i, e := range all {
		room := append(append([]api.Id{}, e.Links...), id(0, 1), id(7, 7), id(1, 1))
		all[i].Links = room[:len(e.Links)]
	}
	all = append(all, en(0, 1, 1, "put a room", id(0, 9)), api.Entry{}, en(9, 9, 9, "drop a"))
	return all[:len(l)], all
}

// whole: a log with what stands behind its lists.
func whole(all []api.Entry) []api.Entry {
	x := slices.Clone(all)
	for i, e := range x {
		x[i].Links = slices.Clone(e.Links[:cap(e.Links)])
	}
	return x
}

// spoil all that a list has, the room behind it too.
func spoil[T any](l []T, by T) {
	for i := range l[:cap(l)] {
		l[:cap(l)][i] = by
	}
}

// P2: what is handed in is only read, whatever is wrong with it.
func TestP2HandedInIsOnlyRead(t *testing.T) {
	handed := logs(17, 41)
	for _, c := range good {
		handed = append(handed, c.l)
	}
	for _, c := range wrong {
		handed = append(handed, c.l[:min(len(c.l), 50)])
	}
	for _, x := range handed {
		l, room := roomy(x)
		before := whole(room)
		for colors := -1; colors <= 8; colors++ {
			all, _ := fold.Map(l, colors)
			for _, p := range all {
				spoil(p.Values, "spoilt")
			}
			spoil(all, pair("spoilt"))
			values, _ := fold.Get(l, colors, "a")
			spoil(values, "spoilt")
		}
		if !reflect.DeepEqual(whole(room), before) {
			t.Fatalf("%v was handed in, and is %v", before, whole(room))
		}
	}
}

// P2, P3: an answer is the caller's: a later change of what was handed in is not seen, the same is answered again.
func TestP2AnswersAreTheCallers(t *testing.T) {
	for _, c := range good {
		l, _ := roomy(c.l)
		first, _ := fold.Map(l, c.colors)
		for _, p := range first {
			spoil(p.Values, "spoilt")
		}
		values, _ := fold.Get(l, c.colors, "a")
		was := slices.Clone(values)
		spoil(values, "spoilt")
		again, errno := fold.Map(l, c.colors)
		values, told := fold.Get(l, c.colors, "a")
		for i := range l {
			spoil(l[i].Links, id(8, 8))
			l[i] = en(0, 1, 7, "put a new")
		}
		if !same(again, c.want) || errno != api.OK {
			t.Errorf("%s: Map is %q %d, must be %q", c.name, again, errno, c.want)
		}
		if !slices.Equal(values, was) || told != api.OK {
			t.Errorf("%s: Get is %q %d, must be %q", c.name, values, told, was)
		}
	}
}

// P2: no two lists of an answer share memory: one that grows, or is changed, leaves the others as they are.
func TestP2NoTwoListsShare(t *testing.T) {
	l := log(en(0, 1, 1, "put a 2"), en(0, 2, 1, "put b 1"), en(0, 3, 1, "put a 1"), en(0, 4, 1, "put c 1"), en(0, 5, 1, "put b 2"), en(0, 6, 1, "put a 3"))
	want := pairs(pair("a", "1", "2", "3"), pair("b", "1", "2"), pair("c", "1"))
	for i := range want {
		all, _ := fold.Map(l, 1)
		spoil(all[i].Values, "spoilt")
		_ = append(all[i].Values, "spoilt", "spoilt")
		for j := range want {
			if j != i && !slices.Equal(all[j].Values, want[j].Values) {
				t.Errorf("the values of %q were changed, and those of %q are %q", want[i].Key, want[j].Key, all[j].Values)
			}
		}
	}
}
