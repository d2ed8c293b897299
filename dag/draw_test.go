package dag_test

import (
	"cmp"
	"reflect"
	"slices"
	"testing"

	"cutwater/api"
	"cutwater/dag"
)

// draw: numbers that are the same each time.
type draw uint64

func (d *draw) n(n int) int {
	*d = *d*6364136223846793005 + 1442695040888963407
	return int(uint64(*d) >> 33 % uint64(n))
}

// log of some size; near: how far back its links go.
func (d *draw) log(size, near int) []api.Entry {
	var l []api.Entry
	var many [2]int
	for range size {
		region := d.n(2)
		if many[region] == api.MaxNumber {
			region = 1 - region
		}
		many[region]++
		l = append(l, api.Entry{Id: id(region, many[region]), Colors: 1 + d.n(7), Links: d.links(l, near)})
	}
	return l
}

func (d *draw) links(ahead []api.Entry, near int) []api.Id {
	ahead = ahead[max(0, len(ahead)-near):]
	var links []api.Id
	for range d.n(4) {
		if len(ahead) == 0 {
			break
		}
		links = append(links, ahead[d.n(len(ahead))].Id)
	}
	slices.SortFunc(links, rise)
	return slices.Compact(links)
}

func rise(a, b api.Id) int {
	return cmp.Or(cmp.Compare(a.Region, b.Region), cmp.Compare(a.Number, b.Number))
}

// logs that are drawn: small ones and great ones, with links that go back a little or far.
func logs() [][]api.Entry {
	d := draw(3)
	var all [][]api.Entry
	for n := range 120 {
		all = append(all, d.log(n%41, 2+d.n(12)))
	}
	return all
}

// modelAhead: is the entry at one place in the past of that at another one? Told by links, and then by going on place by place.
func modelAhead(l []api.Entry) [40][40]bool {
	var ahead [40][40]bool
	for i, e := range l {
		for j, f := range l {
			ahead[j][i] = slices.Contains(e.Links, f.Id)
		}
	}
	for k := range l {
		for i := range l {
			for j := range l {
				ahead[i][j] = ahead[i][j] || ahead[i][k] && ahead[k][j]
			}
		}
	}
	return ahead
}

func modelIds(l []api.Entry, is func(i int) bool) []api.Id {
	var x []api.Id
	for i, e := range l {
		if is(i) {
			x = append(x, e.Id)
		}
	}
	slices.SortFunc(x, rise)
	return x
}

// E1: of logs that are drawn: Check, Past of each, Heads of all colors, Count.
func TestE1Drawn(t *testing.T) {
	for _, l := range logs() {
		if errno := dag.Check(l); errno != api.OK {
			t.Fatalf("Check(%v) is %d", l, errno)
		}
		ahead := modelAhead(l)
		for i, e := range l {
			past, errno := dag.Past(l, e.Id)
			wantIds(t, "Past", past, errno, modelIds(l, func(j int) bool { return ahead[j][i] }), api.OK)
		}
		for colors := 1; colors <= 7; colors++ {
			heads, errno := dag.Heads(l, colors)
			wantIds(t, "Heads", heads, errno, modelIds(l, func(i int) bool {
				return l[i].Colors&colors != 0 && len(modelIds(l, func(j int) bool {
					return l[j].Colors&colors != 0 && ahead[i][j]
				})) == 0
			}), api.OK)
		}
		ones := modelIds(l, func(i int) bool { return l[i].Id.Region == 1 })
		wantCount(t, "drawn", l, api.Vector{len(l) - len(ones), len(ones)}, api.OK)
	}
}

func pastOf(t *testing.T, l []api.Entry, x api.Id) []api.Id {
	t.Helper()
	past, errno := dag.Past(l, x)
	if errno != api.OK {
		t.Fatalf("Past of %v has error %d", x, errno)
	}
	return past
}

// E2: the past of what is past is past.
func TestE2PastOfPast(t *testing.T) {
	for _, l := range logs() {
		for _, e := range l {
			past := pastOf(t, l, e.Id)
			for _, x := range past {
				for _, y := range pastOf(t, l, x) {
					if !slices.Contains(past, y) {
						t.Fatalf("%v is in the past of %v, which is in that of %v, but is not itself: %v", y, x, e.Id, l)
					}
				}
			}
		}
	}
}

// E2: all that has a color is a head, or in the past of one; and a head is of the color.
func TestE2HeadOrPastOfOne(t *testing.T) {
	for _, l := range logs() {
		for colors := 1; colors <= 7; colors++ {
			heads, errno := dag.Heads(l, colors)
			if errno != api.OK {
				t.Fatalf("Heads has error %d", errno)
			}
			reached := slices.Clone(heads)
			for _, x := range heads {
				reached = append(reached, pastOf(t, l, x)...)
			}
			for _, e := range l {
				if e.Colors&colors != 0 && !slices.Contains(reached, e.Id) {
					t.Fatalf("of colors %d, %v is no head, nor in the past of one: %v", colors, e.Id, l)
				}
				if e.Colors&colors == 0 && slices.Contains(heads, e.Id) {
					t.Fatalf("of colors %d, %v is a head: %v", colors, e.Id, l)
				}
			}
		}
	}
}

// E2: what comes behind changes no past.
func TestE2PastStays(t *testing.T) {
	l := mixed()
	for i, e := range l {
		past := pastOf(t, l, e.Id)
		for n := i + 1; n <= len(l); n++ {
			if x := pastOf(t, l[:n], e.Id); !slices.Equal(x, past) {
				t.Errorf("the past of %v is %v in the first %d, and %v in all", e.Id, x, n, past)
			}
		}
	}
}

// roomy: the same log, with room behind it and behind each list of links; and all of that room.
func roomy(l []api.Entry) ([]api.Entry, []api.Entry) {
	all := slices.Clone(l)
	for i, e := range all {
		room := append(append([]api.Id{}, e.Links...), id(0, 1), id(7, 7), id(1, 1))
		all[i].Links = room[:len(e.Links)]
	}
	all = append(all, en(0, 1, 1, id(0, 9)), api.Entry{}, en(9, 9, 9))
	return all[:len(l)], all
}

// whole: a log with what stands behind its lists.
func whole(all []api.Entry) []api.Entry {
	x := slices.Clone(all)
	for i, e := range x {
		x[i].Links = slices.Clone(e.Links[:cap(e.Links)])
	}
	return x
}

// spoil all that a list has, the room behind it too.
func spoil(l []api.Id) {
	for i := range l[:cap(l)] {
		l[:cap(l)][i] = id(8, 8)
	}
}

// P2: what is handed in is only read, whatever is wrong with it.
func TestP2HandedInIsOnlyRead(t *testing.T) {
	all := logs()
	for _, c := range checks {
		all = append(all, c.l)
	}
	for _, x := range all {
		l, room := roomy(x)
		before := whole(room)
		dag.Check(l)
		dag.Count(l)
		for _, e := range room {
			past, _ := dag.Past(l, e.Id)
			spoil(past)
		}
		for colors := -1; colors <= 8; colors++ {
			heads, _ := dag.Heads(l, colors)
			spoil(heads)
		}
		if !reflect.DeepEqual(whole(room), before) {
			t.Fatalf("%v was handed in, and is %v", before, whole(room))
		}
	}
}

// P2, P3: an answer is the caller's: a later change of what was handed in is not seen, the same is answered again.
func TestP2AnswersAreTheCallers(t *testing.T) {
	for _, call := range []struct {
		name string
		do   func(l []api.Entry) ([]api.Id, api.Errno)
	}{
		{"Past of several", func(l []api.Entry) ([]api.Id, api.Errno) { return dag.Past(l, id(0, 5)) }},
		{"Past that is just the links", func(l []api.Entry) ([]api.Id, api.Errno) { return dag.Past(l, id(0, 2)) }},
		{"Heads", func(l []api.Entry) ([]api.Id, api.Errno) { return dag.Heads(l, 6) }},
	} {
		l, _ := roomy(mixed())
		first, errno := call.do(l)
		mine := slices.Clone(first)
		if len(mine) == 0 || errno != api.OK {
			t.Errorf("%s is %v %d", call.name, mine, errno)
		}
		spoil(first)
		again, errno := call.do(l)
		wantIds(t, call.name+", again", again, errno, mine, api.OK)
		for i := range l {
			spoil(l[i].Links)
			l[i] = api.Entry{}
		}
		wantIds(t, call.name+", and what was handed in is changed", again, errno, mine, api.OK)
	}
}
