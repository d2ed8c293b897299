package client_test

import (
	"cmp"
	"reflect"
	"slices"
	"strconv"
	"testing"

	"cutwater/api"
	"cutwater/client"
	"cutwater/order"
)

// draw: numbers that are the same each time.
type draw uint64

func (d *draw) n(n int) int {
	*d = *d*6364136223846793005 + 1442695040888963407
	return int(uint64(*d) >> 33 % uint64(n))
}

// log of some size; near: how far back its links go.
func (d *draw) log(size, near int) []api.Entry {
	var l []api.Entry
	var many [2]int
	for range size {
		region := d.n(2)
		if many[region] == api.MaxNumber {
			region = 1 - region
		}
		many[region]++
		text := strconv.Itoa(region) + "/" + strconv.Itoa(many[region])
		l = append(l, en(region, many[region], 1+d.n(7), text, d.links(l, near)...))
	}
	return l
}

func (d *draw) links(ahead []api.Entry, near int) []api.Id {
	ahead = ahead[max(0, len(ahead)-near):]
	var links []api.Id
	for range d.n(4) {
		if len(ahead) == 0 {
			break
		}
		links = append(links, ahead[d.n(len(ahead))].Id)
	}
	slices.SortFunc(links, rise)
	return slices.Compact(links)
}

func rise(a, b api.Id) int {
	return cmp.Or(cmp.Compare(a.Region, b.Region), cmp.Compare(a.Number, b.Number))
}

// logs that are drawn: small ones and great ones, with links that go back a little or far.
func logs(seed draw, count int) [][]api.Entry {
	var all [][]api.Entry
	for n := range count {
		all = append(all, seed.log(n%41, 2+seed.n(12)))
	}
	return all
}

// countOf a log, of each region.
func countOf(l []api.Entry) api.Vector {
	var v api.Vector
	for _, e := range l {
		v[e.Id.Region]++
	}
	return v
}

func isIn(v api.Vector, x api.Id) bool { return x.Number <= v[x.Region] }

// part of a log that a vector has.
func part(l []api.Entry, v api.Vector) []api.Entry {
	return slices.DeleteFunc(slices.Clone(l), func(e api.Entry) bool { return !isIn(v, e.Id) })
}

// mayPlay, once more: as many are there, no link goes out of it, all that was played is in it.
func mayPlay(l []api.Entry, played []api.Id, v api.Vector) bool {
	if c := countOf(l); v[0] > c[0] || v[1] > c[1] {
		return false
	}
	needs := slices.Clone(played)
	for _, e := range part(l, v) {
		needs = append(needs, e.Links...)
	}
	for _, x := range needs {
		if !isIn(v, x) {
			return false
		}
	}
	return true
}

// times: all vectors from nothing to one more than a log has.
func times(l []api.Entry) []api.Vector {
	c := countOf(l)
	var all []api.Vector
	for x := range min(c[0], 19) + 2 {
		for y := range min(c[1], 19) + 2 {
			all = append(all, api.Vector{x, y})
		}
	}
	return all
}

// H1: of logs that are drawn, to each time that there is, from nothing and from what was played at another time.
func TestH1Drawn(t *testing.T) {
	d := draw(3)
	for _, l := range logs(5, 41) {
		colors := 1 + d.n(7)
		all, _ := order.First(l, colors)
		for _, played := range [][]api.Id{nil, all[:d.n(len(all)+1)]} {
			for _, v := range times(l) {
				want, errno := api.Client{}, api.ErrState
				if mayPlay(l, played, v) {
					more, _ := order.More(part(l, v), colors, played)
					want, errno = reads(colors, more...), api.OK
				}
				wantPlay(t, "drawn", l, reads(colors, played...), v, want, errno)
			}
		}
	}
}

// step: a later time than v that may be played to, by some entries of the log from its beginning on.
func (d *draw) step(l []api.Entry, v api.Vector) api.Vector {
	u := countOf(l[:d.n(len(l)+1)])
	return api.Vector{max(u[0], v[0]), max(u[1], v[1])}
}

// wantBehindLinks: nothing was played ahead of what it links to, of the colors, even by way of others.
func wantBehindLinks(t *testing.T, l []api.Entry, played []api.Id) {
	t.Helper()
	past := map[api.Id][]api.Id{}
	for _, e := range l {
		for _, link := range e.Links {
			past[e.Id] = append(append(past[e.Id], link), past[link]...)
			slices.SortFunc(past[e.Id], rise)
			past[e.Id] = slices.Compact(past[e.Id])
		}
	}
	for i, x := range played {
		for _, later := range played[i:] {
			if slices.Contains(past[x], later) {
				t.Fatalf("%v is played ahead of %v: %v", x, later, played)
			}
		}
	}
}

// H2: who plays to one time, and then to later ones, has at last what is there, each once, and never anything ahead of what it links to; what was played stays ahead.
func TestH2PlayOnAndOn(t *testing.T) {
	d := draw(17)
	for _, l := range logs(19, 123) {
		c := reads(1 + d.n(7))
		var v api.Vector
		for range 5 {
			v = d.step(l, v)
			c = playOn(t, l, c, v)
		}
		c = playOn(t, l, c, countOf(l))
		var all []api.Id
		for _, e := range l {
			if e.Colors&c.Colors != 0 {
				all = append(all, e.Id)
			}
		}
		slices.SortFunc(all, rise)
		if got := slices.SortedFunc(slices.Values(c.Played), rise); !slices.Equal(got, all) {
			t.Fatalf("all was played: %v, but there is %v", got, all)
		}
	}
}

// playOn to a time: what comes is of the colors, and of that time, and says what its entries say.
func playOn(t *testing.T, l []api.Entry, c api.Client, v api.Vector) api.Client {
	t.Helper()
	next, errno := client.Play(l, c, v)
	if errno != api.OK || next.Colors != c.Colors {
		t.Fatalf("Play of %v to %v is %v %d: %v", c, v, next, errno, l)
	}
	if n := len(c.Played); len(next.Played) < n || !slices.Equal(next.Played[:n], c.Played) {
		t.Fatalf("%v was played, and it is %v", c.Played, next.Played)
	}
	var texts []string
	for _, x := range next.Played {
		if !isIn(v, x) {
			t.Fatalf("%v was played to %v", x, v)
		}
		texts = append(texts, strconv.Itoa(x.Region)+"/"+strconv.Itoa(x.Number))
	}
	wantBehindLinks(t, l, next.Played)
	wantCheck(t, "what was played", l, next, api.OK)
	wantTexts(t, "what was played", l, next, texts, api.OK)
	return next
}

// H2: who goes on as the log itself grows has at last what is there, too.
func TestH2LogGrows(t *testing.T) {
	d := draw(29)
	for _, l := range logs(31, 82) {
		c := reads(1 + d.n(7))
		for n := range len(l) + 1 {
			if d.n(3) == 0 || n == len(l) {
				c = playOn(t, l[:n], c, countOf(l[:n]))
			}
		}
		first, _ := order.First(l, c.Colors)
		if len(first) != len(c.Played) {
			t.Fatalf("%v was played, but there is %v", c.Played, first)
		}
	}
}

// roomy: the same log, with room behind it and behind each list of links; and all of that room.
func roomy(l []api.Entry) ([]api.Entry, []api.Entry) {
	all := slices.Clone(l)
	for i, e := range all {
		room := append(append([]api.Id{}, e.Links...), id(0, 1), id(7, 7), id(1, 1))
		all[i].Links = room[:len(e.Links)]
	}
	all = append(all, en(0, 1, 1, "room", id(0, 9)), api.Entry{}, en(9, 9, 9, "room"))
	return all[:len(l)], all
}

// whole: a log with what stands behind its lists.
func whole(all []api.Entry) []api.Entry {
	x := slices.Clone(all)
	for i, e := range x {
		x[i].Links = slices.Clone(e.Links[:cap(e.Links)])
	}
	return x
}

// roomyIds: the same ids, with room behind them; and all of that room.
func roomyIds(l []api.Id) ([]api.Id, []api.Id) {
	all := append(slices.Clone(l), slices.Repeat(ids(id(6, 6)), api.MaxLog)...)
	return all[:len(l)], all
}

// spoil all that a list has, the room behind it too.
func spoil[T any](l []T, by T) {
	for i := range l[:cap(l)] {
		l[:cap(l)][i] = by
	}
}

// P2: what is handed in is only read, whatever is wrong with it.
func TestP2HandedInIsOnlyRead(t *testing.T) {
	handed := slices.Clone(wrong)
	for _, c := range []api.Client{reads(1), reads(1, id(1, 1)), reads(1, id(1, 1), id(0, 1), id(0, 3), id(0, 2)), reads(7, id(0, 1))} {
		handed = append(handed, reading{"a good one", mixed(), c, api.OK})
	}
	for _, c := range handed {
		l, room := roomy(c.l)
		played, behind := roomyIds(c.c.Played)
		before, was := whole(room), slices.Clone(behind)
		mine := reads(c.c.Colors, played...)
		client.Check(l, mine)
		texts, _ := client.Texts(l, mine)
		spoil(texts, "spoilt")
		for _, v := range vectors {
			x, _ := client.Play(l, mine, v)
			spoil(x.Played, id(8, 8))
		}
		if !slices.Equal(behind, was) || !reflect.DeepEqual(whole(room), before) {
			t.Fatalf("%s: %v and %v were handed in, and are %v and %v", c.name, before, was, whole(room), behind)
		}
	}
}

// P2, P3: an answer is the caller's: a later change of what was handed in is not seen, the same is answered again.
func TestP2AnswersAreTheCallers(t *testing.T) {
	for _, c := range []api.Client{reads(1), reads(1, id(1, 1)), reads(1, id(1, 1), id(0, 1), id(0, 3), id(0, 2))} {
		l, _ := roomy(mixed())
		played, behind := roomyIds(c.Played)
		mine := reads(1, played...)
		want, _ := client.Play(mixed(), c, api.Vector{3, 3})
		said, _ := client.Texts(mixed(), c)
		x, _ := client.Play(l, mine, api.Vector{3, 3})
		spoil(x.Played, id(8, 8))
		texts, _ := client.Texts(l, mine)
		spoil(texts, "spoilt")
		x, errno := client.Play(l, mine, api.Vector{3, 3})
		texts, told := client.Texts(l, mine)
		spoil(behind, id(8, 8))
		for i := range l {
			spoil(l[i].Links, id(8, 8))
			l[i] = api.Entry{Text: "spoilt"}
		}
		if !same(x, want) || errno != api.OK || len(want.Played) != 4 {
			t.Errorf("Play is %v %d, must be %v", x, errno, want)
		}
		if !slices.Equal(texts, said) || told != api.OK || len(said) != len(c.Played) {
			t.Errorf("Texts is %q %d, must be %q", texts, told, said)
		}
	}
}
