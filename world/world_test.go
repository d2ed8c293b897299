package world_test

import (
	"math"
	"reflect"
	"slices"
	"testing"

	"cutwater/api"
	"cutwater/world"
)

func id(region, number int) api.Id { return api.Id{Region: region, Number: number} }

func en(region, number, colors int, text string, links ...api.Id) api.Entry {
	return api.Entry{Id: id(region, number), Colors: colors, Text: text, Links: links}
}

func log(l ...api.Entry) []api.Entry { return l }

// row: entries of a region from one number to another one, that link to nothing.
func row(region, from, to int) []api.Entry {
	var l []api.Entry
	for n := from; n <= to; n++ {
		l = append(l, en(region, n, 1, "r"))
	}
	return l
}

func times(n int, e api.Entry) []api.Entry { return slices.Repeat(log(e), n) }

func here(l ...api.Entry) api.Site { return api.Site{Log: l} }

func there(l ...api.Entry) api.Site { return api.Site{Region: 1, Log: l} }

// two sites; ways: to site 0, to site 1.
func two(a, b api.Site, ways ...[]api.Entry) api.World {
	return api.World{Sites: []api.Site{a, b}, Way: append(ways, nil, nil)[:2]}
}

// mixed: something is in both logs, something waits, something is on both ways.
func mixed() api.World {
	a, b := en(0, 1, 1, "a"), en(0, 2, 3, "b", id(0, 1))
	m, n, o := en(1, 1, 2, "m"), en(1, 2, 1, "n", id(0, 1)), en(1, 3, 3, "o", id(1, 1), id(1, 2))
	return two(
		api.Site{Log: log(a, b), Waits: log(n, o)},
		there(m, a, n, o),
		log(o, m), log(b, a, b),
	)
}

// plain takes an empty list for none, as P2 does; the ways stay as many as they are.
func plain(w api.World) api.World {
	var x api.World
	for _, s := range w.Sites {
		x.Sites = append(x.Sites, api.Site{Region: s.Region, Log: plainLog(s.Log), Waits: plainLog(s.Waits)})
	}
	for _, l := range w.Way {
		x.Way = append(x.Way, plainLog(l))
	}
	return x
}

func plainLog(l []api.Entry) []api.Entry {
	var all []api.Entry
	for _, e := range l {
		e.Links = append([]api.Id(nil), e.Links...)
		all = append(all, e)
	}
	return all
}

func same(a, b api.World) bool { return reflect.DeepEqual(plain(a), plain(b)) }

func sameEntries(a, b []api.Entry) bool { return reflect.DeepEqual(plainLog(a), plainLog(b)) }

func wantCheck(t *testing.T, name string, w api.World, want api.Errno) {
	t.Helper()
	if got := world.Check(w); got != want {
		t.Errorf("%s: Check is %d, must be %d", name, got, want)
	}
}

// wantDo: the world then, of which Check has nothing to say; P1: nothing of one, if there is an error.
func wantDo(t *testing.T, name string, w api.World, a api.Act, want api.World, errno api.Errno) {
	t.Helper()
	x, got := world.Do(w, a)
	if got != errno || !same(x, want) {
		t.Errorf("%s: Do is\n%v %d, must be\n%v %d", name, x, got, want, errno)
	}
	if errno == api.OK {
		wantCheck(t, name, x, api.OK)
	}
}

func wantNoDo(t *testing.T, name string, w api.World, a api.Act, errno api.Errno) {
	t.Helper()
	wantDo(t, name, w, a, api.World{}, errno)
}

func wantSettle(t *testing.T, name string, w, want api.World, errno api.Errno) {
	t.Helper()
	if x, got := world.Settle(w); got != errno || !same(x, want) {
		t.Errorf("%s: Settle is\n%v %d, must be\n%v %d", name, x, got, want, errno)
	}
}

// K1: New: site 0 and site 1, without entries, nothing on either way.
func TestK1New(t *testing.T) {
	w := world.New()
	if !same(w, two(api.Site{}, api.Site{Region: 1})) || len(w.Way) != 2 {
		t.Errorf("New is %v", w)
	}
	wantCheck(t, "a new one", w, api.OK)
}

// goodWorlds: Check has nothing to say of these.
var goodWorlds = []struct {
	name string
	w    api.World
}{
	{"nothing", two(here(), there())},
	{"empty lists", two(api.Site{Log: log(), Waits: log()}, api.Site{Region: 1, Log: log(), Waits: log()}, log(), log())},
	{"mixed", mixed()},
	{"each one has its own", two(here(row(0, 1, 3)...), there(row(1, 1, 5)...))},
	{"all that there may be, everywhere", two(here(slices.Concat(row(0, 1, 20), row(1, 1, 20))...), there(slices.Concat(row(1, 1, 20), row(0, 1, 20))...), times(30, row(1, 9, 9)[0]), times(30, row(0, 9, 9)[0]))},
	{"as many waits as there may be", two(api.Site{Waits: row(1, 2, 20)}, there(row(1, 1, 20)...))},
	{"waits at site 1", two(here(row(0, 1, 3)...), api.Site{Region: 1, Waits: row(0, 2, 3)})},
	{"on the way, and in the log", two(here(row(1, 1, 1)...), there(row(1, 1, 1)...), row(1, 1, 1))},
	{"on the way, and it waits", two(api.Site{Waits: row(1, 2, 2)}, there(row(1, 1, 2)...), row(1, 2, 2))},
	{"on the way more than once", two(here(row(0, 1, 1)...), there(), nil, times(30, row(0, 1, 1)[0]))},
	{"on the way to its own site", two(here(row(0, 1, 1)...), there(), row(0, 1, 1))},
	{"an empty list of links, and none", two(here(api.Entry{Id: id(0, 1), Colors: 1, Links: []api.Id{}}), there(en(0, 1, 1, "")), nil, log(en(0, 1, 1, "")))},
}

func TestK1CheckGood(t *testing.T) {
	for _, c := range goodWorlds {
		wantCheck(t, c.name, c.w, api.OK)
	}
}

// formless: not two sites, or not two ways, whatever else is wrong.
func formless() []api.World {
	var all []api.World
	for sites := range 5 {
		for ways := range 5 {
			if sites == 2 && ways == 2 {
				continue
			}
			w := api.World{Sites: make([]api.Site, sites), Way: make([][]api.Entry, ways)}
			for i := range sites {
				w.Sites[i].Region = i
			}
			all = append(all, w)
		}
	}
	wrong := two(api.Site{Region: 9}, there(), make([]api.Entry, 31))
	return append(all, api.World{Sites: wrong.Sites}, api.World{Way: wrong.Way}, api.World{Sites: wrong.Sites, Way: append(wrong.Way, nil)}, api.World{Sites: make([]api.Site, 100000), Way: make([][]api.Entry, 2)})
}

func TestK1CheckForm(t *testing.T) {
	for _, w := range formless() {
		if got := world.Check(w); got != api.ErrForm {
			t.Errorf("%d sites, %d ways: Check is %d", len(w.Sites), len(w.Way), got)
		}
	}
}

// wrongSites: of one site what Check of chapter 7 says.
var wrongSites = []struct {
	name string
	s    api.Site
	want api.Errno
}{
	{"region 2", api.Site{Region: 2}, api.ErrRange},
	{"region below 0", api.Site{Region: -1}, api.ErrRange},
	{"region far too great", api.Site{Region: math.MaxInt}, api.ErrRange},
	{"region far below 0", api.Site{Region: math.MinInt}, api.ErrRange},
	{"too many in the log", api.Site{Log: make([]api.Entry, api.MaxLog+1)}, api.ErrMany},
	{"no entry in the log", here(api.Entry{}), api.ErrRange},
	{"a region far below 0 in the log", here(en(math.MinInt, 1, 1, "")), api.ErrRange},
	{"one twice in the log", here(en(0, 1, 1, ""), en(0, 1, 1, "")), api.ErrTwice},
	{"a link that is not in the log", here(en(0, 1, 1, "", id(1, 1))), api.ErrNone},
	{"a gap in the log", here(en(0, 2, 1, "")), api.ErrState},
	{"too many waits", api.Site{Waits: make([]api.Entry, api.MaxNumber+1)}, api.ErrMany},
	{"no entry waits", api.Site{Waits: log(api.Entry{})}, api.ErrRange},
	{"a wait's text is too long", api.Site{Waits: log(en(1, 2, 1, "thirteen byte"))}, api.ErrMany},
	{"a wait that is ready", api.Site{Waits: log(en(1, 1, 1, ""))}, api.ErrState},
	{"a wait of its own region", api.Site{Waits: log(en(0, 2, 1, ""))}, api.ErrState},
}

// K1: site by site, Check of chapter 7, then its region; both ahead of whatever is on the ways.
func TestK1CheckSites(t *testing.T) {
	junk := make([]api.Entry, api.MaxWay+1)
	for _, c := range wrongSites {
		wantCheck(t, c.name, two(c.s, there()), c.want)
		wantCheck(t, c.name+", ahead of site 1", two(c.s, api.Site{}), c.want)
		wantCheck(t, c.name+", ahead of a site 1 that has errors", two(c.s, api.Site{Region: 1, Waits: junk, Log: junk}), c.want)
		wantCheck(t, c.name+", ahead of the ways", two(c.s, there(), junk, junk), c.want)
		if c.s.Region == 0 && c.want != api.ErrState {
			wantCheck(t, c.name+", at site 1", two(here(), c.s), c.want)
			wantCheck(t, c.name+", at site 1, behind site 0", two(there(), c.s), api.ErrState)
		}
	}
	wantCheck(t, "site 0 of region 1", two(there(), there()), api.ErrState)
	wantCheck(t, "site 1 of region 0", two(here(), here()), api.ErrState)
	wantCheck(t, "sites in the wrong order", two(there(), here()), api.ErrState)
	wantCheck(t, "site 1 of region 2", two(here(), api.Site{Region: 2}), api.ErrRange)
	wantCheck(t, "a wrong place, ahead of site 1", two(there(), api.Site{Region: 2}), api.ErrState)
	wantCheck(t, "a wrong place, behind what else is wrong with the site", two(there(api.Entry{}), there()), api.ErrRange)
	wantCheck(t, "a wrong place, ahead of the ways", two(here(), here(), junk), api.ErrState)
}

// wrongWays: what is wrong with one way, while site 0 has (0, 1) and (0, 2), site 1 has (1, 1) and (1, 2).
var wrongWays = []struct {
	name string
	way  []api.Entry
	want api.Errno
}{
	{"too many", times(api.MaxWay+1, en(0, 1, 1, "r")), api.ErrMany},
	{"too many, of wrong ones", make([]api.Entry, api.MaxWay+1), api.ErrMany},
	{"far too many", make([]api.Entry, 100000), api.ErrMany},
	{"no entry", log(api.Entry{}), api.ErrRange},
	{"region 2", log(en(2, 1, 1, "r")), api.ErrRange},
	{"region below 0", log(en(-1, 1, 1, "r")), api.ErrRange},
	{"region far too great", log(en(math.MaxInt, 1, 1, "r")), api.ErrRange},
	{"number 0", log(en(0, 0, 1, "r")), api.ErrRange},
	{"colors 8", log(en(0, 1, 8, "r")), api.ErrRange},
	{"a text too long", log(en(0, 1, 1, "thirteen byte")), api.ErrMany},
	{"a link to itself", log(en(0, 1, 1, "r", id(0, 1))), api.ErrState},
	{"not in the log, region 0", log(en(0, 3, 1, "r")), api.ErrState},
	{"not in the log, region 1", log(en(1, 3, 1, "r")), api.ErrState},
	{"another text", log(en(0, 1, 1, "s")), api.ErrState},
	{"other colors", log(en(0, 1, 3, "r")), api.ErrState},
	{"a link more", log(en(0, 2, 1, "r", id(0, 1))), api.ErrState},
	{"the last one of several", log(en(0, 1, 1, "r"), en(1, 1, 1, "r"), en(1, 2, 1, "r"), en(1, 2, 2, "r")), api.ErrState},
	{"the last one of all that there may be", append(times(api.MaxWay-1, en(1, 1, 1, "r")), en(1, 3, 1, "r")), api.ErrState},
	{"the last one of all that there may be is none", append(times(api.MaxWay-1, en(1, 1, 1, "r")), api.Entry{}), api.ErrRange},
	{"the first one that is wrong tells, state", log(en(1, 1, 1, "r"), en(1, 3, 1, "r"), api.Entry{}), api.ErrState},
	{"the first one that is wrong tells, range", log(en(1, 1, 1, "r"), api.Entry{}, en(1, 3, 1, "r")), api.ErrRange},
	{"the first one that is wrong tells, many", log(en(0, 1, 1, "thirteen byte"), api.Entry{}), api.ErrMany},
	{"not in the log, and what Check says of it", log(en(0, 3, 0, "r")), api.ErrRange},
}

// K1: way by way; behind the sites, and ahead of what a site has that is strange.
func TestK1CheckWays(t *testing.T) {
	a, b := here(row(0, 1, 2)...), there(row(1, 1, 2)...)
	strange := here(append(row(0, 1, 2), en(1, 1, 7, "strange"))...)
	for _, c := range wrongWays {
		wantCheck(t, c.name+", to site 0", two(a, b, c.way), c.want)
		wantCheck(t, c.name+", to site 1", two(a, b, nil, c.way), c.want)
		wantCheck(t, c.name+", behind a way that is fine", two(a, b, row(1, 1, 2), c.way), c.want)
		wantCheck(t, c.name+", ahead of a strange entry", two(strange, b, c.way), c.want)
		wantCheck(t, c.name+", ahead of a strange entry, to site 1", two(strange, b, nil, c.way), c.want)
		for _, d := range wrongWays {
			wantCheck(t, c.name+", ahead of "+d.name, two(a, b, c.way, d.way), c.want)
		}
	}
}

// K1: an entry on the way is held against the log of its own region's site alone, which has it, and does not wait for it.
func TestK1CheckWaysOwnLog(t *testing.T) {
	x := en(0, 1, 1, "x", id(1, 1))
	m := en(1, 1, 1, "m")
	wantCheck(t, "its links too", two(here(m, x), there(m), nil, log(x)), api.OK)
	wantCheck(t, "a link less", two(here(m, x), there(m), nil, log(en(0, 1, 1, "x"))), api.ErrState)
	wantCheck(t, "another link", two(here(m, x), there(m, en(1, 2, 1, "n")), nil, log(en(0, 1, 1, "x", id(1, 2)))), api.ErrState)
	wantCheck(t, "in the other one's log alone", two(here(), there(en(0, 1, 1, "x")), log(en(0, 1, 1, "x"))), api.ErrState)
	wantCheck(t, "in the other one's waits alone", two(api.Site{Waits: row(1, 2, 2)}, there(), row(1, 2, 2)), api.ErrState)
}

// strangers: behind all else: what a site has, or what waits there, and the other one's log has not just so.
var strangers = []struct {
	name string
	w    api.World
}{
	{"site 0 has it", two(here(row(1, 1, 1)...), there())},
	{"site 1 has it", two(here(), there(row(0, 1, 1)...))},
	{"site 0 has one more", two(here(row(1, 1, 3)...), there(row(1, 1, 2)...))},
	{"site 1 has one more", two(here(row(0, 1, 19)...), there(row(0, 1, 20)...))},
	{"another text", two(here(en(1, 1, 1, "r")), there(en(1, 1, 1, "s")))},
	{"an empty text", two(here(en(1, 1, 1, "")), there(en(1, 1, 1, "s")))},
	{"other colors", two(here(en(0, 1, 1, "r")), there(en(0, 1, 5, "r")))},
	{"a link more", two(here(append(row(1, 1, 1), en(1, 2, 1, "r", id(1, 1)))...), there(row(1, 1, 2)...))},
	{"a link less", two(here(row(1, 1, 2)...), there(append(row(1, 1, 1), en(1, 2, 1, "r", id(1, 1)))...))},
	{"another link", two(here(append(row(1, 1, 2), en(1, 3, 1, "r", id(1, 1)))...), there(append(row(1, 1, 2), en(1, 3, 1, "r", id(1, 2)))...))},
	{"it waits at site 0", two(api.Site{Waits: row(1, 2, 2)}, there())},
	{"it waits at site 1", two(here(), api.Site{Region: 1, Waits: row(0, 2, 2)})},
	{"it waits, the other one has not come so far", two(api.Site{Waits: row(1, 2, 4)}, there(row(1, 1, 3)...))},
	{"it waits, with another text", two(api.Site{Waits: log(en(1, 2, 1, "s"))}, there(row(1, 1, 2)...))},
	{"it waits, with other colors", two(here(row(0, 1, 2)...), api.Site{Region: 1, Waits: log(en(0, 2, 2, "r"))})},
	{"it waits, with a link more", two(api.Site{Waits: log(en(1, 2, 1, "r", id(1, 1)))}, there(row(1, 1, 2)...))},
	{"it waits at both", two(api.Site{Waits: row(1, 2, 2)}, api.Site{Region: 1, Waits: row(0, 2, 2)})},
}

func TestK1CheckStrange(t *testing.T) {
	for _, c := range strangers {
		wantCheck(t, c.name, c.w, api.ErrState)
	}
}

// acts: none of them has anything wrong with itself, nor has any in mixed.
var acts = []api.Act{
	{Kind: api.ActAppend, Colors: 1, Text: "x"},
	{Kind: api.ActAppend, At: 1, Colors: 7, Text: ""},
	{Kind: api.ActBring}, {Kind: api.ActBring, At: 1, N: 2},
	{Kind: api.ActLose, N: 1}, {Kind: api.ActLose, At: 1},
	{Kind: api.ActAgain}, {Kind: api.ActAgain, At: 1, N: 1},
	{Kind: api.ActAll}, {Kind: api.ActAll, At: 1},
}

// wrongActs: whatever world: ErrKind, then ErrForm, then ErrRange.
var wrongActs = []struct {
	name string
	a    api.Act
	want api.Errno
}{
	{"no kind", api.Act{}, api.ErrKind},
	{"kind 6", api.Act{Kind: 6}, api.ErrKind},
	{"kind below 0", api.Act{Kind: -1}, api.ErrKind},
	{"kind far below 0", api.Act{Kind: math.MinInt}, api.ErrKind},
	{"kind far too great", api.Act{Kind: math.MaxInt}, api.ErrKind},
	{"no kind, and all else", api.Act{At: 7, N: 1, Colors: 9, Text: "x"}, api.ErrKind},
	{"ActAppend: N", api.Act{Kind: api.ActAppend, N: 1, Colors: 1}, api.ErrForm},
	{"ActAppend: N below 0, and all else", api.Act{Kind: api.ActAppend, At: 2, N: -1, Colors: 8, Text: "thirteen byte"}, api.ErrForm},
	{"ActBring: Colors", api.Act{Kind: api.ActBring, Colors: 1}, api.ErrForm},
	{"ActBring: Text", api.Act{Kind: api.ActBring, Text: "x"}, api.ErrForm},
	{"ActBring: Colors, no site, no place", api.Act{Kind: api.ActBring, At: -1, N: 99, Colors: -1}, api.ErrForm},
	{"ActLose: Colors", api.Act{Kind: api.ActLose, Colors: 7}, api.ErrForm},
	{"ActLose: Text", api.Act{Kind: api.ActLose, Text: "\x00"}, api.ErrForm},
	{"ActLose: Text, no place", api.Act{Kind: api.ActLose, N: -1, Text: "x"}, api.ErrForm},
	{"ActAgain: Colors", api.Act{Kind: api.ActAgain, Colors: math.MinInt}, api.ErrForm},
	{"ActAgain: Text", api.Act{Kind: api.ActAgain, Text: " "}, api.ErrForm},
	{"ActAgain: Text, no site", api.Act{Kind: api.ActAgain, At: 2, Text: " "}, api.ErrForm},
	{"ActAll: N", api.Act{Kind: api.ActAll, N: 1}, api.ErrForm},
	{"ActAll: Colors", api.Act{Kind: api.ActAll, Colors: 1}, api.ErrForm},
	{"ActAll: Text", api.Act{Kind: api.ActAll, Text: "x"}, api.ErrForm},
	{"ActAll: N, no site", api.Act{Kind: api.ActAll, At: 2, N: -1}, api.ErrForm},
	{"ActAppend: no site", api.Act{Kind: api.ActAppend, At: 2, Colors: 1}, api.ErrRange},
	{"ActAppend: no site, a text too long", api.Act{Kind: api.ActAppend, At: -1, Colors: 1, Text: "thirteen byte"}, api.ErrRange},
	{"ActBring: no site", api.Act{Kind: api.ActBring, At: math.MaxInt}, api.ErrRange},
	{"ActBring: no site, no place", api.Act{Kind: api.ActBring, At: -1, N: -1}, api.ErrRange},
	{"ActLose: no site", api.Act{Kind: api.ActLose, At: math.MinInt}, api.ErrRange},
	{"ActLose: no site, no place", api.Act{Kind: api.ActLose, At: 2, N: 99}, api.ErrRange},
	{"ActAgain: no site", api.Act{Kind: api.ActAgain, At: 2}, api.ErrRange},
	{"ActAgain: no site, no place", api.Act{Kind: api.ActAgain, At: 3, N: 3}, api.ErrRange},
	{"ActAll: no site", api.Act{Kind: api.ActAll, At: -1}, api.ErrRange},
}

// K2: what is wrong with an act, in an empty world, in a full one, in one between.
func TestK2WrongActs(t *testing.T) {
	for _, c := range wrongActs {
		for _, w := range goodWorlds {
			wantNoDo(t, c.name+", "+w.name, w.w, c.a, c.want)
		}
	}
}

// K2: Check of the world is ahead of what is wrong with the act, and is Settle's error, too.
func TestK2CheckFirst(t *testing.T) {
	all := formless()
	for _, c := range wrongSites {
		all = append(all, two(c.s, there()))
	}
	for _, c := range wrongWays {
		all = append(all, two(here(row(0, 1, 2)...), there(row(1, 1, 2)...), nil, c.way))
	}
	for _, c := range strangers {
		all = append(all, c.w)
	}
	for _, w := range all {
		want := world.Check(w)
		if want == api.OK {
			t.Fatalf("Check of %v is OK", w)
		}
		for _, a := range acts {
			wantNoDo(t, "a wrong world", w, a, want)
		}
		for _, c := range wrongActs {
			wantNoDo(t, "a wrong world: "+c.name, w, c.a, want)
		}
		wantSettle(t, "a wrong world", w, api.World{}, want)
	}
}

// K2: ActAppend: at the end of the log, and last on the way to the other one; nothing else changes.
func TestK2Append(t *testing.T) {
	want := mixed()
	e := en(0, 3, 1, "new", id(0, 2))
	want.Sites[0].Log = append(want.Sites[0].Log, e)
	want.Way[1] = append(want.Way[1], e)
	wantDo(t, "at site 0", mixed(), api.Act{Kind: api.ActAppend, Colors: 1, Text: "new"}, want, api.OK)

	want = mixed()
	e = en(1, 4, 6, "twelve bytes", id(1, 3))
	want.Sites[1].Log = append(want.Sites[1].Log, e)
	want.Way[0] = append(want.Way[0], e)
	wantDo(t, "at site 1", mixed(), api.Act{Kind: api.ActAppend, At: 1, Colors: 6, Text: "twelve bytes"}, want, api.OK)

	e = en(0, 1, 4, "")
	wantDo(t, "the first one", world.New(), api.Act{Kind: api.ActAppend, Colors: 4}, two(here(e), there(), nil, log(e)), api.OK)
	e = en(1, 1, 4, "")
	wantDo(t, "the first one, at site 1", world.New(), api.Act{Kind: api.ActAppend, At: 1, Colors: 4}, two(here(), there(e), log(e)), api.OK)
}

// K2: ActAppend: on a way that is full it does not go, but is written; the other way does not count.
func TestK2AppendRoom(t *testing.T) {
	for at := range 2 {
		own := row(at, 1, 1)[0]
		for many := api.MaxWay - 2; many <= api.MaxWay; many++ {
			w := two(here(), there())
			w.Sites[at].Log = log(own)
			w.Way[1-at] = times(many, own)
			w.Way[at] = times(api.MaxWay, own)
			e := en(at, 2, 1, "e", own.Id)
			want := two(here(), there(), w.Way...)
			want.Sites[at].Log = log(own, e)
			if many < api.MaxWay {
				want.Way[1-at] = append(times(many, own), e)
			}
			wantDo(t, "room", w, api.Act{Kind: api.ActAppend, At: at, Colors: 1, Text: "e"}, want, api.OK)
		}
	}
}

// K2: ActAppend: the errors of chapter 7; on a full way, too.
func TestK2AppendErrors(t *testing.T) {
	full := two(here(row(0, 1, 20)...), there(row(1, 1, 20)...), times(30, row(1, 1, 1)[0]), times(30, row(0, 1, 1)[0]))
	for at := range 2 {
		for _, colors := range []int{math.MinInt, -1, 0, 8, math.MaxInt} {
			a := api.Act{Kind: api.ActAppend, At: at, Colors: colors, Text: "thirteen byte"}
			wantNoDo(t, "colors", mixed(), a, api.ErrRange)
			wantNoDo(t, "colors, full", full, a, api.ErrRange)
		}
		wantNoDo(t, "a text too long", mixed(), api.Act{Kind: api.ActAppend, At: at, Colors: 1, Text: "thirteen byte"}, api.ErrMany)
		wantNoDo(t, "no number left", full, api.Act{Kind: api.ActAppend, At: at, Colors: 1}, api.ErrMany)
	}
	heads := two(here(row(0, 1, 7)...), there())
	wantNoDo(t, "too many links", heads, api.Act{Kind: api.ActAppend, Colors: 1}, api.ErrMany)
	heads = two(here(row(0, 1, 6)...), there())
	if _, errno := world.Do(heads, api.Act{Kind: api.ActAppend, Colors: 1}); errno != api.OK {
		t.Errorf("six links: Do has error %d", errno)
	}
}

// K2: ActBring: it goes from the way, and is received: it waits, it is there, it comes again.
func TestK2Bring(t *testing.T) {
	m, n, o := en(1, 1, 2, "m"), en(1, 2, 1, "n", id(0, 1)), en(1, 3, 3, "o", id(1, 1), id(1, 2))
	a, b := en(0, 1, 1, "a"), en(0, 2, 3, "b", id(0, 1))
	for _, c := range []struct {
		name  string
		at, n int
		want  api.World
	}{
		{"it waits already", 0, 0, two(mixed().Sites[0], mixed().Sites[1], log(m), log(b, a, b))},
		{"it comes, and so do those that waited", 0, 1, two(here(a, b, m, n, o), mixed().Sites[1], log(o), log(b, a, b))},
		{"the first one of the same", 1, 0, two(mixed().Sites[0], there(m, a, n, o, b), log(o, m), log(a, b))},
		{"it is there already", 1, 1, two(mixed().Sites[0], mixed().Sites[1], log(o, m), log(b, b))},
		{"the last one of the same", 1, 2, two(mixed().Sites[0], there(m, a, n, o, b), log(o, m), log(b, a))},
	} {
		wantDo(t, c.name, mixed(), api.Act{Kind: api.ActBring, At: c.at, N: c.n}, c.want, api.OK)
	}
	late := two(here(), there(row(1, 1, 3)...), row(1, 1, 3))
	wantDo(t, "it waits", late, api.Act{Kind: api.ActBring, N: 2}, two(api.Site{Waits: row(1, 3, 3)}, there(row(1, 1, 3)...), row(1, 1, 2)), api.OK)
	own := two(here(row(0, 1, 1)...), there(), row(0, 1, 1))
	wantDo(t, "its own one", own, api.Act{Kind: api.ActBring}, two(here(row(0, 1, 1)...), there()), api.OK)
}

// K2: ActLose: it goes from the way; ActAgain: it is last there once more, too. The sites stay as they are.
func TestK2LoseAndAgain(t *testing.T) {
	for at, way := range mixed().Way {
		for n, e := range way {
			want := mixed()
			want.Way[at] = slices.Delete(want.Way[at], n, n+1)
			wantDo(t, "lose", mixed(), api.Act{Kind: api.ActLose, At: at, N: n}, want, api.OK)
			want = mixed()
			want.Way[at] = append(want.Way[at], e)
			wantDo(t, "again", mixed(), api.Act{Kind: api.ActAgain, At: at, N: n}, want, api.OK)
		}
	}
}

// K2: ActAgain: ErrMany, if MaxWay are there; what is on the other way does not count.
func TestK2AgainMany(t *testing.T) {
	for at := range 2 {
		e := row(1-at, 1, 1)[0]
		w := two(here(), there())
		w.Sites[1-at].Log = log(e)
		w.Way[1-at] = times(api.MaxWay, e)
		for many := 1; many < api.MaxWay; many++ {
			w.Way[at] = times(many, e)
			want := two(w.Sites[0], w.Sites[1], w.Way[0], w.Way[1])
			want.Way[at] = times(many+1, e)
			wantDo(t, "room", w, api.Act{Kind: api.ActAgain, At: at, N: many - 1}, want, api.OK)
		}
		w.Way[at] = times(api.MaxWay, e)
		for n := range api.MaxWay {
			wantNoDo(t, "no room", w, api.Act{Kind: api.ActAgain, At: at, N: n}, api.ErrMany)
		}
		wantNoDo(t, "no room, and no such place", w, api.Act{Kind: api.ActAgain, At: at, N: api.MaxWay}, api.ErrNone)
		wantNoDo(t, "no room, and what is not named", w, api.Act{Kind: api.ActAgain, At: at, Colors: 1}, api.ErrForm)
	}
}

// K2: ErrNone, if there is no such place on the way to that site, whatever is on the other one.
func TestK2NoSuchPlace(t *testing.T) {
	for _, kind := range []int{api.ActBring, api.ActLose, api.ActAgain} {
		for at, many := range []int{2, 3} {
			for _, n := range []int{math.MinInt, -1, many, many + 1, 30, math.MaxInt} {
				wantNoDo(t, "mixed", mixed(), api.Act{Kind: kind, At: at, N: n}, api.ErrNone)
			}
			wantNoDo(t, "nothing on the way", world.New(), api.Act{Kind: kind, At: at}, api.ErrNone)
		}
	}
}

// K2: ActAll: all of the other one's region, in order; what is on the ways stays there.
func TestK2All(t *testing.T) {
	a, b := en(0, 1, 1, "a"), en(0, 2, 3, "b", id(0, 1))
	m, n, o := en(1, 1, 2, "m"), en(1, 2, 1, "n", id(0, 1)), en(1, 3, 3, "o", id(1, 1), id(1, 2))
	all0, all1 := here(a, b, m, n, o), there(m, a, n, o, b)
	ways := mixed().Way
	wantDo(t, "at site 0", mixed(), api.Act{Kind: api.ActAll}, two(all0, mixed().Sites[1], ways...), api.OK)
	wantDo(t, "at site 1", mixed(), api.Act{Kind: api.ActAll, At: 1}, two(mixed().Sites[0], all1, ways...), api.OK)
	done := two(all0, all1, ways...)
	for at := range 2 {
		wantDo(t, "again", done, api.Act{Kind: api.ActAll, At: at}, done, api.OK)
		wantDo(t, "of nothing", world.New(), api.Act{Kind: api.ActAll, At: at}, world.New(), api.OK)
	}
	wantSettle(t, "mixed", mixed(), done, api.OK)
	wantSettle(t, "again", done, done, api.OK)
	wantSettle(t, "nothing", world.New(), world.New(), api.OK)
	wantDo(t, "as many as there are", two(here(row(0, 1, 20)...), there(row(1, 1, 20)...)), api.Act{Kind: api.ActAll},
		two(here(slices.Concat(row(0, 1, 20), row(1, 1, 20))...), there(row(1, 1, 20)...)), api.OK)
}
