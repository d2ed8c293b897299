package desk_test

import (
	"math"
	"reflect"
	"slices"
	"testing"

	"cutwater/api"
	"cutwater/desk"
	"cutwater/fold"
	"cutwater/world"
)

func id(region, number int) api.Id { return api.Id{Region: region, Number: number} }

func en(region, number, colors int, text string, links ...api.Id) api.Entry {
	return api.Entry{Id: id(region, number), Colors: colors, Text: text, Links: links}
}

func log(l ...api.Entry) []api.Entry { return l }

func two(a, b []api.Entry) api.World {
	return api.World{Sites: []api.Site{{Log: a}, {Region: 1, Log: b}}, Way: make([][]api.Entry, 2)}
}

func put(at, colors int, text string) api.Act {
	return api.Act{Kind: api.ActAppend, At: at, Colors: colors, Text: text}
}

func bring(at, n int) api.Act { return api.Act{Kind: api.ActBring, At: at, N: n} }

func all(at int) api.Act { return api.Act{Kind: api.ActAll, At: at} }

// plain takes an empty list for none, as P2 does.
func plain(w api.World) api.World {
	var x api.World
	for _, s := range w.Sites {
		x.Sites = append(x.Sites, api.Site{Region: s.Region, Log: plainLog(s.Log), Waits: plainLog(s.Waits)})
	}
	for _, l := range w.Way {
		x.Way = append(x.Way, plainLog(l))
	}
	return x
}

func plainLog(l []api.Entry) []api.Entry {
	var all []api.Entry
	for _, e := range l {
		e.Links = append([]api.Id(nil), e.Links...)
		all = append(all, e)
	}
	return all
}

func same(a, b api.World) bool { return reflect.DeepEqual(plain(a), plain(b)) }

func wantRun(t *testing.T, name string, l []api.Act, want api.World, told ...api.Errno) {
	t.Helper()
	w, got, errno := desk.Run(l)
	if errno != api.OK || !same(w, want) || !slices.Equal(got, told) {
		t.Errorf("%s: Run is\n%v %v %d, must be\n%v %v", name, w, got, errno, want, told)
	}
}

func wantText(t *testing.T, name string, l []api.Entry, colors int, want string, errno api.Errno) {
	t.Helper()
	if s, got := desk.Text(l, colors); s != want || got != errno {
		t.Errorf("%s: Text of colors %d is %q %d, must be %q %d", name, colors, s, got, want, errno)
	}
}

func wantSame(t *testing.T, name string, w api.World, colors int, want bool, errno api.Errno) {
	t.Helper()
	if is, got := desk.Same(w, colors); is != want || got != errno {
		t.Errorf("%s: Same of colors %d is %v %d, must be %v %d", name, colors, is, got, want, errno)
	}
}

// L1: Run: from New on, act by act.
func TestL1Run(t *testing.T) {
	x, y := en(0, 1, 1, "put a x"), en(1, 1, 1, "put a y")
	z := en(0, 2, 1, "put a z", x.Id, y.Id)
	wantRun(t, "none", nil, world.New())
	wantRun(t, "an empty list", []api.Act{}, world.New())
	w := two(log(x), nil)
	w.Way[1] = log(x)
	wantRun(t, "one", []api.Act{put(0, 1, "put a x")}, w, 0)
	w = two(log(x, y, z), log(y, x))
	w.Way[1] = log(z)
	script := []api.Act{put(0, 1, "put a x"), put(1, 1, "put a y"), bring(0, 0), bring(1, 0), put(0, 1, "put a z")}
	wantRun(t, "some", script, w, 0, 0, 0, 0, 0)
	w = two(log(x, y, z), log(y, x, z))
	wantRun(t, "one more", append(script, bring(1, 0)), w, 0, 0, 0, 0, 0, 0)
}

// L1: Run: an act that has an error changes nothing, those behind it go on; each one's errno is told, in its place.
func TestL1RunErrors(t *testing.T) {
	x, y := en(0, 1, 1, "put a x"), en(0, 2, 3, "drop a", id(0, 1))
	wrong := []api.Act{
		{}, {Kind: 6}, put(0, 0, ""), put(0, 1, "thirteen byte"), put(2, 1, ""), {Kind: api.ActAppend, N: 1, Colors: 1},
		bring(1, 1), bring(0, 0), {Kind: api.ActLose, At: 1, N: -1}, {Kind: api.ActAgain, At: 1, N: 2}, {Kind: api.ActAll, Text: "x"}, all(-1),
	}
	told := []api.Errno{api.ErrKind, api.ErrKind, api.ErrRange, api.ErrMany, api.ErrRange, api.ErrForm, api.ErrNone, api.ErrNone, api.ErrNone, api.ErrNone, api.ErrForm, api.ErrRange}
	w := two(log(x, y), nil)
	w.Way[1] = log(x, y)
	l := slices.Concat([]api.Act{put(0, 1, "put a x")}, wrong, []api.Act{put(0, 3, "drop a")})
	wantRun(t, "wrong ones between", l, w, slices.Concat([]api.Errno{0}, told, []api.Errno{0})...)
	for i, a := range wrong[:6] {
		wantRun(t, "one that is wrong, alone", []api.Act{a}, world.New(), told[i])
	}
}

// L1: Run: ErrMany, if there are more than MaxScript, be they wrong or not; P1: nothing comes with it.
func TestL1RunMany(t *testing.T) {
	for _, n := range []int{api.MaxScript - 1, api.MaxScript} {
		w, told, errno := desk.Run(slices.Repeat([]api.Act{put(1, 1, "t")}, n))
		if errno != api.OK || len(told) != n || len(w.Sites[1].Log) != api.MaxNumber || len(w.Sites[0].Log) != 0 {
			t.Errorf("Run of %d acts is %v %v %d", n, w, told, errno)
		}
		for i, e := range told {
			if (i < api.MaxNumber) != (e == api.OK) || e != api.OK && e != api.ErrMany {
				t.Errorf("act %d has error %d", i, e)
			}
		}
	}
	for _, n := range []int{api.MaxScript + 1, api.MaxScript + 2, 1000, 100000} {
		for _, a := range []api.Act{{}, put(0, 1, "t")} {
			w, told, errno := desk.Run(slices.Repeat([]api.Act{a}, n))
			if errno != api.ErrMany || len(told) != 0 || len(w.Sites)+len(w.Way) != 0 {
				t.Errorf("Run of %d acts is %v %v %d", n, w, told, errno)
			}
		}
	}
}

// maps: logs, and what they show.
var maps = []struct {
	name   string
	l      []api.Entry
	colors int
	want   string
}{
	{"nothing", nil, 7, ""},
	{"an empty log", log(), 1, ""},
	{"no op", log(en(0, 1, 1, "hello"), en(0, 2, 1, "put a")), 1, ""},
	{"one", log(en(0, 1, 1, "put a x")), 1, "a=x;"},
	{"long ones", log(en(0, 1, 1, "put abc 019")), 1, "abc=019;"},
	{"dropped", log(en(0, 1, 1, "put a x"), en(0, 2, 1, "drop a", id(0, 1))), 1, ""},
	{"two values", log(en(0, 1, 1, "put a y"), en(1, 1, 1, "put a x")), 1, "a=x,y;"},
	{"three values", log(en(0, 1, 1, "put a y"), en(1, 1, 1, "put a x"), en(1, 2, 1, "put a 7")), 1, "a=7,x,y;"},
	{"one value twice", log(en(0, 1, 1, "put a x"), en(1, 1, 1, "put a x")), 1, "a=x;"},
	{"keys rise", log(en(0, 1, 1, "put b x"), en(0, 2, 1, "put ab x"), en(0, 3, 1, "put a x"), en(0, 4, 1, "put 9 x")), 1, "9=x;a=x;ab=x;b=x;"},
	{"keys with several values", log(en(0, 1, 1, "put b 2"), en(0, 2, 1, "put a 2"), en(1, 1, 1, "put b 1"), en(1, 2, 1, "put a 1")), 1, "a=1,2;b=1,2;"},
	{"one that knew of both", log(en(0, 1, 1, "put a x"), en(1, 1, 1, "put a y"), en(0, 2, 1, "put a z", id(0, 1), id(1, 1))), 1, "a=z;"},
	{"of one color", log(en(0, 1, 1, "put a x"), en(0, 2, 2, "put a y"), en(0, 3, 4, "put a z")), 2, "a=y;"},
	{"of two colors", log(en(0, 1, 1, "put a x"), en(0, 2, 2, "put a y"), en(0, 3, 4, "put a z")), 5, "a=x,z;"},
	{"of all colors", log(en(0, 1, 1, "put a x"), en(0, 2, 2, "put a y"), en(0, 3, 4, "put a z")), 7, "a=x,y,z;"},
}

// wrongLogs: what Check of chapter 5 says.
var wrongLogs = []struct {
	name string
	l    []api.Entry
	want api.Errno
}{
	{"too many", make([]api.Entry, api.MaxLog+1), api.ErrMany},
	{"no entry", log(api.Entry{}), api.ErrRange},
	{"a region far below 0", log(en(math.MinInt, 1, 1, "put a x")), api.ErrRange},
	{"a text too long", log(en(0, 1, 1, "thirteen byte")), api.ErrMany},
	{"twice", log(en(0, 1, 1, "put a x"), en(0, 1, 1, "put a x")), api.ErrTwice},
	{"a gap", log(en(0, 1, 1, "put a x"), en(0, 3, 1, "put a x")), api.ErrState},
	{"a link is missing", log(en(0, 1, 1, "put a x", id(1, 1))), api.ErrNone},
}

var wrongColors = []int{math.MinInt, -1, 0, 8, 9, math.MaxInt}

// L1: Text: of each pair its key, its values, and what is between.
func TestL1Text(t *testing.T) {
	for _, c := range maps {
		wantText(t, c.name, c.l, c.colors, c.want, api.OK)
	}
}

// L1: Text: the errors of Map: Check of the log, then ErrRange of colors.
func TestL1TextErrors(t *testing.T) {
	for _, c := range wrongLogs {
		for colors := 1; colors <= 7; colors++ {
			wantText(t, c.name, c.l, colors, "", c.want)
		}
		for _, colors := range wrongColors {
			wantText(t, c.name, c.l, colors, "", c.want)
		}
	}
	for _, c := range maps {
		for _, colors := range wrongColors {
			wantText(t, c.name, c.l, colors, "", api.ErrRange)
		}
	}
}

// L1: Same: is it one Text? Entries may differ, and what waits does not count.
func TestL1Same(t *testing.T) {
	x, y := en(0, 1, 1, "put a x"), en(1, 1, 2, "put a x")
	z := en(1, 2, 4, "hello")
	wantSame(t, "nothing", world.New(), 7, true, api.OK)
	for colors, is := range []bool{1: false, 2: true, 3: false, 4: true, 5: false, 6: true, 7: false} {
		if colors > 0 {
			wantSame(t, "site 0 has it alone", two(log(x), nil), colors, is, api.OK)
		}
	}
	for colors, is := range []bool{1: true, 2: false, 3: false, 4: true, 5: true, 6: false, 7: false} {
		if colors > 0 {
			wantSame(t, "site 1 has it alone", two(nil, log(y, z)), colors, is, api.OK)
		}
	}
	for colors, is := range []bool{1: false, 2: false, 3: true, 4: true, 5: false, 6: false, 7: true} {
		if colors > 0 {
			wantSame(t, "other entries, the same text", two(log(x), log(y)), colors, is, api.OK)
		}
	}
	for colors := 1; colors <= 7; colors++ {
		wantSame(t, "both have all, in another order", two(log(x, y, z), log(y, z, x)), colors, true, api.OK)
	}
	m, n := en(1, 1, 1, "put a x"), en(1, 2, 1, "put b x")
	w := two(log(), log(m, n))
	w.Sites[0].Waits = log(n)
	wantSame(t, "what waits is not shown", w, 1, false, api.OK)
	w = two(log(x), nil)
	w.Way[1] = log(x)
	wantSame(t, "what is on the way is not shown", w, 1, false, api.OK)
}

// wrongWorlds: what Check of chapter 11 says.
var wrongWorlds = []struct {
	name string
	w    api.World
	want api.Errno
}{
	{"nothing", api.World{}, api.ErrForm},
	{"no ways", api.World{Sites: two(nil, nil).Sites}, api.ErrForm},
	{"one site", api.World{Sites: make([]api.Site, 1), Way: make([][]api.Entry, 2)}, api.ErrForm},
	{"three sites", api.World{Sites: make([]api.Site, 3), Way: make([][]api.Entry, 2)}, api.ErrForm},
	{"a wrong place", api.World{Sites: make([]api.Site, 2), Way: make([][]api.Entry, 2)}, api.ErrState},
	{"a log with an error", two(log(en(0, 1, 1, "", id(1, 1))), nil), api.ErrNone},
	{"a log with an error at site 1", two(nil, log(en(1, 1, 1, ""), en(1, 1, 1, ""))), api.ErrTwice},
	{"a way with too many", api.World{Sites: two(nil, nil).Sites, Way: [][]api.Entry{make([]api.Entry, 31), nil}}, api.ErrMany},
	{"a way with no entry", api.World{Sites: two(nil, nil).Sites, Way: [][]api.Entry{nil, {{}}}}, api.ErrRange},
	{"a strange entry", two(log(en(1, 1, 1, "put a x")), nil), api.ErrState},
}

// L1: Same: Check of the world, then ErrRange of colors; P1: false comes with it.
func TestL1SameErrors(t *testing.T) {
	for _, c := range wrongWorlds {
		for colors := 1; colors <= 7; colors++ {
			wantSame(t, c.name, c.w, colors, false, c.want)
		}
		for _, colors := range wrongColors {
			wantSame(t, c.name, c.w, colors, false, c.want)
		}
	}
	for _, colors := range wrongColors {
		wantSame(t, "nothing", world.New(), colors, false, api.ErrRange)
		wantSame(t, "something", two(log(en(0, 1, 1, "put a x")), nil), colors, false, api.ErrRange)
	}
}

// L1, L2: the document's example.
func TestL2Example(t *testing.T) {
	script := []api.Act{put(0, 1, "put a x"), put(1, 1, "put a y"), bring(0, 0), bring(1, 0)}
	w, _, _ := desk.Run(script)
	for _, s := range w.Sites {
		wantText(t, "nobody knew of the other one", s.Log, 1, "a=x,y;", api.OK)
	}
	wantSame(t, "both have all", w, 1, true, api.OK)
	script = append(script, put(0, 1, "put a z"))
	w, _, _ = desk.Run(script)
	wantText(t, "z alone stands", w.Sites[0].Log, 1, "a=z;", api.OK)
	wantText(t, "z has not come", w.Sites[1].Log, 1, "a=x,y;", api.OK)
	wantSame(t, "z has not come", w, 1, false, api.OK)
	wantSame(t, "z is of no such color", w, 6, true, api.OK)
	w, _, _ = desk.Run(append(script, bring(1, 0)))
	wantText(t, "z has come", w.Sites[1].Log, 1, "a=z;", api.OK)
	wantSame(t, "z has come", w, 1, true, api.OK)
}

// P2: what is handed in is only read, and not kept; the same is answered again.
func TestP2HandedInIsOnlyRead(t *testing.T) {
	room := []api.Act{put(0, 1, "put a x"), put(1, 3, "put b y"), bring(0, 0), {Kind: 9}, put(0, 1, "room"), put(1, 1, "room")}
	before := slices.Clone(room)
	want, wantTold, _ := desk.Run(room[:4])
	want = plain(want)
	for range 2 {
		w, told, errno := desk.Run(room[:4])
		if errno != api.OK || !same(w, want) || !slices.Equal(told, wantTold) || !slices.Equal(room, before) {
			t.Fatalf("Run is %v %v %d; the script is %v", w, told, errno, room)
		}
		w.Sites[0].Log[0].Text, w.Way[1][0].Text = "spoilt", "spoilt"
		for i := range told {
			told[i] = 99
		}
	}
	for _, c := range maps {
		l := append(plainLog(c.l), en(0, 9, 9, "room", id(9, 9)))
		was := plainLog(l)
		desk.Text(l[:len(c.l)], c.colors)
		w := two(l[:len(c.l)], l[:len(c.l)])
		desk.Same(w, c.colors)
		if !reflect.DeepEqual(l, was) {
			t.Fatalf("%s: %v was handed in, and is %v", c.name, was, l)
		}
	}
}

// L1: Text tells just what Map has.
func TestL1TextOfMap(t *testing.T) {
	d := draw(19)
	for range 60 {
		w, _, _ := desk.Run(d.script(api.MaxScript))
		for _, s := range w.Sites {
			for colors := 1; colors <= 7; colors++ {
				pairs, _ := fold.Map(s.Log, colors)
				want := ""
				for _, p := range pairs {
					want += p.Key + "="
					for i, v := range p.Values {
						if i > 0 {
							want += ","
						}
						want += v
					}
					want += ";"
				}
				wantText(t, "drawn", s.Log, colors, want, api.OK)
			}
		}
	}
}
