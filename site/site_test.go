package site_test

import (
	"math"
	"reflect"
	"slices"
	"strings"
	"testing"

	"cutwater/api"
	"cutwater/dag"
	"cutwater/site"
)

func id(region, number int) api.Id { return api.Id{Region: region, Number: number} }

func en(region, number, colors int, text string, links ...api.Id) api.Entry {
	return api.Entry{Id: id(region, number), Colors: colors, Text: text, Links: links}
}

func ids(l ...api.Id) []api.Id { return l }

func log(l ...api.Entry) []api.Entry { return l }

// row: entries of a region from one number to another one, that link to nothing.
func row(region, from, to int) []api.Entry {
	var l []api.Entry
	for n := from; n <= to; n++ {
		l = append(l, en(region, n, 1, "r"))
	}
	return l
}

// stuck: as many waits of region 1 as there may be; the first one lacks its link to (0, 1).
func stuck() []api.Entry {
	l := row(1, 1, api.MaxNumber)
	l[0].Links = ids(id(0, 1))
	return l
}

// plain takes an empty list for none, as P2 does.
func plain(l []api.Entry) []api.Entry {
	var all []api.Entry
	for _, e := range l {
		e.Links = append([]api.Id(nil), e.Links...)
		all = append(all, e)
	}
	return all
}

func same(a, b api.Site) bool {
	return a.Region == b.Region && sameEntries(a.Log, b.Log) && sameEntries(a.Waits, b.Waits)
}

func sameEntries(a, b []api.Entry) bool { return reflect.DeepEqual(plain(a), plain(b)) }

// isZero: P1: nothing comes with an error, neither a list nor anything else.
func isZero(s api.Site) bool { return s.Region == 0 && len(s.Log) == 0 && len(s.Waits) == 0 }

func wantCheck(t *testing.T, name string, s api.Site, want api.Errno) {
	t.Helper()
	if got := site.Check(s); got != want {
		t.Errorf("%s: Check is %d, must be %d", name, got, want)
	}
}

// wantReceive: the site then; of an error want is nothing.
func wantReceive(t *testing.T, name string, s api.Site, e api.Entry, want api.Site, errno api.Errno) {
	t.Helper()
	x, got := site.Receive(s, e)
	if got != errno || errno == api.OK && !same(x, want) || errno != api.OK && !isZero(x) {
		t.Errorf("%s: Receive is %v %d, must be %v %d", name, x, got, want, errno)
	}
}

func wantAppend(t *testing.T, name string, s api.Site, colors int, text string, want api.Site, e api.Entry) {
	t.Helper()
	x, y, got := site.Append(s, colors, text)
	if got != api.OK || !same(x, want) || !sameEntries(log(y), log(e)) {
		t.Errorf("%s: Append is %v %v %d, must be %v %v", name, x, y, got, want, e)
	}
}

func wantNoAppend(t *testing.T, name string, s api.Site, colors int, text string, errno api.Errno) {
	t.Helper()
	x, y, got := site.Append(s, colors, text)
	if got != errno || !isZero(x) || !reflect.DeepEqual(plain(log(y)), log(api.Entry{})) {
		t.Errorf("%s: Append is %v %v %d, must be of %d", name, x, y, got, errno)
	}
}

// G1: New: a site of each region, without entries; no other region.
func TestG1New(t *testing.T) {
	for region := range 2 {
		s, errno := site.New(region)
		if !same(s, api.Site{Region: region}) || errno != api.OK {
			t.Errorf("New(%d) is %v %d", region, s, errno)
		}
		wantCheck(t, "a new one", s, api.OK)
	}
	for _, region := range []int{math.MinInt, -1, 2, 3, 256, math.MaxInt} {
		if s, errno := site.New(region); !isZero(s) || errno != api.ErrRange {
			t.Errorf("New(%d) is %v %d", region, s, errno)
		}
	}
}

// goodSites: Check has nothing to say of these.
var goodSites = []struct {
	name string
	s    api.Site
}{
	{"nothing", api.Site{}},
	{"nothing, region 1", api.Site{Region: 1}},
	{"empty lists", api.Site{Log: log(), Waits: log()}},
	{"entries of both regions", api.Site{Log: log(en(1, 1, 1, "a"), en(0, 1, 2, "b", id(1, 1)))}},
	{"entries of the other region alone", api.Site{Log: row(1, 1, 20)}},
	{"all that a log may have", api.Site{Log: slices.Concat(row(0, 1, 20), row(1, 1, 20))}},
	{"a wait whose number is not the next one", api.Site{Waits: row(1, 2, 2)}},
	{"a wait of the greatest number", api.Site{Waits: row(1, 20, 20)}},
	{"a wait that lacks a link alone", api.Site{Waits: log(en(1, 1, 1, "", id(0, 1)))}},
	{"a wait that lacks one of two links", api.Site{Log: row(0, 1, 1), Waits: log(en(1, 1, 1, "", id(0, 1), id(0, 2)))}},
	{"a wait that lacks a link to another wait", api.Site{Log: row(1, 1, 1), Waits: log(en(1, 2, 1, "", id(0, 9)), en(1, 3, 1, "", id(1, 2)))}},
	{"a wait behind what the log has", api.Site{Log: row(1, 1, 3), Waits: row(1, 5, 7)}},
	{"waits with gaps", api.Site{Waits: log(en(1, 2, 1, ""), en(1, 5, 1, ""), en(1, 9, 1, ""))}},
	{"as many waits as there may be", api.Site{Waits: stuck()}},
	{"waits of region 0", api.Site{Region: 1, Waits: log(en(0, 1, 1, "", id(1, 1)), en(0, 2, 1, ""))}},
}

// wrongSites: Check's errors, and which is told first.
var wrongSites = []struct {
	name string
	s    api.Site
	want api.Errno
}{
	{"region 2", api.Site{Region: 2}, api.ErrRange},
	{"region below 0", api.Site{Region: -1}, api.ErrRange},
	{"region far too great", api.Site{Region: math.MaxInt}, api.ErrRange},
	{"region far below 0", api.Site{Region: math.MinInt}, api.ErrRange},
	{"log: too many", api.Site{Log: make([]api.Entry, api.MaxLog+1)}, api.ErrMany},
	{"log: no color", api.Site{Log: log(en(0, 1, 0, ""))}, api.ErrRange},
	{"log: twice", api.Site{Log: log(en(1, 1, 1, ""), en(1, 1, 1, ""))}, api.ErrTwice},
	{"log: a number is missing", api.Site{Log: log(en(0, 2, 1, ""))}, api.ErrState},
	{"log: a link is missing", api.Site{Log: log(en(0, 1, 1, "", id(1, 1)))}, api.ErrNone},
	{"too many waits", api.Site{Waits: append(stuck(), en(1, 21, 1, ""))}, api.ErrMany},
	{"far too many waits", api.Site{Waits: make([]api.Entry, 100000)}, api.ErrMany},
	{"wait: nothing", api.Site{Waits: make([]api.Entry, 1)}, api.ErrRange},
	{"wait: number 21", api.Site{Waits: row(1, 21, 21)}, api.ErrRange},
	{"wait: region 2", api.Site{Waits: row(2, 2, 2)}, api.ErrRange},
	{"wait: region below 0", api.Site{Waits: row(-1, 2, 2)}, api.ErrRange},
	{"wait: text too long", api.Site{Waits: log(en(1, 2, 1, "thirteen byte"))}, api.ErrMany},
	{"wait: too many links", api.Site{Waits: log(en(1, 9, 1, "", make([]api.Id, 7)...))}, api.ErrMany},
	{"wait: a link to itself", api.Site{Waits: log(en(1, 2, 1, "", id(1, 2)))}, api.ErrState},
	{"wait: they fall", api.Site{Waits: log(en(1, 3, 1, ""), en(1, 2, 1, ""))}, api.ErrState},
	{"wait: one twice", api.Site{Waits: log(en(1, 3, 1, ""), en(1, 3, 1, ""))}, api.ErrState},
	{"wait: the last one falls", api.Site{Waits: log(en(1, 3, 1, ""), en(1, 5, 1, ""), en(1, 4, 1, ""))}, api.ErrState},
	{"wait: of its own region", api.Site{Waits: row(0, 2, 2)}, api.ErrState},
	{"wait: of its own region, 1", api.Site{Region: 1, Waits: row(1, 2, 2)}, api.ErrState},
	{"wait: of its own region, the first one of two", api.Site{Waits: log(en(0, 2, 1, ""), en(1, 2, 1, ""))}, api.ErrState},
	{"wait: in the log", api.Site{Log: row(1, 1, 1), Waits: row(1, 1, 1)}, api.ErrState},
	{"wait: in the log, though it says something else and lacks a link", api.Site{Log: row(1, 1, 3), Waits: log(en(1, 2, 4, "other", id(0, 7)))}, api.ErrState},
	{"wait: ready, without links", api.Site{Waits: row(1, 1, 1)}, api.ErrState},
	{"wait: ready, its links are there", api.Site{Log: slices.Concat(row(0, 1, 2), row(1, 1, 1)), Waits: log(en(1, 2, 1, "", id(0, 2), id(1, 1)))}, api.ErrState},
	{"wait: ready, ahead of others", api.Site{Waits: row(1, 1, 20)}, api.ErrState},
	{"region ahead of the log", api.Site{Region: 2, Log: make([]api.Entry, api.MaxLog+1)}, api.ErrRange},
	{"region ahead of waits", api.Site{Region: 2, Waits: make([]api.Entry, 21)}, api.ErrRange},
	{"log ahead of too many waits", api.Site{Log: log(en(0, 1, 1, "", id(1, 1))), Waits: make([]api.Entry, 21)}, api.ErrNone},
	{"log ahead of a wait", api.Site{Log: log(en(0, 1, 1, ""), en(0, 1, 1, "")), Waits: row(0, 2, 2)}, api.ErrTwice},
	{"too many waits ahead of a wrong one", api.Site{Waits: row(2, 1, 21)}, api.ErrMany},
	{"too many waits ahead of one that is ready", api.Site{Waits: row(1, 1, 21)}, api.ErrMany},
	{"a wait's range ahead of its own state", api.Site{Waits: log(en(1, 3, 1, ""), en(1, 2, 0, ""))}, api.ErrRange},
	{"a wait's text ahead of being ready", api.Site{Waits: log(en(1, 1, 1, "thirteen byte"))}, api.ErrMany},
	{"a wait's colors ahead of its own region", api.Site{Waits: log(en(0, 2, 8, ""))}, api.ErrRange},
	{"the first wait's state ahead of the second one's range", api.Site{Waits: log(en(1, 1, 1, ""), en(1, 2, 0, ""))}, api.ErrState},
	{"the first wait's range ahead of the second one's state", api.Site{Waits: log(en(1, 2, 0, ""), en(1, 1, 1, ""))}, api.ErrRange},
	{"the first wait's text ahead of the second one's range", api.Site{Waits: log(en(1, 2, 1, "thirteen byte"), en(1, 3, 0, ""))}, api.ErrMany},
}

// G1: Check: what a site may be, and what not.
func TestG1Check(t *testing.T) {
	for _, c := range goodSites {
		wantCheck(t, c.name, c.s, api.OK)
	}
	for _, c := range wrongSites {
		wantCheck(t, c.name, c.s, c.want)
	}
}

// G2, G3: Check is told ahead of all else; P1: nothing comes with it.
func TestG2G3CheckFirst(t *testing.T) {
	for _, c := range wrongSites {
		for _, colors := range []int{1, 0, 8} {
			for _, text := range []string{"t", "thirteen byte"} {
				wantNoAppend(t, c.name, c.s, colors, text, c.want)
			}
		}
		for _, e := range []api.Entry{{}, en(1, 1, 1, "r"), en(0, 9, 1, ""), en(1, 5, 1, "thirteen byte")} {
			wantReceive(t, c.name, c.s, e, api.Site{}, c.want)
		}
	}
}

// mixed: a site of region 0 that knows of both; (1, 4) waits for (0, 3) and (1, 3).
func mixed() api.Site {
	return api.Site{
		Log:   log(en(0, 1, 1, "a"), en(0, 2, 2, "b"), en(1, 1, 3, "m", id(0, 1)), en(1, 2, 1, "n", id(1, 1))),
		Waits: log(en(1, 4, 1, "p", id(0, 3), id(1, 3))),
	}
}

// G2: Append: of the site's region, of the next number, behind all, with links to the heads of its colors.
func TestG2Append(t *testing.T) {
	for _, c := range []struct {
		colors int
		links  []api.Id
	}{
		{1, ids(id(1, 2))},
		{2, ids(id(0, 2), id(1, 1))},
		{3, ids(id(0, 2), id(1, 2))},
		{4, nil},
		{5, ids(id(1, 2))},
		{6, ids(id(0, 2), id(1, 1))},
		{7, ids(id(0, 2), id(1, 2))},
	} {
		s := mixed()
		e := en(0, 3, c.colors, "new", c.links...)
		wantAppend(t, "region 0", s, c.colors, "new", api.Site{Log: append(s.Log, e), Waits: s.Waits}, e)
		other := api.Site{Region: 1, Log: s.Log}
		e.Id = id(1, 3)
		wantAppend(t, "region 1", other, c.colors, "new", api.Site{Region: 1, Log: append(other.Log, e)}, e)
	}
	for region := range 2 {
		e := en(region, 1, 7, "")
		wantAppend(t, "the first one", api.Site{Region: region}, 7, "", api.Site{Region: region, Log: log(e)}, e)
	}
}

// G2: behind what is appended goes whatever of Waits is ready then, one behind the other.
func TestG2AppendReadies(t *testing.T) {
	p, q, far := en(1, 1, 2, "p", id(0, 1)), en(1, 2, 2, "q"), en(1, 4, 2, "far")
	e := en(0, 1, 1, "a")
	wantAppend(t, "two that waited", api.Site{Waits: log(p, q, far)}, 1, "a", api.Site{Log: log(e, p, q), Waits: log(far)}, e)

	e = en(0, 1, 4, "a")
	all := stuck()
	wantAppend(t, "as many as may wait", api.Site{Waits: all}, 4, "a", api.Site{Log: append(log(e), all...)}, e)

	w := en(1, 1, 1, "w", id(0, 2))
	wantAppend(t, "it waits for a later one", api.Site{Waits: log(w)}, 1, "a", api.Site{Log: log(en(0, 1, 1, "a")), Waits: log(w)}, en(0, 1, 1, "a"))

	w = en(0, 1, 1, "w", id(1, 1))
	e = en(1, 1, 1, "a")
	wantAppend(t, "region 1", api.Site{Region: 1, Waits: log(w)}, 1, "a", api.Site{Region: 1, Log: log(e, w)}, e)
}

// heads: a log with so many of region 1 that link to nothing.
func heads(many int) api.Site { return api.Site{Log: row(1, 1, many)} }

// G2: as much as there may be, and one more.
func TestG2AppendLimits(t *testing.T) {
	e := en(0, 1, 2, "twelve bytes")
	wantAppend(t, "the longest text", api.Site{}, 2, "twelve bytes", api.Site{Log: log(e)}, e)
	wantNoAppend(t, "text too long", api.Site{}, 2, "thirteen byte", api.ErrMany)
	wantNoAppend(t, "text far too long", mixed(), 2, strings.Repeat("x", 1<<20), api.ErrMany)

	e = en(0, 1, 1, "t", id(1, 1), id(1, 2), id(1, 3), id(1, 4), id(1, 5), id(1, 6))
	wantAppend(t, "all links that may be", heads(6), 1, "t", api.Site{Log: append(heads(6).Log, e)}, e)
	wantNoAppend(t, "too many links", heads(7), 1, "t", api.ErrMany)
	wantNoAppend(t, "far too many links", heads(20), 5, "t", api.ErrMany)
	e = en(0, 1, 2, "t")
	wantAppend(t, "many of another color", heads(20), 2, "t", api.Site{Log: append(heads(20).Log, e)}, e)

	for region := range 2 {
		s := api.Site{Region: region, Log: slices.Concat(row(1-region, 1, 20), row(region, 1, 19))}
		e = en(region, 20, 4, "t")
		wantAppend(t, "the last one", s, 4, "t", api.Site{Region: region, Log: append(s.Log, e)}, e)
		s.Log = slices.Concat(row(region, 1, 20), row(1-region, 1, 20))
		wantNoAppend(t, "the log is full", s, 4, "t", api.ErrMany)
		s.Log = row(region, 1, 20)
		wantNoAppend(t, "the region is full", s, 4, "t", api.ErrMany)
	}
}

// G2: colors that are none, ahead of whatever is too many.
func TestG2AppendColors(t *testing.T) {
	for _, colors := range []int{math.MinInt, -8, -1, 0, 8, 9, 15, math.MaxInt} {
		wantNoAppend(t, "colors", api.Site{}, colors, "t", api.ErrRange)
		wantNoAppend(t, "ahead of the text", mixed(), colors, "thirteen byte", api.ErrRange)
		wantNoAppend(t, "ahead of the links", heads(7), colors, "t", api.ErrRange)
		wantNoAppend(t, "ahead of the number", api.Site{Log: row(0, 1, 20)}, colors, "t", api.ErrRange)
	}
}

// G2: so what is appended links, in the end, to all that the site has of its colors.
func TestG2AppendKnowsAll(t *testing.T) {
	s, e, errno := site.Append(mixed(), 3, "c")
	if errno != api.OK {
		t.Fatalf("Append has error %d", errno)
	}
	past, errno := dag.Past(s.Log, e.Id)
	if !slices.Equal(past, ids(id(0, 1), id(0, 2), id(1, 1), id(1, 2))) || errno != api.OK {
		t.Errorf("the past of what was appended is %v %d", past, errno)
	}
}

// G3: Receive: what is there, or waits, by its id, changes nothing, whatever else it says.
func TestG3ReceiveAgain(t *testing.T) {
	s := mixed()
	for _, e := range append(slices.Clone(s.Log), s.Waits...) {
		wantReceive(t, "again", s, e, s, api.OK)
		wantReceive(t, "another one of its id", s, api.Entry{Id: e.Id, Colors: 7, Text: "other"}, s, api.OK)
	}
	wantReceive(t, "one of its own, with a link that is not there", s, en(0, 2, 1, "x", id(1, 9)), s, api.OK)
	wantReceive(t, "a wait that would be ready by its links, but not by its number", s, en(1, 4, 1, "x"), s, api.OK)
	full := api.Site{Log: slices.Concat(row(1, 1, 20), row(0, 1, 20))}
	wantReceive(t, "the log is full", full, en(1, 20, 1, "x"), full, api.OK)
	many := api.Site{Waits: stuck()}
	wantReceive(t, "as many wait as may", many, en(1, 20, 1, "x"), many, api.OK)
}

// G3: Receive: it waits, or goes to the end of the log, and others that waited behind it.
func TestG3Receive(t *testing.T) {
	s := mixed()
	o := en(1, 3, 1, "o", id(1, 2))
	p := s.Waits[0]
	for _, c := range []struct {
		name       string
		s          api.Site
		e          api.Entry
		log, waits []api.Entry
	}{
		{"ready", api.Site{}, en(1, 1, 1, "m"), log(en(1, 1, 1, "m")), nil},
		{"not the next number", api.Site{}, en(1, 2, 1, "n"), nil, log(en(1, 2, 1, "n"))},
		{"a link is not there", api.Site{}, en(1, 1, 1, "m", id(0, 1)), nil, log(en(1, 1, 1, "m", id(0, 1)))},
		{"one link of two is not there", s, en(1, 3, 1, "o", id(0, 2), id(0, 3)), s.Log, log(en(1, 3, 1, "o", id(0, 2), id(0, 3)), p)},
		{"ready, what waits lacks a link", s, o, append(slices.Clone(s.Log), o), log(p)},
		{"between two waits", api.Site{Waits: log(en(1, 2, 1, ""), en(1, 5, 1, ""))}, en(1, 3, 1, ""), nil, log(en(1, 2, 1, ""), en(1, 3, 1, ""), en(1, 5, 1, ""))},
		{"ahead of the waits", api.Site{Waits: row(1, 4, 5)}, en(1, 2, 1, ""), nil, log(en(1, 2, 1, ""), en(1, 4, 1, "r"), en(1, 5, 1, "r"))},
		{"behind the waits", api.Site{Waits: row(1, 2, 3)}, en(1, 9, 1, ""), nil, append(row(1, 2, 3), en(1, 9, 1, ""))},
		{"others go behind it", api.Site{Waits: row(1, 2, 4)}, en(1, 1, 1, "r"), row(1, 1, 4), nil},
		{"as many as may be go behind it", api.Site{Waits: row(1, 2, 20)}, en(1, 1, 1, "r"), row(1, 1, 20), nil},
		{"some go behind it, up to a gap", api.Site{Waits: append(row(1, 2, 4), row(1, 6, 7)...)}, en(1, 1, 1, "r"), row(1, 1, 4), row(1, 6, 7)},
		{"as many wait then as may", api.Site{Waits: stuck()[1:]}, stuck()[0], nil, stuck()},
		{"region 1", api.Site{Region: 1, Log: row(1, 1, 1)}, en(0, 1, 1, "a", id(1, 1)), log(en(1, 1, 1, "r"), en(0, 1, 1, "a", id(1, 1))), nil},
		{"the last one that there may be", api.Site{Log: slices.Concat(row(0, 1, 20), row(1, 1, 19))}, en(1, 20, 1, "r"), slices.Concat(row(0, 1, 20), row(1, 1, 20)), nil},
	} {
		wantReceive(t, c.name, c.s, c.e, api.Site{Region: c.s.Region, Log: c.log, Waits: c.waits}, api.OK)
	}
}

// G3: Receive: wrong entries, and one of the site's own that it does not have.
func TestG3ReceiveErrors(t *testing.T) {
	for _, c := range []struct {
		name string
		s    api.Site
		e    api.Entry
		want api.Errno
	}{
		{"nothing", mixed(), api.Entry{}, api.ErrRange},
		{"region 2", mixed(), en(2, 1, 1, ""), api.ErrRange},
		{"number 21", mixed(), en(1, 21, 1, ""), api.ErrRange},
		{"number below 0", mixed(), en(1, math.MinInt, 1, ""), api.ErrRange},
		{"no color", mixed(), en(1, 9, 0, ""), api.ErrRange},
		{"text too long", mixed(), en(1, 9, 1, "thirteen byte"), api.ErrMany},
		{"too many links", mixed(), en(1, 9, 1, "", make([]api.Id, 7)...), api.ErrMany},
		{"far too many links", mixed(), en(1, 9, 1, "", make([]api.Id, 1<<20)...), api.ErrMany},
		{"a link to itself", mixed(), en(1, 9, 1, "", id(1, 9)), api.ErrState},
		{"a link to no region", mixed(), en(1, 9, 1, "", id(2, 1)), api.ErrRange},
		{"its own", mixed(), en(0, 9, 1, "x"), api.ErrState},
		{"its own, of the next number", mixed(), en(0, 3, 1, "x"), api.ErrState},
		{"its own, nothing is there", api.Site{}, en(0, 1, 1, "x"), api.ErrState},
		{"its own, region 1", api.Site{Region: 1}, en(1, 1, 1, "x"), api.ErrState},
		{"wrong, though its id is in the log", mixed(), en(1, 1, 0, "x"), api.ErrRange},
		{"wrong, though its id waits", mixed(), en(1, 4, 1, "thirteen byte"), api.ErrMany},
		{"wrong, though its own id is in the log", mixed(), en(0, 1, 8, "x"), api.ErrRange},
		{"wrong, ahead of its own", mixed(), en(0, 9, 1, "thirteen byte"), api.ErrMany},
	} {
		wantReceive(t, c.name, c.s, c.e, api.Site{}, c.want)
	}
}
