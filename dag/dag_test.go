package dag_test

import (
	"math"
	"slices"
	"strings"
	"testing"

	"cutwater/api"
	"cutwater/dag"
)

func id(region, number int) api.Id { return api.Id{Region: region, Number: number} }

func en(region, number, colors int, links ...api.Id) api.Entry {
	return api.Entry{Id: id(region, number), Colors: colors, Links: links}
}

func ids(l ...api.Id) []api.Id { return l }

func log(l ...api.Entry) []api.Entry { return l }

// alone: entries without links, by turns of region 0 and of region 1.
func alone(count int) []api.Entry {
	var l []api.Entry
	for n := range count {
		l = append(l, en(n%2, n/2+1, 1))
	}
	return l
}

// row: entries of one region without links.
func row(region, count int) []api.Entry {
	var l []api.Entry
	for n := range count {
		l = append(l, en(region, n+1, 1))
	}
	return l
}

// saying: the same entry, with a text.
func saying(e api.Entry, text string) api.Entry {
	e.Text = text
	return e
}

var (
	long     = strings.Repeat("x", api.MaxWords+1)
	sixAhead = ids(id(0, 1), id(0, 2), id(0, 3), id(0, 4), id(0, 5), id(0, 6))
	good     = en(0, 1, 1)
)

var checks = []struct {
	name string
	l    []api.Entry
	want api.Errno
}{
	{"nothing", nil, api.OK},
	{"an empty list", log(), api.OK},
	{"one", log(good), api.OK},
	{"one of region 1", log(en(1, 1, 7)), api.OK},
	{"each region has its own numbers", log(en(0, 1, 1), en(1, 1, 1), en(1, 2, 1), en(0, 2, 1)), api.OK},
	{"one region behind the other", append(row(1, 20), row(0, 20)...), api.OK},
	{"as many as may be", alone(api.MaxLog), api.OK},
	{"a link to the one ahead", log(good, en(0, 2, 1, id(0, 1))), api.OK},
	{"a link to the other region", log(en(1, 1, 1), en(0, 1, 1, id(1, 1))), api.OK},
	{"a link to a greater number of the other region", log(en(1, 1, 1), en(1, 2, 1), en(0, 1, 1, id(1, 2))), api.OK},
	{"a link across another color", log(en(0, 1, 1), en(0, 2, 2, id(0, 1)), en(0, 3, 4, id(0, 2))), api.OK},
	{"links to both", log(en(0, 1, 1), en(1, 1, 1), en(1, 2, 1, id(0, 1), id(1, 1))), api.OK},
	{"links that are in one another's past", log(en(0, 1, 1), en(0, 2, 1, id(0, 1)), en(0, 3, 1, id(0, 1), id(0, 2))), api.OK},
	{"as many links as may be", append(row(0, 6), en(0, 7, 1, sixAhead...)), api.OK},
	{"a text as long as may be", log(saying(good, long[1:])), api.OK},

	{"one too many", append(alone(40), en(0, 21, 1)), api.ErrMany},
	{"one too many, which is there already", append(alone(40), en(0, 1, 1)), api.ErrMany},
	{"far too many", make([]api.Entry, 5000), api.ErrMany},

	{"an entry of nothing", log(api.Entry{}), api.ErrRange},
	{"region 2", log(en(2, 1, 1)), api.ErrRange},
	{"region below 0", log(good, en(-1, 1, 1)), api.ErrRange},
	{"region far below 0", log(en(math.MinInt, 1, 1)), api.ErrRange},
	{"region far too great", log(en(math.MaxInt, 1, 1)), api.ErrRange},
	{"number 0", log(en(0, 0, 1)), api.ErrRange},
	{"number below 0", log(good, en(1, math.MinInt, 1)), api.ErrRange},
	{"number too great", append(row(0, 20), en(0, 21, 1)), api.ErrRange},
	{"no color", log(en(0, 1, 0)), api.ErrRange},
	{"colors too great", log(good, en(0, 2, 8)), api.ErrRange},
	{"a text too long", log(saying(good, long)), api.ErrMany},
	{"too many links", append(row(0, 7), en(0, 8, 1, append(sixAhead[:6:6], id(0, 7))...)), api.ErrMany},
	{"a link of no region", log(good, en(0, 2, 1, id(2, 1))), api.ErrRange},
	{"a link of no number", log(good, en(0, 2, 1, id(0, 0))), api.ErrRange},
	{"a link to itself", log(good, en(0, 2, 1, id(0, 2))), api.ErrState},
	{"a link to one behind, of its region", log(en(0, 1, 1, id(0, 2)), en(0, 2, 1)), api.ErrState},
	{"links fall", log(en(0, 1, 1), en(1, 1, 1), en(0, 2, 1, id(1, 1), id(0, 1))), api.ErrState},
	{"a link twice", log(good, en(0, 2, 1, id(0, 1), id(0, 1))), api.ErrState},

	{"twice", log(good, good), api.ErrTwice},
	{"twice, another one between", log(good, en(1, 1, 1), en(0, 1, 2)), api.ErrTwice},
	{"twice, an elder one", log(en(1, 1, 1), en(1, 2, 1), en(1, 1, 1)), api.ErrTwice},
	{"twice, the last place", append(alone(39), en(1, 19, 1)), api.ErrTwice},
	{"the first one is number 2", log(en(0, 2, 1)), api.ErrState},
	{"the first one of region 1 is number 2", log(good, en(1, 2, 1)), api.ErrState},
	{"a number is missing", log(good, en(0, 3, 1)), api.ErrState},
	{"numbers fall", log(en(1, 2, 1), en(1, 1, 1)), api.ErrState},
	{"a link to one that stands behind", log(en(0, 1, 1, id(1, 1)), en(1, 1, 1)), api.ErrNone},
	{"a link to one that is not there", log(good, en(0, 2, 1, id(1, 20))), api.ErrNone},
	{"the second link is not there", log(good, en(0, 2, 1, id(0, 1), id(1, 1))), api.ErrNone},
	{"a link to one another", log(en(0, 1, 1, id(1, 1)), en(1, 1, 1, id(0, 1))), api.ErrNone},

	{"many ahead of an entry's range", append(alone(40), api.Entry{}), api.ErrMany},
	{"many ahead of the first one's state", append(log(en(0, 2, 1)), alone(40)...), api.ErrMany},
	{"many ahead of twice", append(alone(40), alone(40)...), api.ErrMany},
	{"an entry's range ahead of twice", log(good, en(0, 1, 0)), api.ErrRange},
	{"an entry's text ahead of twice", log(good, saying(good, long)), api.ErrMany},
	{"an entry's range ahead of its state", log(en(0, 2, 8)), api.ErrRange},
	{"an entry's text ahead of its state", log(saying(en(0, 2, 1), long)), api.ErrMany},
	{"a link's range ahead of twice", log(good, en(0, 1, 1, id(2, 1))), api.ErrRange},
	{"a link's state ahead of twice", log(good, en(0, 1, 1, id(0, 1))), api.ErrState},
	{"a link's range ahead of one not there", log(en(0, 1, 1, id(1, 1), id(1, 21))), api.ErrRange},
	{"a link's state ahead of one not there", log(en(0, 1, 1, id(1, 2), id(1, 1))), api.ErrState},
	{"twice ahead of a link not there", log(good, en(0, 1, 1, id(1, 1))), api.ErrTwice},
	{"twice ahead of its state", log(en(0, 1, 1), en(0, 2, 1), en(0, 3, 1), en(0, 2, 1)), api.ErrTwice},
	{"its state ahead of a link not there", log(en(0, 2, 1, id(0, 1))), api.ErrState},

	{"the first one's link ahead of the second one's range", log(en(0, 1, 1, id(1, 1)), en(1, 1, 0)), api.ErrNone},
	{"the first one's state ahead of the second one's text", log(en(0, 2, 1), saying(en(1, 1, 1), long)), api.ErrState},
	{"twice ahead of a later one's range", log(good, good, api.Entry{}), api.ErrTwice},
	{"a state ahead of a later one twice", log(good, en(1, 2, 1), good), api.ErrState},
	{"a link not there ahead of a later state", log(en(0, 1, 1, id(1, 1)), en(1, 2, 1)), api.ErrNone},
}

// E1: what Check says, and which error is told first.
func TestE1Check(t *testing.T) {
	for _, c := range checks {
		if got := dag.Check(c.l); got != c.want {
			t.Errorf("%s: Check is %d, must be %d", c.name, got, c.want)
		}
	}
}

// wantIds: an answer of ids; P1: none, if there is an error.
func wantIds(t *testing.T, name string, l []api.Id, got api.Errno, x []api.Id, errno api.Errno) {
	t.Helper()
	if !slices.Equal(l, x) || got != errno {
		t.Errorf("%s: it is %v %d, must be %v %d", name, l, got, x, errno)
	}
}

func wantCount(t *testing.T, name string, l []api.Entry, x api.Vector, errno api.Errno) {
	t.Helper()
	if v, got := dag.Count(l); v != x || got != errno {
		t.Errorf("%s: Count is %v %d, must be %v %d", name, v, got, x, errno)
	}
}

// E1: Check is told ahead of all else by every call; P1: nothing comes with it.
func TestE1CheckFirst(t *testing.T) {
	for _, c := range checks {
		if c.want == api.OK {
			continue
		}
		for _, x := range []api.Id{{}, id(0, 1), id(1, 1), id(1, 20), id(2, 1), id(-1, math.MinInt)} {
			past, errno := dag.Past(c.l, x)
			wantIds(t, c.name+": Past", past, errno, nil, c.want)
		}
		for _, colors := range []int{math.MinInt, -1, 0, 1, 7, 8, math.MaxInt} {
			heads, errno := dag.Heads(c.l, colors)
			wantIds(t, c.name+": Heads", heads, errno, nil, c.want)
		}
		wantCount(t, c.name, c.l, api.Vector{}, c.want)
	}
}

// mixed: two regions, links that meet again, one that stands by itself.
func mixed() []api.Entry {
	return log(
		en(1, 1, 1),
		en(0, 1, 2),
		en(1, 2, 4, id(1, 1)),
		en(0, 2, 1, id(0, 1), id(1, 1)),
		en(1, 3, 2, id(0, 2), id(1, 2)),
		en(0, 3, 5),
		en(0, 4, 6, id(0, 2)),
		en(0, 5, 1, id(0, 3), id(0, 4), id(1, 3)),
	)
}

// E1: Past: what an entry links to, and what that does; rising, each once, itself not.
func TestE1Past(t *testing.T) {
	for _, c := range []struct {
		of   api.Id
		want []api.Id
	}{
		{id(1, 1), nil},
		{id(0, 1), nil},
		{id(1, 2), ids(id(1, 1))},
		{id(0, 2), ids(id(0, 1), id(1, 1))},
		{id(1, 3), ids(id(0, 1), id(0, 2), id(1, 1), id(1, 2))},
		{id(0, 3), nil},
		{id(0, 4), ids(id(0, 1), id(0, 2), id(1, 1))},
		{id(0, 5), ids(id(0, 1), id(0, 2), id(0, 3), id(0, 4), id(1, 1), id(1, 2), id(1, 3))},
	} {
		past, errno := dag.Past(mixed(), c.of)
		wantIds(t, "Past", past, errno, c.want, api.OK)
	}
}

// E1: Past goes on through as many as there may be.
func TestE1PastIsLong(t *testing.T) {
	l := alone(api.MaxLog)
	for i := range l[1:] {
		l[i+1].Links = ids(l[i].Id)
	}
	past, errno := dag.Past(l, id(1, 20))
	wantIds(t, "Past", past, errno, modelIds(l, func(i int) bool { return i < 39 }), api.OK)
	heads, errno := dag.Heads(l, 1)
	wantIds(t, "Heads", heads, errno, ids(id(1, 20)), api.OK)
}

// E1: Past of one that is not there, or can't be.
func TestE1PastNone(t *testing.T) {
	for _, x := range []api.Id{
		{}, id(0, 0), id(0, -1), id(0, 6), id(1, 4), id(0, 20), id(0, 21), id(1, math.MaxInt), id(0, math.MinInt),
		id(2, 1), id(-1, 1), id(math.MaxInt, 1), id(math.MinInt, math.MinInt),
	} {
		for _, l := range [][]api.Entry{nil, mixed()} {
			past, errno := dag.Past(l, x)
			wantIds(t, "Past", past, errno, nil, api.ErrNone)
		}
	}
	for i, e := range mixed() {
		past, errno := dag.Past(mixed()[:i], e.Id)
		wantIds(t, "Past of one that comes next", past, errno, nil, api.ErrNone)
	}
}

// E1: Heads: of the colors, in the past of no other one of the colors; rising.
func TestE1Heads(t *testing.T) {
	all := mixed()
	for _, c := range []struct {
		name   string
		l      []api.Entry
		colors int
		want   []api.Id
	}{
		{"nothing", nil, 7, nil},
		{"the last one", all, 1, ids(id(0, 5))},
		{"two of one color", all, 2, ids(id(0, 4), id(1, 3))},
		{"three of one color", all, 4, ids(id(0, 3), id(0, 4), id(1, 2))},
		{"two colors", all, 6, ids(id(0, 3), id(0, 4), id(1, 3))},
		{"all colors", all, 7, ids(id(0, 5))},
		{"region 0 ahead, though it stands behind", all[:2], 3, ids(id(0, 1), id(1, 1))},
		{"one color of two", all[:2], 1, ids(id(1, 1))},
		{"no such color", all[:2], 4, nil},
		{"behind, of another color", all[:3], 1, ids(id(1, 1))},
		{"behind, of one of them", all[:3], 5, ids(id(1, 2))},
		{"by way of another color", log(en(0, 1, 1), en(0, 2, 2, id(0, 1)), en(0, 3, 1, id(0, 2))), 1, ids(id(0, 3))},
		{"a color in common", log(en(0, 1, 3), en(0, 2, 6, id(0, 1))), 1, ids(id(0, 1))},
		{"nobody links", alone(4), 1, ids(id(0, 1), id(0, 2), id(1, 1), id(1, 2))},
	} {
		heads, errno := dag.Heads(c.l, c.colors)
		wantIds(t, c.name, heads, errno, c.want, api.OK)
	}
}

// E1: Heads: colors that are none.
func TestE1HeadsRange(t *testing.T) {
	for _, colors := range []int{math.MinInt, -8, -1, 0, 8, 9, 15, math.MaxInt} {
		for _, l := range [][]api.Entry{nil, mixed()} {
			heads, errno := dag.Heads(l, colors)
			wantIds(t, "Heads", heads, errno, nil, api.ErrRange)
		}
	}
}

// E1: Count: each region by itself.
func TestE1Count(t *testing.T) {
	wantCount(t, "nothing", nil, api.Vector{}, api.OK)
	wantCount(t, "both", mixed(), api.Vector{5, 3}, api.OK)
	wantCount(t, "region 1 alone", row(1, 20), api.Vector{0, 20}, api.OK)
	wantCount(t, "region 0 alone", row(0, 1), api.Vector{1, 0}, api.OK)
	wantCount(t, "all that may be", alone(40), api.Vector{20, 20}, api.OK)
}
