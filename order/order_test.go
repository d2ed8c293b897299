package order_test

import (
	"math"
	"slices"
	"testing"

	"cutwater/api"
	"cutwater/order"
)

func id(region, number int) api.Id { return api.Id{Region: region, Number: number} }

func en(region, number, colors int, links ...api.Id) api.Entry {
	return api.Entry{Id: id(region, number), Colors: colors, Links: links}
}

func ids(l ...api.Id) []api.Id { return l }

func log(l ...api.Entry) []api.Entry { return l }

// mixed: two regions, links that meet again; (0, 3) comes behind (0, 1) by way of (1, 2) alone, of another color.
func mixed() []api.Entry {
	return log(
		en(1, 1, 1),
		en(0, 1, 1),
		en(1, 2, 2, id(0, 1)),
		en(0, 2, 3, id(0, 1), id(1, 1)),
		en(0, 3, 5, id(1, 2)),
		en(1, 3, 4),
	)
}

// wrongLogs: one for each error of chapter 5.
var wrongLogs = []struct {
	name string
	l    []api.Entry
	want api.Errno
}{
	{"too many", make([]api.Entry, api.MaxLog+1), api.ErrMany},
	{"far too many", make([]api.Entry, 5000), api.ErrMany},
	{"no color", log(en(0, 1, 1), en(1, 1, 0)), api.ErrRange},
	{"no region", log(en(2, 1, 1)), api.ErrRange},
	{"a link to itself", log(en(0, 1, 1, id(0, 1))), api.ErrState},
	{"twice", log(en(0, 1, 1), en(0, 1, 1)), api.ErrTwice},
	{"a number is missing", log(en(0, 1, 1), en(0, 3, 1)), api.ErrState},
	{"a link to one behind", log(en(0, 1, 1, id(1, 1)), en(1, 1, 1)), api.ErrNone},
}

var noColors = []int{math.MinInt, -8, -1, 0, 8, 9, 15, math.MaxInt}

func wantIs(t *testing.T, name string, l []api.Entry, x []api.Id, want bool, errno api.Errno) {
	t.Helper()
	if ok, got := order.Is(l, x); ok != want || got != errno {
		t.Errorf("%s: Is of %v is %v %d, must be %v %d", name, x, ok, got, want, errno)
	}
}

// wantIds: an answer of ids; P1: none, if there is an error.
func wantIds(t *testing.T, name string, l []api.Id, got api.Errno, x []api.Id, errno api.Errno) {
	t.Helper()
	if !slices.Equal(l, x) || got != errno {
		t.Errorf("%s: it is %v %d, must be %v %d", name, l, got, x, errno)
	}
}

func wantMore(t *testing.T, name string, l []api.Entry, colors int, x, want []api.Id, errno api.Errno) {
	t.Helper()
	more, got := order.More(l, colors, x)
	wantIds(t, name, more, got, want, errno)
}

func wantFirst(t *testing.T, name string, l []api.Entry, colors int, want []api.Id, errno api.Errno) {
	t.Helper()
	first, got := order.First(l, colors)
	wantIds(t, name, first, got, want, errno)
}

// F1: Check of chapter 5 is told ahead of all else by every call; P1: nothing comes with it.
func TestF1CheckFirst(t *testing.T) {
	for _, c := range wrongLogs {
		for _, x := range [][]api.Id{nil, ids(id(0, 1)), ids(id(0, 1), id(0, 1)), ids(id(2, 2)), ids(id(0, 20))} {
			wantIs(t, c.name, c.l, x, false, c.want)
			for _, colors := range append([]int{1, 7}, noColors...) {
				wantMore(t, c.name, c.l, colors, x, nil, c.want)
				wantFirst(t, c.name, c.l, colors, nil, c.want)
			}
		}
	}
}

// F1: Is: whatever is in the past of one of them, and among them, is ahead of it.
func TestF1Is(t *testing.T) {
	for _, c := range []struct {
		name string
		ids  []api.Id
		want bool
	}{
		{"none", nil, true},
		{"an empty list", ids(), true},
		{"one", ids(id(0, 1)), true},
		{"one whose past is not among them", ids(id(0, 2)), true},
		{"as the log has them", ids(id(1, 1), id(0, 1), id(1, 2), id(0, 2), id(0, 3), id(1, 3)), true},
		{"in another order", ids(id(1, 3), id(0, 1), id(1, 2), id(0, 3), id(1, 1), id(0, 2)), true},
		{"nothing of one another's past", ids(id(1, 3), id(1, 1), id(0, 1)), true},
		{"greater numbers ahead", ids(id(1, 3), id(1, 2), id(1, 1)), true},
		{"behind a link", ids(id(0, 1), id(0, 2)), true},
		{"ahead of a link", ids(id(0, 2), id(0, 1)), false},
		{"ahead of the second link", ids(id(0, 1), id(0, 2), id(1, 1)), false},
		{"behind what it does not link to by itself", ids(id(0, 1), id(0, 3)), true},
		{"ahead of what it does not link to by itself", ids(id(0, 3), id(0, 1)), false},
		{"ahead, with one between", ids(id(0, 2), id(1, 3), id(0, 1)), false},
		{"the last two", ids(id(1, 1), id(0, 1), id(0, 2), id(0, 3), id(1, 2)), false},
	} {
		wantIs(t, c.name, mixed(), c.ids, c.want, api.OK)
	}
	wantIs(t, "an empty log", nil, nil, true, api.OK)
}

// wrongIds of the mixed log: ids that are not there, or there twice, and which is told first.
var wrongIds = []struct {
	name string
	ids  []api.Id
	want api.Errno
}{
	{"not there", ids(id(0, 4)), api.ErrNone},
	{"not there, behind some that are", ids(id(0, 1), id(1, 1), id(1, 4)), api.ErrNone},
	{"nothing", ids(api.Id{}), api.ErrNone},
	{"number 0", ids(id(0, 0)), api.ErrNone},
	{"number below 0", ids(id(1, math.MinInt)), api.ErrNone},
	{"number far too great", ids(id(1, math.MaxInt)), api.ErrNone},
	{"region 2", ids(id(2, 1)), api.ErrNone},
	{"region below 0", ids(id(-1, 1)), api.ErrNone},
	{"region far below 0", ids(id(math.MinInt, math.MinInt)), api.ErrNone},
	{"twice", ids(id(0, 1), id(0, 1)), api.ErrTwice},
	{"twice, others between", ids(id(0, 1), id(1, 1), id(1, 3), id(0, 1)), api.ErrTwice},
	{"twice, in no order", ids(id(0, 2), id(0, 1), id(0, 2)), api.ErrTwice},
	{"not there, in no order", ids(id(0, 2), id(0, 1), id(0, 9)), api.ErrNone},
	{"twice ahead of not there", ids(id(0, 1), id(0, 1), id(0, 9)), api.ErrTwice},
	{"not there ahead of twice", ids(id(0, 1), id(0, 9), id(0, 1)), api.ErrNone},
	{"not there, twice", ids(id(0, 9), id(0, 9)), api.ErrNone},
	{"the same one again and again", slices.Repeat(ids(id(0, 1)), 100000), api.ErrTwice},
}

// F1: Is and More: id by id, not there, or there twice, ahead of colors and of what is no order; P1.
func TestF1WrongIds(t *testing.T) {
	for _, c := range wrongIds {
		wantIs(t, c.name, mixed(), c.ids, false, c.want)
		for _, colors := range append([]int{1, 2, 3, 4, 5, 6, 7}, noColors...) {
			wantMore(t, c.name, mixed(), colors, c.ids, nil, c.want)
		}
	}
	wantIs(t, "an empty log", nil, ids(id(0, 1)), false, api.ErrNone)
	wantMore(t, "an empty log", nil, 7, ids(id(0, 1)), nil, api.ErrNone)
}

// F1: First: one by one, the first by its id of those whose past is there.
func TestF1First(t *testing.T) {
	l := mixed()
	for _, c := range []struct {
		name   string
		l      []api.Entry
		colors int
		want   []api.Id
	}{
		{"nothing", nil, 7, nil},
		{"no such color", l[:2], 6, nil},
		{"color 1", l, 1, ids(id(0, 1), id(0, 3), id(1, 1), id(0, 2))},
		{"color 2", l, 2, ids(id(0, 2), id(1, 2))},
		{"colors 1 and 2", l, 3, ids(id(0, 1), id(1, 1), id(0, 2), id(1, 2), id(0, 3))},
		{"color 4", l, 4, ids(id(0, 3), id(1, 3))},
		{"colors 1 and 4", l, 5, ids(id(0, 1), id(0, 3), id(1, 1), id(0, 2), id(1, 3))},
		{"colors 2 and 4", l, 6, ids(id(0, 2), id(1, 2), id(0, 3), id(1, 3))},
		{"all colors", l, 7, ids(id(0, 1), id(1, 1), id(0, 2), id(1, 2), id(0, 3), id(1, 3))},
		{"a region ahead, though it stands behind", l[:2], 1, ids(id(0, 1), id(1, 1))},
		{"a later number ahead of one that waits", log(en(1, 1, 1), en(0, 1, 1, id(1, 1)), en(0, 2, 1)), 1, ids(id(0, 2), id(1, 1), id(0, 1))},
		{"by way of another color", log(en(1, 1, 1), en(1, 2, 2, id(1, 1)), en(0, 1, 1, id(1, 2))), 1, ids(id(1, 1), id(0, 1))},
	} {
		wantFirst(t, c.name, c.l, c.colors, c.want, api.OK)
		wantMore(t, c.name+", More of none", c.l, c.colors, nil, c.want, api.OK)
		wantMore(t, c.name+", More of an empty list", c.l, c.colors, ids(), c.want, api.OK)
	}
}

// F1: First and More: colors that are none.
func TestF1ColorsRange(t *testing.T) {
	for _, colors := range noColors {
		for _, l := range [][]api.Entry{nil, mixed()} {
			wantFirst(t, "First", l, colors, nil, api.ErrRange)
			wantMore(t, "More", l, colors, nil, nil, api.ErrRange)
		}
		wantMore(t, "an order", mixed(), colors, ids(id(0, 1)), nil, api.ErrRange)
		wantMore(t, "ahead of no order", mixed(), colors, ids(id(0, 2), id(0, 1)), nil, api.ErrRange)
		wantMore(t, "ahead of a past that is missing", mixed(), colors, ids(id(0, 3)), nil, api.ErrRange)
	}
}

// F1: More: what was there, and then the rest.
func TestF1More(t *testing.T) {
	for _, c := range []struct {
		name   string
		colors int
		ids    []api.Id
		want   []api.Id
	}{
		{"the first one", 1, ids(id(0, 1)), ids(id(0, 1), id(0, 3), id(1, 1), id(0, 2))},
		{"not the first one", 1, ids(id(1, 1)), ids(id(1, 1), id(0, 1), id(0, 2), id(0, 3))},
		{"two, the other way round", 1, ids(id(1, 1), id(0, 1)), ids(id(1, 1), id(0, 1), id(0, 2), id(0, 3))},
		{"two, with one to come between by id", 1, ids(id(0, 1), id(1, 1)), ids(id(0, 1), id(1, 1), id(0, 2), id(0, 3))},
		{"a past of no such color need not be there", 4, ids(id(0, 3)), ids(id(0, 3), id(1, 3))},
		{"a past of no such color, the other one", 2, ids(id(1, 2)), ids(id(1, 2), id(0, 2))},
		{"all but one", 5, ids(id(1, 3), id(0, 1), id(0, 3), id(1, 1)), ids(id(1, 3), id(0, 1), id(0, 3), id(1, 1), id(0, 2))},
		{"all", 1, ids(id(1, 1), id(0, 1), id(0, 3), id(0, 2)), ids(id(1, 1), id(0, 1), id(0, 3), id(0, 2))},
		{"the last one by id ahead", 7, ids(id(1, 3)), ids(id(1, 3), id(0, 1), id(1, 1), id(0, 2), id(1, 2), id(0, 3))},
	} {
		wantMore(t, c.name, mixed(), c.colors, c.ids, c.want, api.OK)
	}
}

// F1: More: what is no order, has none of the colors, or lacks something of its past.
func TestF1MoreState(t *testing.T) {
	for _, c := range []struct {
		name   string
		colors int
		ids    []api.Id
	}{
		{"no order", 1, ids(id(0, 1), id(0, 2), id(1, 1))},
		{"no order, by way of another color", 1, ids(id(0, 3), id(0, 1))},
		{"one of another color", 1, ids(id(1, 3))},
		{"the last one is of another color", 1, ids(id(0, 1), id(1, 1), id(1, 3))},
		{"the first one is of another color", 2, ids(id(0, 1), id(1, 2))},
		{"another color, though its past is there", 4, ids(id(0, 3), id(0, 1))},
		{"a link is missing", 1, ids(id(0, 1), id(0, 2))},
		{"both links are missing", 1, ids(id(0, 2))},
		{"what it does not link to by itself is missing", 1, ids(id(0, 3))},
		{"one that has one of two colors is missing", 6, ids(id(0, 3))},
		{"missing at the last one", 1, ids(id(0, 1), id(0, 3), id(0, 2))},
	} {
		wantMore(t, c.name, mixed(), c.colors, c.ids, nil, api.ErrState)
	}
}
