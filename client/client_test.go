package client_test

import (
	"math"
	"slices"
	"testing"

	"cutwater/api"
	"cutwater/client"
)

func id(region, number int) api.Id { return api.Id{Region: region, Number: number} }

func en(region, number, colors int, text string, links ...api.Id) api.Entry {
	return api.Entry{Id: id(region, number), Colors: colors, Text: text, Links: links}
}

func ids(l ...api.Id) []api.Id { return l }

func log(l ...api.Entry) []api.Entry { return l }

func reads(colors int, played ...api.Id) api.Client {
	return api.Client{Colors: colors, Played: played}
}

// mixed: two regions; (0, 3) comes behind (0, 1) by way of (1, 2) alone, of another color; it has {3, 3}.
func mixed() []api.Entry {
	return log(
		en(1, 1, 1, "m"),
		en(0, 1, 1, "a"),
		en(1, 2, 2, "n", id(0, 1)),
		en(0, 2, 3, "b", id(0, 1), id(1, 1)),
		en(0, 3, 5, "c", id(1, 2)),
		en(1, 3, 4, ""),
	)
}

// same takes an empty list for none, as P2 does.
func same(a, b api.Client) bool { return a.Colors == b.Colors && slices.Equal(a.Played, b.Played) }

func wantCheck(t *testing.T, name string, l []api.Entry, c api.Client, want api.Errno) {
	t.Helper()
	if got := client.Check(l, c); got != want {
		t.Errorf("%s: Check of %v is %d, must be %d", name, c, got, want)
	}
}

// wantPlay: the client then; P1: nothing, if there is an error.
func wantPlay(t *testing.T, name string, l []api.Entry, c api.Client, v api.Vector, want api.Client, errno api.Errno) {
	t.Helper()
	if x, got := client.Play(l, c, v); !same(x, want) || got != errno {
		t.Errorf("%s: Play of %v to %v is %v %d, must be %v %d", name, c, v, x, got, want, errno)
	}
}

func wantTexts(t *testing.T, name string, l []api.Entry, c api.Client, want []string, errno api.Errno) {
	t.Helper()
	if x, got := client.Texts(l, c); !slices.Equal(x, want) || got != errno {
		t.Errorf("%s: Texts of %v is %q %d, must be %q %d", name, c, x, got, want, errno)
	}
}

// reading: a client of a log, and what Check says of it.
type reading struct {
	name string
	l    []api.Entry
	c    api.Client
	want api.Errno
}

// wrong clients of logs: an error of each kind that More has, and which is told first.
var wrong = []reading{
	{"log: too many", make([]api.Entry, api.MaxLog+1), reads(1), api.ErrMany},
	{"log: no color", log(en(0, 1, 0, "")), reads(1), api.ErrRange},
	{"log: a text too long", log(en(0, 1, 1, "thirteen byte")), reads(1, id(0, 1)), api.ErrMany},
	{"log: a number is missing", log(en(0, 2, 1, "")), reads(1), api.ErrState},
	{"log: twice", log(en(0, 1, 1, ""), en(0, 1, 1, "")), reads(1), api.ErrTwice},
	{"log: a link is missing", log(en(0, 1, 1, "", id(1, 1))), reads(1), api.ErrNone},
	{"log, ahead of ids", log(en(0, 1, 1, ""), en(0, 1, 1, "")), reads(1, id(0, 9)), api.ErrTwice},
	{"log, ahead of colors", make([]api.Entry, api.MaxLog+1), reads(0), api.ErrMany},
	{"not there", mixed(), reads(1, id(0, 9)), api.ErrNone},
	{"not there, nothing is", nil, reads(1, id(0, 1)), api.ErrNone},
	{"no id", mixed(), reads(1, id(0, 1), api.Id{}), api.ErrNone},
	{"region 2", mixed(), reads(1, id(2, 1)), api.ErrNone},
	{"region far below 0", mixed(), reads(1, id(math.MinInt, math.MaxInt)), api.ErrNone},
	{"twice", mixed(), reads(1, id(0, 1), id(0, 1)), api.ErrTwice},
	{"twice, again and again", mixed(), reads(1, slices.Repeat(ids(id(0, 1)), 100000)...), api.ErrTwice},
	{"twice ahead of not there", mixed(), reads(1, id(0, 1), id(0, 1), id(0, 9)), api.ErrTwice},
	{"not there ahead of twice", mixed(), reads(1, id(0, 1), id(0, 9), id(0, 1)), api.ErrNone},
	{"not there ahead of colors", mixed(), reads(8, id(0, 9)), api.ErrNone},
	{"twice ahead of no order", mixed(), reads(1, id(0, 2), id(0, 1), id(0, 1)), api.ErrTwice},
	{"nothing", mixed(), api.Client{}, api.ErrRange},
	{"colors 8", mixed(), reads(8), api.ErrRange},
	{"colors below 0", nil, reads(-1), api.ErrRange},
	{"colors far below 0", mixed(), reads(math.MinInt), api.ErrRange},
	{"colors far too great", mixed(), reads(math.MaxInt), api.ErrRange},
	{"colors ahead of no order", mixed(), reads(8, id(0, 2), id(0, 1)), api.ErrRange},
	{"no order", mixed(), reads(1, id(0, 1), id(0, 2), id(1, 1)), api.ErrState},
	{"another color", mixed(), reads(1, id(0, 1), id(1, 2)), api.ErrState},
	{"a link was not played", mixed(), reads(1, id(0, 1), id(0, 2)), api.ErrState},
	{"what it does not link to by itself was not played", mixed(), reads(1, id(0, 3)), api.ErrState},
}

// vectors: some of each kind, right and wrong.
var vectors = []api.Vector{{}, {1, 1}, {3, 3}, {4, 3}, {0, 3}, {20, 20}, {21, 0}, {0, -1}, {math.MinInt, math.MaxInt}}

// H1: Check says what More says, and is told ahead of all else; P1: nothing comes with an error.
func TestH1CheckFirst(t *testing.T) {
	for _, c := range wrong {
		wantCheck(t, c.name, c.l, c.c, c.want)
		wantTexts(t, c.name, c.l, c.c, nil, c.want)
		for _, v := range vectors {
			wantPlay(t, c.name, c.l, c.c, v, api.Client{}, c.want)
		}
	}
}

// H1: Check: what a client may have played.
func TestH1Check(t *testing.T) {
	for _, c := range []api.Client{
		reads(1), reads(7), {Colors: 1, Played: ids()},
		reads(1, id(0, 1)), reads(1, id(1, 1)), reads(1, id(1, 1), id(0, 1), id(0, 3), id(0, 2)),
		reads(2, id(1, 2)), reads(4, id(0, 3)), reads(4, id(1, 3), id(0, 3)),
	} {
		wantCheck(t, "a good one", mixed(), c, api.OK)
	}
	wantCheck(t, "an empty log", nil, reads(3), api.OK)
}

// H1: Play: what was played, and then what else a vector has of the colors.
func TestH1Play(t *testing.T) {
	for _, c := range []struct {
		name   string
		c      api.Client
		v      api.Vector
		played []api.Id
	}{
		{"to nothing", reads(1), api.Vector{}, nil},
		{"to nothing, an empty list", api.Client{Colors: 1, Played: ids()}, api.Vector{}, nil},
		{"one region", reads(1), api.Vector{1, 0}, ids(id(0, 1))},
		{"the other region", reads(1), api.Vector{0, 1}, ids(id(1, 1))},
		{"the first of each", reads(1), api.Vector{1, 1}, ids(id(0, 1), id(1, 1))},
		{"not the one behind it", reads(1), api.Vector{2, 1}, ids(id(0, 1), id(1, 1), id(0, 2))},
		{"all", reads(1), api.Vector{3, 3}, ids(id(0, 1), id(0, 3), id(1, 1), id(0, 2))},
		{"all but the last one of another color", reads(1), api.Vector{3, 2}, ids(id(0, 1), id(0, 3), id(1, 1), id(0, 2))},
		{"what was played stays ahead", reads(1, id(1, 1)), api.Vector{3, 3}, ids(id(1, 1), id(0, 1), id(0, 2), id(0, 3))},
		{"what was played at one time, then more", reads(1, id(0, 1), id(1, 1)), api.Vector{2, 2}, ids(id(0, 1), id(1, 1), id(0, 2))},
		{"again to the same time", reads(1, id(1, 1), id(0, 1)), api.Vector{1, 1}, ids(id(1, 1), id(0, 1))},
		{"back to a time that has all that was played", reads(1, id(0, 1)), api.Vector{1, 0}, ids(id(0, 1))},
		{"all was played", reads(1, id(1, 1), id(0, 1), id(0, 3), id(0, 2)), api.Vector{3, 3}, ids(id(1, 1), id(0, 1), id(0, 3), id(0, 2))},
		{"color 2", reads(2), api.Vector{1, 2}, ids(id(1, 2))},
		{"color 2, and more", reads(2, id(1, 2)), api.Vector{3, 3}, ids(id(1, 2), id(0, 2))},
		{"color 2 at once", reads(2), api.Vector{3, 3}, ids(id(0, 2), id(1, 2))},
		{"color 4, not yet there", reads(4), api.Vector{2, 2}, nil},
		{"all colors", reads(7), api.Vector{3, 3}, ids(id(0, 1), id(1, 1), id(0, 2), id(1, 2), id(0, 3), id(1, 3))},
		{"all colors, to a time", reads(7), api.Vector{1, 3}, ids(id(0, 1), id(1, 1), id(1, 2), id(1, 3))},
	} {
		wantPlay(t, c.name, mixed(), c.c, c.v, reads(c.c.Colors, c.played...), api.OK)
	}
	wantPlay(t, "an empty log", nil, reads(5), api.Vector{}, reads(5), api.OK)
}

// H1: Play: a vector that is none, ahead of what is not as it must be.
func TestH1PlayRange(t *testing.T) {
	for _, v := range []api.Vector{{-1, 0}, {0, -1}, {21, 0}, {0, 21}, {math.MinInt, 0}, {0, math.MaxInt}, {4, -1}, {21, 1}} {
		wantPlay(t, "nothing was played", mixed(), reads(1), v, api.Client{}, api.ErrRange)
		wantPlay(t, "ahead of one that it has not", mixed(), reads(1, id(0, 1), id(1, 1)), v, api.Client{}, api.ErrRange)
		wantPlay(t, "an empty log", nil, reads(1), v, api.Client{}, api.ErrRange)
	}
}

// H1: Play: a vector that has too many, or lacks a link, or something that was played.
func TestH1PlayState(t *testing.T) {
	for _, c := range []struct {
		name string
		c    api.Client
		v    api.Vector
	}{
		{"more of region 0 than there are", reads(1), api.Vector{4, 3}},
		{"more of region 1 than there are", reads(1), api.Vector{3, 4}},
		{"far more than there are", reads(1), api.Vector{20, 20}},
		{"as many in all, but not of each region", reads(1), api.Vector{4, 2}},
		{"it lacks one link of two", reads(1), api.Vector{2, 0}},
		{"it lacks a link of another color", reads(1), api.Vector{3, 1}},
		{"it lacks a link of one of another color", reads(4), api.Vector{0, 2}},
		{"it lacks a link, though that was played", reads(1, id(1, 1)), api.Vector{2, 0}},
		{"it lacks what was played", reads(1, id(0, 1)), api.Vector{}},
		{"it lacks what was played, of one region", reads(1, id(0, 1), id(1, 1)), api.Vector{1, 0}},
		{"it lacks what was played, of the other one", reads(1, id(0, 1), id(1, 1)), api.Vector{0, 1}},
		{"it lacks the last one that was played", reads(1, id(0, 1), id(1, 1), id(0, 2)), api.Vector{1, 3}},
		{"it lacks the first one that was played", reads(4, id(1, 3), id(0, 3)), api.Vector{3, 2}},
	} {
		wantPlay(t, c.name, mixed(), c.c, c.v, api.Client{}, api.ErrState)
	}
	wantPlay(t, "an empty log", nil, reads(1), api.Vector{1, 0}, api.Client{}, api.ErrState)
}

// H1: Texts: what was played says, in its order, and not in the log's.
func TestH1Texts(t *testing.T) {
	for _, c := range []struct {
		c    api.Client
		want []string
	}{
		{reads(1), nil},
		{reads(1, id(0, 1)), []string{"a"}},
		{reads(1, id(1, 1), id(0, 1), id(0, 3), id(0, 2)), []string{"m", "a", "c", "b"}},
		{reads(1, id(0, 1), id(1, 1), id(0, 2), id(0, 3)), []string{"a", "m", "b", "c"}},
		{reads(2, id(1, 2), id(0, 2)), []string{"n", "b"}},
		{reads(4, id(1, 3), id(0, 3)), []string{"", "c"}},
	} {
		wantTexts(t, "mixed", mixed(), c.c, c.want, api.OK)
	}
	wantTexts(t, "an empty log", nil, reads(7), nil, api.OK)
	alike := log(en(0, 1, 1, "\x00\xff"), en(0, 2, 1, "\x00\xff"), en(1, 1, 1, "twelve bytes"))
	wantTexts(t, "texts that are alike", alike, reads(1, id(1, 1), id(0, 2), id(0, 1)), []string{"twelve bytes", "\x00\xff", "\x00\xff"}, api.OK)
}
