package entry_test

import (
	"fmt"
	"math"
	"reflect"
	"strings"
	"testing"

	"cutwater/api"
	"cutwater/entry"
)

func id(region, number int) api.Id { return api.Id{Region: region, Number: number} }

func entryOf(region, number, colors int, text string, links ...api.Id) api.Entry {
	return api.Entry{Id: id(region, number), Colors: colors, Text: text, Links: links}
}

// upTo: links to the first entries of a region.
func upTo(region, count int) []api.Id {
	var links []api.Id
	for n := range count {
		links = append(links, id(region, n+1))
	}
	return links
}

// same takes a nil list for an empty one, as P2 does.
func same(a, b api.Entry) bool {
	if len(a.Links) == 0 && len(b.Links) == 0 {
		a.Links, b.Links = nil, nil
	}
	return reflect.DeepEqual(a, b)
}

// A1: ids rise by region, then by number, whatever the numbers are.
func TestA1LessByRegionThenNumber(t *testing.T) {
	rising := []api.Id{
		id(math.MinInt, math.MaxInt), id(-1, 5), id(0, math.MinInt), id(0, -1), id(0, 0), id(0, 1), id(0, 2), id(0, 20),
		id(1, -1), id(1, 1), id(1, 2), id(2, 0), id(math.MaxInt, math.MinInt), id(math.MaxInt, math.MaxInt),
	}
	for i, a := range rising {
		for j, b := range rising {
			if got := entry.Less(a, b); got != (i < j) {
				t.Errorf("Less(%v, %v) is %v", a, b, got)
			}
		}
	}
}

var checks = []struct {
	name string
	e    api.Entry
	want api.Errno
}{
	{"least", entryOf(0, 1, 1, ""), api.OK},
	{"region 1", entryOf(1, 1, 1, "x"), api.OK},
	{"greatest", entryOf(1, api.MaxNumber, api.AllColors, "twelve bytes"), api.OK},
	{"text of any bytes", entryOf(0, 1, 1, "\x00\xff\n\x80"), api.OK},
	{"links of both regions", entryOf(0, 3, 5, "text", id(0, 1), id(0, 2), id(1, 1), id(1, 20)), api.OK},
	{"a greater number of the other region", entryOf(0, 3, 1, "", id(1, 4)), api.OK},
	{"the same number of the other region", entryOf(1, 3, 1, "", id(0, 3)), api.OK},
	{"all links that may be", entryOf(0, 7, 1, "", upTo(0, api.MaxLinks)...), api.OK},
	{"no list of links", api.Entry{Id: id(0, 1), Colors: 1, Links: []api.Id{}}, api.OK},

	{"nothing", api.Entry{}, api.ErrRange},
	{"region 2", entryOf(2, 1, 1, ""), api.ErrRange},
	{"region below 0", entryOf(-1, 1, 1, ""), api.ErrRange},
	{"region far below 0", entryOf(math.MinInt, 1, 1, ""), api.ErrRange},
	{"region 256", entryOf(256, 1, 1, ""), api.ErrRange},
	{"number 0", entryOf(0, 0, 1, ""), api.ErrRange},
	{"number below 0", entryOf(0, -1, 1, ""), api.ErrRange},
	{"number too great", entryOf(0, api.MaxNumber+1, 1, ""), api.ErrRange},
	{"number 257", entryOf(0, 257, 1, ""), api.ErrRange},
	{"number far too great", entryOf(0, math.MaxInt, 1, ""), api.ErrRange},
	{"no color", entryOf(0, 1, 0, ""), api.ErrRange},
	{"colors below 0", entryOf(0, 1, -1, ""), api.ErrRange},
	{"colors too great", entryOf(0, 1, api.AllColors+1, ""), api.ErrRange},
	{"text too long", entryOf(0, 1, 1, "thirteen byte"), api.ErrMany},
	{"text far too long", entryOf(0, 1, 1, strings.Repeat("x", 256)), api.ErrMany},
	{"too many links", entryOf(0, 20, 1, "", upTo(0, api.MaxLinks+1)...), api.ErrMany},
	{"link of region 2", entryOf(0, 3, 1, "", id(2, 1)), api.ErrRange},
	{"link of a region below 0", entryOf(0, 3, 1, "", id(-1, 1)), api.ErrRange},
	{"link to number 0", entryOf(0, 3, 1, "", id(1, 0)), api.ErrRange},
	{"link to a number too great", entryOf(0, 3, 1, "", id(1, api.MaxNumber+1)), api.ErrRange},
	{"second link out of range", entryOf(0, 3, 1, "", id(0, 1), id(1, 21)), api.ErrRange},
	{"link to itself", entryOf(0, 3, 1, "", id(0, 3)), api.ErrState},
	{"link to a later one", entryOf(0, 3, 1, "", id(0, 4)), api.ErrState},
	{"link to a later one, region 1", entryOf(1, 3, 1, "", id(0, 9), id(1, 4)), api.ErrState},
	{"links fall by number", entryOf(0, 3, 1, "", id(0, 2), id(0, 1)), api.ErrState},
	{"links fall by region", entryOf(0, 3, 1, "", id(1, 1), id(0, 2)), api.ErrState},
	{"one link twice", entryOf(0, 3, 1, "", id(1, 2), id(1, 2)), api.ErrState},
	{"last link falls", entryOf(0, 9, 1, "", id(0, 1), id(0, 5), id(1, 3), id(1, 2)), api.ErrState},

	{"number ahead of text", entryOf(0, 0, 1, "thirteen byte"), api.ErrRange},
	{"colors ahead of text", entryOf(0, 1, 8, "thirteen byte"), api.ErrRange},
	{"colors ahead of many links", entryOf(0, 20, 0, "", upTo(0, 7)...), api.ErrRange},
	{"colors ahead of a link that falls", entryOf(0, 3, 0, "", id(0, 3)), api.ErrRange},
	{"text ahead of a link's id", entryOf(0, 3, 1, "thirteen byte", id(2, 1)), api.ErrMany},
	{"many links ahead of one's id", entryOf(0, 3, 1, "", append(upTo(0, 6), id(9, 9))...), api.ErrMany},
	{"many links ahead of one that falls", entryOf(0, 3, 1, "", upTo(0, 7)...), api.ErrMany},
	{"first link's state ahead of the second one's range", entryOf(0, 3, 1, "", id(0, 3), id(2, 1)), api.ErrState},
	{"first link's range ahead of the second one's state", entryOf(0, 3, 1, "", id(2, 1), id(0, 1)), api.ErrRange},
	{"a link's range ahead of its own state", entryOf(0, 3, 1, "", id(1, 2), id(0, 0)), api.ErrRange},
	{"a link's range ahead of a later number", entryOf(0, 3, 1, "", id(0, 21)), api.ErrRange},
}

// A1: what Check says, and which error is told first.
func TestA1Check(t *testing.T) {
	for _, c := range checks {
		if got := entry.Check(c.e); got != c.want {
			t.Errorf("%s: Check is %d, must be %d", c.name, got, c.want)
		}
	}
}

// A2: Encode's errors are those of Check; P1: no text comes with one.
func TestA2EncodeErrors(t *testing.T) {
	for _, c := range checks {
		s, got := entry.Encode(c.e)
		if got != c.want || got != api.OK && s != "" || got == api.OK && s == "" {
			t.Errorf("%s: Encode is %q %d, must be of %d", c.name, s, got, c.want)
		}
	}
}

var texts = []struct {
	e api.Entry
	s string
}{
	{entryOf(0, 1, 1, ""), "\x00\x01\x01\x00\x00"},
	{entryOf(1, 20, 7, "twelve bytes"), "\x01\x14\x07\x00\x0ctwelve bytes"},
	{entryOf(0, 3, 5, "text", id(0, 1), id(1, 2)), "\x00\x03\x05\x02\x00\x01\x01\x02\x04text"},
	{entryOf(1, 10, 2, "\x00\xff", id(0, 16), id(1, 9)), "\x01\x0a\x02\x02\x00\x10\x01\x09\x02\x00\xff"},
	{entryOf(0, 7, 4, "12", upTo(0, 6)...), "\x00\x07\x04\x06\x00\x01\x00\x02\x00\x03\x00\x04\x00\x05\x00\x06\x0212"},
}

// A2: the bytes of an entry, to the byte.
func TestA2EncodeBytes(t *testing.T) {
	for _, c := range texts {
		if s, got := entry.Encode(c.e); s != c.s || got != api.OK {
			t.Errorf("Encode(%v) is %q %d, must be %q", c.e, s, got, c.s)
		}
	}
}

// A2: Decode takes as many bytes as tell the entry; A3: whatever stands behind.
func TestA2DecodeTakesItsOwnBytes(t *testing.T) {
	for _, c := range texts {
		for _, behind := range []string{"", "\x00", "\x02", "\xff\xff\xff", c.s, strings.Repeat("behind", 1000)} {
			e, n, got := entry.Decode(c.s + behind)
			if !same(e, c.e) || n != len(c.s) || got != api.OK {
				t.Errorf("Decode(%q and %d more) is %v %d %d", c.s, len(behind), e, n, got)
			}
		}
	}
}

// A2: a text that ends too soon, at each place where it may.
func TestA2DecodeEndsTooSoon(t *testing.T) {
	for _, c := range texts {
		for n := range len(c.s) {
			wantDecode(t, c.s[:n], api.ErrNone)
		}
	}
}

// wantDecode: an error, and with it nothing else (P1).
func wantDecode(t *testing.T, s string, want api.Errno) {
	t.Helper()
	e, n, got := entry.Decode(s)
	if got != want || !reflect.DeepEqual(e, api.Entry{}) || n != 0 {
		t.Errorf("Decode(%q) is %v %d %d, must be of %d", s, e, n, got, want)
	}
}

// A2: wrong bytes, and which error is told first.
func TestA2DecodeErrors(t *testing.T) {
	seven := "\x00\x01\x00\x02\x00\x03\x00\x04\x00\x05\x00\x06\x00\x07"
	for _, c := range []struct {
		name, s string
		want    api.Errno
	}{
		{"nothing", "", api.ErrNone},
		{"a region alone", "\x00", api.ErrNone},
		{"a wrong region alone", "\x02", api.ErrForm},
		{"region 255 alone", "\xff", api.ErrForm},
		{"a digit is no region", "0\x01\x01\x00\x00", api.ErrForm},
		{"a wrong region ahead of a wrong number", "\x02\x00\x01\x00\x00", api.ErrForm},
		{"a link's wrong region, the text ends behind it", "\x00\x03\x01\x01\x02", api.ErrForm},
		{"a link's region is not there", "\x00\x03\x01\x01", api.ErrNone},
		{"the second link's wrong region, the text ends behind it", "\x00\x03\x01\x02\x00\x01\x02", api.ErrForm},
		{"a link's wrong region ahead of what Check says", "\x00\x00\x01\x01\x02\x01\x00", api.ErrForm},
		{"a link's wrong region behind too many", "\x00\x14\x01\x08" + seven + "\x02", api.ErrForm},
		{"too short ahead of what Check says of a number", "\x00\x00\x01\x00", api.ErrNone},
		{"too short ahead of what Check says of colors", "\x00\x01\x08\x00\x01", api.ErrNone},
		{"too short ahead of too many links", "\x00\x14\x01\x07" + seven, api.ErrNone},
		{"too short ahead of a text too long", "\x00\x01\x01\x00\x0dtwelve bytes", api.ErrNone},
		{"too short ahead of a link that falls", "\x00\x03\x01\x01\x00\x03\x01", api.ErrNone},
		{"255 links that are not there", "\x00\x01\x01\xff", api.ErrNone},
		{"255 bytes of text that are not there", "\x00\x01\x01\x00\xff" + strings.Repeat("x", 254), api.ErrNone},
		{"number 0", "\x00\x00\x01\x00\x00", api.ErrRange},
		{"number 21", "\x00\x15\x01\x00\x00", api.ErrRange},
		{"number 255", "\x01\xff\x01\x00\x00", api.ErrRange},
		{"no color", "\x00\x01\x00\x00\x00", api.ErrRange},
		{"color 8", "\x00\x01\x08\x00\x00", api.ErrRange},
		{"text too long", "\x00\x01\x01\x00\x0dthirteen byte", api.ErrMany},
		{"text of 255 bytes", "\x00\x01\x01\x00\xff" + strings.Repeat("x", 255), api.ErrMany},
		{"too many links", "\x00\x14\x01\x07" + seven + "\x00", api.ErrMany},
		{"255 links", "\x00\x14\x01\xff" + strings.Repeat("\x00\x01", 255) + "\x00", api.ErrMany},
		{"a number ahead of too many links", "\x00\x15\x01\x07" + seven + "\x00", api.ErrRange},
		{"link to number 0", "\x00\x03\x01\x01\x01\x00\x00", api.ErrRange},
		{"link to itself", "\x00\x03\x01\x01\x00\x03\x00", api.ErrState},
		{"one link twice", "\x00\x03\x01\x02\x00\x01\x00\x01\x00", api.ErrState},
	} {
		t.Run(c.name, func(t *testing.T) { wantDecode(t, c.s, c.want) })
	}
}

// decode is Decode once more, by places: first how far a text goes, then what it says.
func decode(s string) (api.Entry, int, api.Errno) {
	e, at := api.Entry{}, 4
	regions := []int{0}
	if len(s) > 3 {
		for range int(s[3]) {
			regions = append(regions, at)
			at += 2
		}
	}
	for _, r := range regions {
		if r < len(s) && s[r] > 1 {
			return e, 0, api.ErrForm
		}
	}
	if len(s) <= at || len(s) < at+1+int(s[at]) {
		return e, 0, api.ErrNone
	}
	end := at + 1 + int(s[at])
	got := entryOf(int(s[0]), int(s[1]), int(s[2]), s[at+1:end])
	for _, r := range regions[1:] {
		got.Links = append(got.Links, id(int(s[r]), int(s[r+1])))
	}
	if errno := entry.Check(got); errno != api.OK {
		return e, 0, errno
	}
	return got, end, api.OK
}

// wantLikeModel: what Decode says of a text; A3: and what was decoded is encoded as it was.
func wantLikeModel(t *testing.T, s string) {
	t.Helper()
	e, n, got := entry.Decode(s)
	if x, m, want := decode(s); !same(e, x) || n != m || got != want {
		t.Fatalf("Decode(%q) is %v %d %d, must be %v %d %d", s, e, n, got, x, m, want)
	}
	if got != api.OK {
		return
	}
	if back, errno := entry.Encode(e); back != s[:n] || errno != api.OK {
		t.Fatalf("Encode(Decode(%q)) is %q %d", s, back, errno)
	}
}

// A2, P1: all short texts of some bytes; none panics.
func TestA2DecodeAllShortTexts(t *testing.T) {
	level := []string{""}
	for range 7 {
		var longer []string
		for _, s := range level {
			wantLikeModel(t, s)
			for _, b := range "\x00\x01\x02\x03\x15" {
				longer = append(longer, s+string(b))
			}
		}
		level = longer
	}
}

// draw: numbers that are the same each time.
type draw uint64

func (d *draw) n(n int) int {
	*d = *d*6364136223846793005 + 1442695040888963407
	return int(uint64(*d) >> 33 % uint64(n))
}

func (d *draw) text(size, bytes int) string {
	var b strings.Builder
	for range size {
		b.WriteByte(byte(d.n(bytes)))
	}
	return b.String()
}

// A2, P1: long texts, of small bytes and of any.
func TestA2DecodeDrawnTexts(t *testing.T) {
	d := draw(1)
	for range 100000 {
		wantLikeModel(t, d.text(d.n(40), 4))
		wantLikeModel(t, "\x00\x14\x01"+d.text(d.n(40), 2+d.n(9)))
		wantLikeModel(t, d.text(d.n(600), 256))
	}
}

// entry: one that may stand.
func (d *draw) entry() api.Entry {
	e := entryOf(d.n(2), 1+d.n(api.MaxNumber), 1+d.n(api.AllColors), d.text(d.n(api.MaxWords+1), 256))
	for region := range 2 {
		for n := 1; n <= api.MaxNumber && len(e.Links) < api.MaxLinks; n++ {
			if d.n(6) == 0 && (region != e.Id.Region || n < e.Id.Number) {
				e.Links = append(e.Links, id(region, n))
			}
		}
	}
	return e
}

// A3: what is encoded is decoded as it was, whatever stands behind.
func TestA3RoundTrip(t *testing.T) {
	d := draw(3)
	for range 50000 {
		e := d.entry()
		s, errno := entry.Encode(e)
		if errno != api.OK {
			t.Fatalf("Encode(%v) is of %d", e, errno)
		}
		x, n, errno := entry.Decode(s + d.text(d.n(30), 256))
		if !same(x, e) || n != len(s) || errno != api.OK {
			t.Fatalf("Decode(Encode(%v)) is %v %d %d", e, x, n, errno)
		}
	}
}

// P2: links that are handed in are only read, and the room behind them too.
func TestP2HandedInIsOnlyRead(t *testing.T) {
	for _, links := range [][]api.Id{{}, {id(0, 1)}, {id(0, 2), id(0, 1)}, {id(1, 1), id(1, 2), id(0, 99)}} {
		room := append(links, id(7, 7), id(8, 8))
		before := fmt.Sprint(room)
		e := entryOf(0, 3, 1, "x", room[:len(links)]...)
		entry.Check(e)
		entry.Encode(e)
		if after := fmt.Sprint(room); after != before {
			t.Errorf("%s was handed in, and is %s", before, after)
		}
	}
}

// P2, P3: two answers share nothing; the second one is as the first one was.
func TestP2AnswersAreTheCallers(t *testing.T) {
	s := texts[2].s
	first, _, _ := entry.Decode(s)
	for i := range first.Links {
		first.Links[i] = id(9, 9)
	}
	_ = append(first.Links[:0], id(8, 8))
	second, n, errno := entry.Decode(s)
	if !same(second, texts[2].e) || n != len(s) || errno != api.OK {
		t.Errorf("Decode(%q) is %v %d %d the second time", s, second, n, errno)
	}
}

// P3: an error leaves nothing behind for the next call.
func TestP3ErrorsLeaveNothing(t *testing.T) {
	for _, c := range texts {
		entry.Decode("\x02")
		entry.Decode(c.s[:len(c.s)-1])
		if e, n, errno := entry.Decode(c.s); !same(e, c.e) || n != len(c.s) || errno != api.OK {
			t.Errorf("Decode(%q) is %v %d %d", c.s, e, n, errno)
		}
		entry.Encode(api.Entry{})
		if s, errno := entry.Encode(c.e); s != c.s || errno != api.OK {
			t.Errorf("Encode(%v) is %q %d", c.e, s, errno)
		}
	}
}
