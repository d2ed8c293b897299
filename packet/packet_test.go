package packet_test

import (
	"math"
	"reflect"
	"slices"
	"strings"
	"testing"

	"cutwater/api"
	"cutwater/packet"
)

func id(region, number int) api.Id { return api.Id{Region: region, Number: number} }

func en(region, number, colors int, text string, links ...api.Id) api.Entry {
	return api.Entry{Id: id(region, number), Colors: colors, Text: text, Links: links}
}

func log(l ...api.Entry) []api.Entry { return l }

// mixed: two regions; it has {3, 3}.
func mixed() []api.Entry {
	return log(
		en(1, 1, 1, "put a x"),
		en(0, 1, 7, ""),
		en(1, 2, 2, "drop a", id(0, 1)),
		en(0, 2, 3, "\x00\xff\n", id(0, 1), id(1, 1)),
		en(0, 3, 5, "twelve bytes", id(1, 2)),
		en(1, 3, 4, "z", id(0, 1), id(0, 2), id(0, 3), id(1, 1), id(1, 2)),
	)
}

// bytesOf numbers below 256.
func bytesOf(numbers ...byte) string { return string(numbers) }

// plain takes an empty list for none, as P2 does.
func plain(l []api.Entry) []api.Entry {
	var all []api.Entry
	for _, e := range l {
		e.Links = append([]api.Id(nil), e.Links...)
		all = append(all, e)
	}
	return all
}

func same(a, b []api.Entry) bool { return reflect.DeepEqual(plain(a), plain(b)) }

// wantEncode: the bytes; P1: none, if there is an error.
func wantEncode(t *testing.T, name string, l []api.Entry, want string, errno api.Errno) {
	t.Helper()
	if s, got := packet.Encode(l); s != want || got != errno {
		t.Errorf("%s: Encode is %x %d, must be %x %d", name, s, got, want, errno)
	}
}

func wantDecode(t *testing.T, name, s string, want []api.Entry, errno api.Errno) {
	t.Helper()
	if l, got := packet.Decode(s); !same(l, want) || got != errno {
		t.Errorf("%s: Decode of %x is %v %d, must be %v %d", name, s, l, got, want, errno)
	}
}

func wantMissing(t *testing.T, name string, l []api.Entry, v api.Vector, want []api.Entry, errno api.Errno) {
	t.Helper()
	if x, got := packet.Missing(l, v); !same(x, want) || got != errno {
		t.Errorf("%s: Missing of %v is %v %d, must be %v %d", name, v, x, got, want, errno)
	}
}

// packets: entries, and just the bytes that tell them. (They need be no log.)
var packets = []struct {
	name string
	l    []api.Entry
	s    string
}{
	{"nothing", nil, ""},
	{"one", log(en(0, 1, 1, "")), bytesOf(0, 1, 1, 0, 0)},
	{"one with a text", log(en(1, 20, 7, "put a x")), bytesOf(1, 20, 7, 0, 7) + "put a x"},
	{"one with links", log(en(0, 3, 5, "ab", id(0, 2), id(1, 9))), bytesOf(0, 3, 5, 2, 0, 2, 1, 9, 2) + "ab"},
	{"two", log(en(0, 1, 1, "x"), en(1, 1, 2, "y")), bytesOf(0, 1, 1, 0, 1) + "x" + bytesOf(1, 1, 2, 0, 1) + "y"},
	{"two in the other order", log(en(1, 1, 2, "y"), en(0, 1, 1, "x")), bytesOf(1, 1, 2, 0, 1) + "y" + bytesOf(0, 1, 1, 0, 1) + "x"},
	{"one twice", log(en(0, 1, 1, "x"), en(0, 1, 1, "x")), bytesOf(0, 1, 1, 0, 1) + "x" + bytesOf(0, 1, 1, 0, 1) + "x"},
	{"numbers with a gap, a link that is not there", log(en(0, 9, 1, ""), en(0, 4, 1, "", id(1, 1))), bytesOf(0, 9, 1, 0, 0, 0, 4, 1, 1, 1, 1, 0)},
	{"a text that looks like an entry", log(en(0, 1, 1, "\x00\x01\x01\x00\x00"), en(0, 2, 1, "")), bytesOf(0, 1, 1, 0, 5, 0, 1, 1, 0, 0, 0, 2, 1, 0, 0)},
}

// J1: Encode: one behind the other; Decode: just these; J2: as they were.
func TestJ1BytesOfEntries(t *testing.T) {
	for _, c := range packets {
		wantEncode(t, c.name, c.l, c.s, api.OK)
		wantDecode(t, c.name, c.s, c.l, api.OK)
	}
	wantEncode(t, "an empty list", log(), "", api.OK)
	wantEncode(t, "an empty list of links", log(api.Entry{Id: id(0, 1), Colors: 1, Links: []api.Id{}}), bytesOf(0, 1, 1, 0, 0), api.OK)
}

// times: an entry again and again.
func times(n int, e api.Entry) []api.Entry { return slices.Repeat(log(e), n) }

// J1: Encode: too many, ahead of what is wrong with one; of those the first one that is wrong tells.
func TestJ1EncodeErrors(t *testing.T) {
	fine := en(0, 1, 1, "")
	for _, n := range []int{api.MaxLog + 1, 1000, 100000} {
		wantEncode(t, "too many", times(n, fine), "", api.ErrMany)
		wantEncode(t, "too many, of wrong ones", make([]api.Entry, n), "", api.ErrMany)
	}
	wantEncode(t, "as many as there may be", times(api.MaxLog, fine), strings.Repeat(bytesOf(0, 1, 1, 0, 0), api.MaxLog), api.OK)
	wantEncode(t, "as many, the last one wrong", append(times(api.MaxLog-1, fine), api.Entry{}), "", api.ErrRange)
	for _, c := range []struct {
		name string
		l    []api.Entry
		want api.Errno
	}{
		{"nothing", log(api.Entry{}), api.ErrRange},
		{"region 2", log(en(2, 1, 1, "")), api.ErrRange},
		{"number 21", log(en(0, 21, 1, "")), api.ErrRange},
		{"far below 0", log(en(math.MinInt, math.MinInt, math.MinInt, "")), api.ErrRange},
		{"region 256, whose byte is 0", log(en(256, 1, 1, "")), api.ErrRange},
		{"a text too long", log(en(0, 1, 1, "thirteen byte")), api.ErrMany},
		{"a text of 256 bytes", log(en(0, 1, 1, strings.Repeat("x", 256))), api.ErrMany},
		{"too many links", log(en(0, 20, 1, "", id(0, 1), id(0, 2), id(0, 3), id(0, 4), id(0, 5), id(0, 6), id(0, 7))), api.ErrMany},
		{"a link to itself", log(en(0, 3, 1, "", id(0, 3))), api.ErrState},
		{"the second one", log(fine, en(0, 3, 1, "", id(0, 3))), api.ErrState},
		{"the first of two tells, state", log(en(0, 3, 1, "", id(0, 3)), api.Entry{}), api.ErrState},
		{"the first of two tells, range", log(api.Entry{}, en(0, 3, 1, "", id(0, 3))), api.ErrRange},
		{"the first of two tells, many", log(fine, en(0, 1, 1, "thirteen byte"), api.Entry{}), api.ErrMany},
	} {
		wantEncode(t, c.name, c.l, "", c.want)
	}
}

// wrongBytes: what no entry begins with, whatever Decode of chapter 1 says of it.
var wrongBytes = []struct {
	name string
	s    string
}{
	{"a region alone", bytesOf(0)},
	{"no count of links", bytesOf(0, 1, 1)},
	{"no size of the text", bytesOf(0, 1, 1, 0)},
	{"a text that ends too early", bytesOf(0, 1, 1, 0, 3) + "xy"},
	{"a link that ends too early", bytesOf(0, 3, 1, 1, 0)},
	{"region 2", bytesOf(2, 1, 1, 0, 0)},
	{"region 2 alone", bytesOf(2)},
	{"a digit", "0"},
	{"region 255", bytesOf(255, 1, 1, 0, 0)},
	{"number 0", bytesOf(0, 0, 1, 0, 0)},
	{"number 21", bytesOf(0, 21, 1, 0, 0)},
	{"no color", bytesOf(0, 1, 0, 0, 0)},
	{"colors 8", bytesOf(0, 1, 8, 0, 0)},
	{"a text too long", bytesOf(0, 1, 1, 0, 13) + "thirteen byte"},
	{"too many links", bytesOf(0, 20, 1, 7, 0, 1, 0, 2, 0, 3, 0, 4, 0, 5, 0, 6, 0, 7, 0)},
	{"a link of region 2", bytesOf(0, 3, 1, 1, 2, 1, 0)},
	{"a link to number 0", bytesOf(0, 3, 1, 1, 1, 0, 0)},
	{"a link to itself", bytesOf(0, 3, 1, 1, 0, 3, 0)},
	{"links that fall", bytesOf(0, 3, 1, 2, 0, 2, 0, 1, 0)},
}

// J1: Decode: ErrForm, whatever is wrong, and wherever; P1: no entry comes with it.
func TestJ1DecodeForm(t *testing.T) {
	one := bytesOf(1, 2, 3, 1, 0, 4, 2) + "xy"
	for _, c := range wrongBytes {
		for _, n := range []int{0, 1, 2, api.MaxLog - 1, api.MaxLog} {
			wantDecode(t, c.name, strings.Repeat(one, n)+c.s, nil, api.ErrForm)
		}
	}
	wantDecode(t, "what is wrong is not passed over", bytesOf(2)+one, nil, api.ErrForm)
	wantDecode(t, "a byte too many", one+"\x00", nil, api.ErrForm)
	wantDecode(t, "no packet", "put a x", nil, api.ErrForm)
}

// J1: Decode: of all beginnings of a packet just those are packets that end behind an entry.
func TestJ1DecodeBeginnings(t *testing.T) {
	l := mixed()
	ends := map[int]int{}
	for n := range len(l) + 1 {
		s, _ := packet.Encode(l[:n])
		ends[len(s)] = n
	}
	s, _ := packet.Encode(l)
	for size := range len(s) + 1 {
		if n, ok := ends[size]; ok {
			wantDecode(t, "some entries", s[:size], l[:n], api.OK)
		} else {
			wantDecode(t, "a piece of one", s[:size], nil, api.ErrForm)
		}
	}
}

// J1: Decode: one more than MaxLog: what is wrong with that one ahead of ErrMany, which is ahead of what comes behind.
func TestJ1DecodeMany(t *testing.T) {
	one, fine := bytesOf(0, 1, 1, 0, 1)+"x", en(0, 1, 1, "x")
	wantDecode(t, "one less", strings.Repeat(one, api.MaxLog-1), times(api.MaxLog-1, fine), api.OK)
	wantDecode(t, "as many as there may be", strings.Repeat(one, api.MaxLog), times(api.MaxLog, fine), api.OK)
	for _, n := range []int{api.MaxLog + 1, api.MaxLog + 2, 1000, 100000} {
		if l, errno := packet.Decode(strings.Repeat(one, n)); len(l) != 0 || errno != api.ErrMany {
			t.Errorf("Decode of %d entries is %v %d", n, l, errno)
		}
	}
	for _, c := range wrongBytes {
		wantDecode(t, c.name, strings.Repeat(one, api.MaxLog)+c.s, nil, api.ErrForm)
		wantDecode(t, c.name, strings.Repeat(one, api.MaxLog+1)+c.s, nil, api.ErrMany)
		wantDecode(t, c.name, strings.Repeat(one, api.MaxLog-1)+c.s, nil, api.ErrForm)
	}
}

// J1: Missing: what a vector has not, in the log's order.
func TestJ1Missing(t *testing.T) {
	l := mixed()
	for _, c := range []struct {
		v      api.Vector
		places []int
	}{
		{api.Vector{}, []int{0, 1, 2, 3, 4, 5}},
		{api.Vector{3, 3}, nil},
		{api.Vector{20, 20}, nil},
		{api.Vector{3, 0}, []int{0, 2, 5}},
		{api.Vector{0, 3}, []int{1, 3, 4}},
		{api.Vector{20, 0}, []int{0, 2, 5}},
		{api.Vector{1, 1}, []int{2, 3, 4, 5}},
		{api.Vector{2, 1}, []int{2, 4, 5}},
		{api.Vector{1, 2}, []int{3, 4, 5}},
		{api.Vector{2, 3}, []int{4}},
		{api.Vector{3, 2}, []int{5}},
	} {
		var want []api.Entry
		for _, at := range c.places {
			want = append(want, l[at])
		}
		wantMissing(t, "mixed", l, c.v, want, api.OK)
		wantMissing(t, "an empty log", nil, c.v, nil, api.OK)
	}
}

// wrongLogs: what Check of chapter 5 says.
var wrongLogs = []struct {
	name string
	l    []api.Entry
	want api.Errno
}{
	{"too many", make([]api.Entry, api.MaxLog+1), api.ErrMany},
	{"nothing", log(api.Entry{}), api.ErrRange},
	{"region far below 0", log(en(math.MinInt, 1, 1, "")), api.ErrRange},
	{"a text too long", log(en(0, 1, 1, "thirteen byte")), api.ErrMany},
	{"twice", log(en(0, 1, 1, ""), en(0, 1, 1, "")), api.ErrTwice},
	{"a number is missing", log(en(0, 2, 1, "")), api.ErrState},
	{"a link is missing", log(en(0, 1, 1, "", id(1, 1))), api.ErrNone},
	{"not in order", log(en(0, 1, 1, "", id(1, 1)), en(1, 1, 1, "")), api.ErrNone},
	{"the second one", log(en(0, 1, 1, ""), en(0, 3, 1, "")), api.ErrState},
}

var wrongVectors = []api.Vector{{-1, 0}, {0, -1}, {21, 0}, {0, 21}, {math.MinInt, 0}, {0, math.MaxInt}, {21, -1}}

// J1: Missing: Check of the log, then of the vector; P1: no entry comes with an error.
func TestJ1MissingErrors(t *testing.T) {
	for _, c := range wrongLogs {
		for _, v := range append([]api.Vector{{}, {1, 1}, {20, 20}}, wrongVectors...) {
			wantMissing(t, c.name, c.l, v, nil, c.want)
		}
	}
	for _, v := range wrongVectors {
		wantMissing(t, "a vector that is none", mixed(), v, nil, api.ErrRange)
		wantMissing(t, "a vector that is none, nothing is there", nil, v, nil, api.ErrRange)
	}
}
