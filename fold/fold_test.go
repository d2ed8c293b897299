package fold_test

import (
	"math"
	"slices"
	"strings"
	"testing"

	"cutwater/api"
	"cutwater/fold"
)

func id(region, number int) api.Id { return api.Id{Region: region, Number: number} }

func en(region, number, colors int, text string, links ...api.Id) api.Entry {
	return api.Entry{Id: id(region, number), Colors: colors, Text: text, Links: links}
}

func log(l ...api.Entry) []api.Entry { return l }

func pair(key string, values ...string) api.Pair { return api.Pair{Key: key, Values: values} }

func pairs(l ...api.Pair) []api.Pair { return l }

func wantOp(t *testing.T, s string, kind int, key, value string, errno api.Errno) {
	t.Helper()
	if a, b, c, got := fold.Op(s); a != kind || b != key || c != value || got != errno {
		t.Errorf("Op(%q) is %d %q %q %d, must be %d %q %q %d", s, a, b, c, got, kind, key, value, errno)
	}
}

// same takes an empty list for none, as P2 does.
func same(a, b []api.Pair) bool {
	return slices.EqualFunc(a, b, func(x, y api.Pair) bool { return x.Key == y.Key && slices.Equal(x.Values, y.Values) })
}

// wantMap: the pairs; P1: nothing, if there is an error.
func wantMap(t *testing.T, name string, l []api.Entry, colors int, want []api.Pair, errno api.Errno) {
	t.Helper()
	if x, got := fold.Map(l, colors); !same(x, want) || got != errno {
		t.Errorf("%s: Map of colors %d is %q %d, must be %q %d", name, colors, x, got, want, errno)
	}
}

func wantGet(t *testing.T, name string, l []api.Entry, colors int, key string, want []string, errno api.Errno) {
	t.Helper()
	if x, got := fold.Get(l, colors, key); !slices.Equal(x, want) || got != errno {
		t.Errorf("%s: Get of colors %d and %q is %q %d, must be %q %d", name, colors, key, x, got, want, errno)
	}
}

// words that may be keys and values.
var words = []string{"a", "z", "0", "9", "m5", "5m", "abc", "019", "put", "zzz"}

// noWords: too short, too long, or with another byte than a small letter or a digit.
var noWords = []string{
	"", "abcd", "0123", "drop", "A", "Z", "aB", "a-", "_", "a b", " ", " a", "a ", "\t", "\n", "a\n", "\x00", "a\x00", "\x7f",
	"\xff", "\x80", "é", "ä", "ａ", "٣", "`", "{", "/", ":", "@", "[", "a,b", "a=b", strings.Repeat("a", 100000),
}

// I1: put and drop, of all keys and values that there are of these.
func TestI1Ops(t *testing.T) {
	for _, key := range words {
		wantOp(t, "drop "+key, api.MapDrop, key, "", api.OK)
		for _, value := range words {
			wantOp(t, "put "+key+" "+value, api.MapPut, key, value, api.OK)
		}
	}
}

// I1: a key or a value that is none; P1: nothing comes with ErrForm.
func TestI1NoKeyNoValue(t *testing.T) {
	for _, no := range noWords {
		wantOp(t, "drop "+no, 0, "", "", api.ErrForm)
		for _, word := range []string{"a", "b2", "c3d"} {
			wantOp(t, "put "+no+" "+word, 0, "", "", api.ErrForm)
			wantOp(t, "put "+word+" "+no, 0, "", "", api.ErrForm)
		}
	}
}

// I1: other texts are no ops.
func TestI1NoOp(t *testing.T) {
	for _, s := range []string{
		"", " ", "a", "put", "drop", "put ", "drop ", "put a", "puta x", "puta", "dropa", "put a x y", "drop a x", "put  a x", "put a  x", "drop  a",
		" put a x", " drop a", "put a x ", "drop a ", "Put a x", "PUT a x", "Drop a", "put\ta x", "put a\tx", "drop\ta", "put a x\n", "drop a\n", "\nput a x",
		"put a x\x00", "\x00put a x", "get a", "put,a,x", "a put x", "drop put a", "put drop a", "hello", "pu a x", "dro a", "putt a x", "drop=a", "put a=x",
	} {
		wantOp(t, s, 0, "", "", api.ErrForm)
	}
}

// I1: each byte that there is, as a key, as the second one of a value, and as a blank.
func TestI1EachByte(t *testing.T) {
	for n := range 256 {
		c := string([]byte{byte(n)})
		if strings.Contains("abcdefghijklmnopqrstuvwxyz0123456789", c) {
			wantOp(t, "drop "+c, api.MapDrop, c, "", api.OK)
			wantOp(t, "put a b"+c, api.MapPut, "a", "b"+c, api.OK)
			wantOp(t, "drop"+c+"a", 0, "", "", api.ErrForm)
			continue
		}
		wantOp(t, "drop "+c, 0, "", "", api.ErrForm)
		wantOp(t, "put a b"+c, 0, "", "", api.ErrForm)
		if n != ' ' {
			wantOp(t, "put"+c+"a b", 0, "", "", api.ErrForm)
			wantOp(t, "put a"+c+"b", 0, "", "", api.ErrForm)
		}
	}
}

// good logs, and their maps.
var good = []struct {
	name   string
	l      []api.Entry
	colors int
	want   []api.Pair
}{
	{"an empty log", nil, 7, nil},
	{"an empty list", log(), 1, nil},
	{"one value", log(en(0, 1, 1, "put a x")), 1, pairs(pair("a", "x"))},
	{"of no such color", log(en(0, 1, 1, "put a x")), 6, nil},
	{"of one color of two", log(en(0, 1, 5, "put a x")), 6, pairs(pair("a", "x"))},
	{"no op", log(en(0, 1, 1, "hello"), en(0, 2, 1, ""), en(0, 3, 1, "put a  x")), 1, nil},
	{"a drop of what is not there", log(en(0, 1, 1, "drop a")), 1, nil},
	{"nobody knew", log(en(1, 1, 1, "put a y"), en(0, 1, 1, "put a x")), 1, pairs(pair("a", "x", "y"))},
	{"nobody knew, of one region", log(en(0, 1, 1, "put a y"), en(0, 2, 1, "put a x")), 1, pairs(pair("a", "x", "y"))},
	{"one knew of both", log(en(1, 1, 1, "put a y"), en(0, 1, 1, "put a x"), en(0, 2, 1, "put a z", id(0, 1), id(1, 1))), 1, pairs(pair("a", "z"))},
	{"one knew of one", log(en(1, 1, 1, "put a y"), en(0, 1, 1, "put a x"), en(0, 2, 1, "put a z", id(0, 1))), 1, pairs(pair("a", "y", "z"))},
	{"one knew by way of another", log(en(0, 1, 1, "put a x"), en(0, 2, 1, "put a y", id(0, 1)), en(0, 3, 1, "put a z", id(0, 2))), 1, pairs(pair("a", "z"))},
	{"by way of another key", log(en(0, 1, 1, "put a x"), en(0, 2, 1, "put b y", id(0, 1)), en(0, 3, 1, "put a z", id(0, 2))), 1, pairs(pair("a", "z"), pair("b", "y"))},
	{"by way of what is no op", log(en(0, 1, 1, "put a x"), en(1, 1, 1, "hello", id(0, 1)), en(1, 2, 1, "drop a", id(1, 1))), 1, nil},
	{"by way of another color", log(en(0, 1, 1, "put a x"), en(1, 1, 2, "put b y", id(0, 1)), en(1, 2, 1, "put a z", id(1, 1))), 1, pairs(pair("a", "z"))},
	{"what knew is of another color", log(en(0, 1, 1, "put a x"), en(0, 2, 2, "put a y", id(0, 1))), 1, pairs(pair("a", "x"))},
	{"what knew is of both colors", log(en(0, 1, 1, "put a x"), en(0, 2, 3, "put a y", id(0, 1))), 1, pairs(pair("a", "y"))},
	{"what knew is of another key", log(en(0, 1, 1, "put a x"), en(0, 2, 1, "put b x", id(0, 1))), 1, pairs(pair("a", "x"), pair("b", "x"))},
	{"what knew is of a longer key", log(en(0, 1, 1, "put a x"), en(0, 2, 1, "drop aa", id(0, 1))), 1, pairs(pair("a", "x"))},
	{"what knew is no op", log(en(0, 1, 1, "put a x"), en(0, 2, 1, "drop a ", id(0, 1))), 1, pairs(pair("a", "x"))},
	{"a drop that knew", log(en(0, 1, 1, "put a x"), en(0, 2, 1, "drop a", id(0, 1))), 1, nil},
	{"a drop that did not", log(en(0, 1, 1, "put a x"), en(0, 2, 1, "drop a"), en(1, 1, 1, "drop a")), 1, pairs(pair("a", "x"))},
	{"a drop of one of two", log(en(0, 1, 1, "put a x"), en(1, 1, 1, "put a y"), en(0, 2, 1, "drop a", id(0, 1))), 1, pairs(pair("a", "y"))},
	{"a put that knew of a drop", log(en(0, 1, 1, "put a x"), en(0, 2, 1, "drop a", id(0, 1)), en(0, 3, 1, "put a x", id(0, 2))), 1, pairs(pair("a", "x"))},
	{"one value twice", log(en(0, 1, 1, "put a x"), en(1, 1, 1, "put a x")), 1, pairs(pair("a", "x"))},
	{"one value three times, another between", log(en(0, 1, 1, "put a x"), en(1, 1, 1, "put a y"), en(0, 2, 1, "put a x"), en(1, 2, 1, "put a a"), en(1, 3, 1, "put a x")), 1, pairs(pair("a", "a", "x", "y"))},
	{"one value twice, one of them stands", log(en(0, 1, 1, "put a x"), en(1, 1, 1, "put a x"), en(0, 2, 1, "put a y", id(0, 1))), 1, pairs(pair("a", "x", "y"))},
	{"one value of two keys", log(en(0, 1, 1, "put b x"), en(1, 1, 1, "put a x")), 1, pairs(pair("a", "x"), pair("b", "x"))},
	{"keys rise byte by byte", log(en(0, 1, 1, "put b 1"), en(0, 2, 1, "put ab 1"), en(0, 3, 1, "put a 1"), en(0, 4, 1, "put 9 1"), en(0, 5, 1, "put 10 1"), en(0, 6, 1, "put aa1 1"), en(0, 7, 1, "put aa 1")), 1,
		pairs(pair("10", "1"), pair("9", "1"), pair("a", "1"), pair("aa", "1"), pair("aa1", "1"), pair("ab", "1"), pair("b", "1"))},
	{"values rise byte by byte", log(en(0, 1, 1, "put k b"), en(0, 2, 1, "put k ab"), en(0, 3, 1, "put k a"), en(0, 4, 1, "put k 9"), en(0, 5, 1, "put k 10"), en(0, 6, 1, "put k aa1"), en(0, 7, 1, "put k aa")), 1,
		pairs(pair("k", "10", "9", "a", "aa", "aa1", "ab", "b"))},
	{"keys that come again", log(en(0, 1, 1, "put b 2"), en(0, 2, 1, "put a 2"), en(0, 3, 1, "put b 1"), en(0, 4, 1, "put a 1")), 1, pairs(pair("a", "1", "2"), pair("b", "1", "2"))},
	{"the longest op", log(en(0, 1, 1, "put abc xyz")), 1, pairs(pair("abc", "xyz"))},
}

// I2: what stands; Get has the same.
func TestI2Map(t *testing.T) {
	for _, c := range good {
		wantMap(t, c.name, c.l, c.colors, c.want, api.OK)
		for _, p := range c.want {
			wantGet(t, c.name, c.l, c.colors, p.Key, p.Values, api.OK)
		}
	}
}

// I2: Get of a key that is not there: nobody put it, it was dropped, or that was of other colors.
func TestI2GetOfNothing(t *testing.T) {
	l := log(en(0, 1, 1, "put a x"), en(0, 2, 2, "put b y"), en(0, 3, 1, "put c z"), en(0, 4, 1, "drop c", id(0, 3)), en(0, 5, 1, "put aaa x"))
	for _, key := range []string{"b", "c", "q", "x", "aa", "0", "put"} {
		wantGet(t, "not there", l, 1, key, nil, api.OK)
	}
	wantGet(t, "an empty log", nil, 1, "a", nil, api.OK)
}

// wrong logs: what Check of chapter 5 says, ahead of all else.
var wrong = []struct {
	name string
	l    []api.Entry
	want api.Errno
}{
	{"too many", make([]api.Entry, api.MaxLog+1), api.ErrMany},
	{"far too many", make([]api.Entry, 100000), api.ErrMany},
	{"an entry of nothing", log(api.Entry{}), api.ErrRange},
	{"no color", log(en(0, 1, 0, "put a x")), api.ErrRange},
	{"region 2", log(en(2, 1, 1, "put a x")), api.ErrRange},
	{"region far below 0", log(en(math.MinInt, 1, 1, "put a x")), api.ErrRange},
	{"a text too long", log(en(0, 1, 1, "put abcd wxyz")), api.ErrMany},
	{"twice", log(en(0, 1, 1, "put a x"), en(0, 1, 1, "put a x")), api.ErrTwice},
	{"a number is missing", log(en(0, 2, 1, "put a x")), api.ErrState},
	{"a link is missing", log(en(0, 1, 1, "put a x", id(1, 1))), api.ErrNone},
	{"the second one, of another color", log(en(0, 1, 1, "put a x"), en(0, 3, 2, "put a x")), api.ErrState},
	{"the first one that is wrong tells", log(en(0, 1, 1, "put a x", id(1, 1)), en(0, 2, 0, "put a x")), api.ErrNone},
}

var wrongColors = []int{0, 8, -1, 9, 16, 256, math.MinInt, math.MaxInt}

// I2: which error is told first; P1: nothing comes with it.
func TestI2Errors(t *testing.T) {
	l := log(en(0, 1, 7, "put a x"))
	for _, c := range wrong {
		for _, colors := range append([]int{1, 7}, wrongColors...) {
			wantMap(t, c.name, c.l, colors, nil, c.want)
			for _, key := range []string{"a", "", "abcd"} {
				wantGet(t, c.name, c.l, colors, key, nil, c.want)
			}
		}
	}
	for _, colors := range wrongColors {
		for _, x := range [][]api.Entry{l, nil} {
			wantMap(t, "wrong colors", x, colors, nil, api.ErrRange)
			for _, key := range append([]string{"a"}, noWords...) {
				wantGet(t, "wrong colors", x, colors, key, nil, api.ErrRange)
			}
		}
	}
	for _, key := range noWords {
		wantGet(t, "no key", l, 1, key, nil, api.ErrForm)
		wantGet(t, "no key, nothing is there", nil, 1, key, nil, api.ErrForm)
	}
}

// I2: a log of as many entries as there may be.
func TestI2GreatestLog(t *testing.T) {
	var l []api.Entry
	for n := 1; n <= api.MaxNumber; n++ {
		for region := range 2 {
			e := en(region, n, 7, "put k "+string(rune('a'+n))+string(rune('0'+region)))
			if n > 1 {
				e.Links = append(e.Links, id(region, n-1))
			}
			l = append(l, e)
		}
	}
	wantMap(t, "two rows", l, 7, pairs(pair("k", "u0", "u1")), api.OK)
	for i := range l {
		l[i].Links = nil
	}
	if x, errno := fold.Get(l, 7, "k"); len(x) != api.MaxLog || !slices.IsSorted(x) || errno != api.OK {
		t.Errorf("all of them stand, and it is %q %d", x, errno)
	}
}
