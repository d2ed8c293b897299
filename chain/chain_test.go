package chain_test

import (
	"math"
	"reflect"
	"strings"
	"testing"

	"cutwater/api"
	"cutwater/chain"
)

var (
	none = api.Cell{}
	junk = api.Cell{Junk: true}
	both = api.Cell{There: true, Junk: true}
)

func text(s string) api.Cell { return api.Cell{There: true, Text: s} }

func cells(l ...api.Cell) api.Chain { return api.Chain{Cells: l} }

// many cells, all of them texts.
func many(n int) []api.Cell {
	var l []api.Cell
	for range n {
		l = append(l, text("m"))
	}
	return l
}

const long = "thirteen byte"

// same takes a nil list for an empty one, as P2 does.
func same(a, b api.Chain) bool {
	if len(a.Cells) == 0 && len(b.Cells) == 0 {
		a.Cells, b.Cells = nil, nil
	}
	return reflect.DeepEqual(a, b)
}

// want an answer; P1: the zero chain, if there is an error.
func want(t *testing.T, name string, c api.Chain, got api.Errno, x api.Chain, errno api.Errno) {
	t.Helper()
	if !same(c, x) || got != errno {
		t.Errorf("%s: it is %v %d, must be %v %d", name, c, got, x, errno)
	}
}

var checks = []struct {
	name string
	c    api.Chain
	want api.Errno
}{
	{"nothing", api.Chain{}, api.OK},
	{"an empty list", api.Chain{Cells: []api.Cell{}}, api.OK},
	{"greatest epoch, sealed", api.Chain{Epoch: api.MaxEpoch, Sealed: true}, api.OK},
	{"all cut off", api.Chain{Cut: api.MaxPlace}, api.OK},
	{"all places", api.Chain{Cells: many(api.MaxPlace)}, api.OK},
	{"all places, some cut off", api.Chain{Cut: 10, Cells: many(20)}, api.OK},
	{"an empty text", cells(text("")), api.OK},
	{"greatest text", cells(text("twelve bytes")), api.OK},
	{"text of any bytes", cells(text("\x00\xff\n")), api.OK},
	{"junk last", cells(none, text("a"), none, junk), api.OK},

	{"epoch below 0", api.Chain{Epoch: -1}, api.ErrRange},
	{"epoch too great", api.Chain{Epoch: api.MaxEpoch + 1}, api.ErrRange},
	{"epoch far below 0", api.Chain{Epoch: math.MinInt}, api.ErrRange},
	{"cut below 0", api.Chain{Cut: -1}, api.ErrRange},
	{"cut too great", api.Chain{Cut: api.MaxPlace + 1}, api.ErrRange},
	{"cut far too great", api.Chain{Cut: math.MaxInt, Cells: many(1)}, api.ErrRange},
	{"cut far below 0", api.Chain{Cut: math.MinInt, Cells: many(1)}, api.ErrRange},
	{"too many cells", api.Chain{Cells: many(api.MaxPlace + 1)}, api.ErrMany},
	{"too many cells behind cut", api.Chain{Cut: 10, Cells: many(21)}, api.ErrMany},
	{"a cell behind all cut", api.Chain{Cut: api.MaxPlace, Cells: many(1)}, api.ErrMany},
	{"there and junk", cells(both), api.ErrState},
	{"there and junk, not last", cells(text("a"), both, text("b")), api.ErrState},
	{"junk with text", cells(api.Cell{Junk: true, Text: "x"}), api.ErrForm},
	{"nothing with text", cells(api.Cell{Text: "x"}, text("a")), api.ErrForm},
	{"text too long", cells(text(long)), api.ErrMany},
	{"text too long, not last", cells(text(long), text("a")), api.ErrMany},
	{"nothing last", cells(text("a"), none), api.ErrState},
	{"nothing alone", cells(none), api.ErrState},

	{"epoch ahead of many", api.Chain{Epoch: -1, Cells: many(31)}, api.ErrRange},
	{"cut ahead of many", api.Chain{Cut: 31, Cells: many(31)}, api.ErrRange},
	{"many ahead of a cell's state", api.Chain{Cells: append(many(30), both)}, api.ErrMany},
	{"many ahead of a cell's form", api.Chain{Cells: append(many(30), api.Cell{Text: "x"})}, api.ErrMany},
	{"many ahead of nothing last", api.Chain{Cells: append(many(30), none)}, api.ErrMany},
	{"a cell's state ahead of its text", cells(api.Cell{There: true, Junk: true, Text: long}), api.ErrState},
	{"a cell's form ahead of its text", cells(api.Cell{Text: long}, text("a")), api.ErrForm},
	{"a cell's form ahead of nothing last", cells(api.Cell{Text: "x"}), api.ErrForm},
	{"first cell's form ahead of the second one's state", cells(api.Cell{Text: "x"}, both), api.ErrForm},
	{"first cell's text ahead of the second one's state", cells(text(long), both), api.ErrMany},
	{"first cell's text ahead of the second one's form", cells(text(long), api.Cell{Text: "x"}), api.ErrMany},
	{"first cell's state ahead of the second one's text", cells(both, text(long)), api.ErrState},
	{"a cell's text ahead of nothing last", cells(text(long), none), api.ErrMany},
}

// B1: what Check says, and which error is told first.
func TestB1Check(t *testing.T) {
	for _, c := range checks {
		if got := chain.Check(c.c); got != c.want {
			t.Errorf("%s: Check is %d, must be %d", c.name, got, c.want)
		}
	}
}

// B2: Check is told ahead of all else by every call; P1: nothing comes with it.
func TestB2CheckFirst(t *testing.T) {
	for _, c := range checks {
		if c.want == api.OK {
			continue
		}
		x, errno := chain.Write(c.c, -7, -7, long)
		want(t, c.name+": Write", x, errno, api.Chain{}, c.want)
		x, errno = chain.Fill(c.c, -7, -7)
		want(t, c.name+": Fill", x, errno, api.Chain{}, c.want)
		x, errno = chain.Seal(c.c, -7)
		want(t, c.name+": Seal", x, errno, api.Chain{}, c.want)
		x, errno = chain.Open(c.c)
		want(t, c.name+": Open", x, errno, api.Chain{}, c.want)
		x, errno = chain.Trim(c.c, -7)
		want(t, c.name+": Trim", x, errno, api.Chain{}, c.want)
		if s, errno := chain.Read(c.c, -7); s != "" || errno != c.want {
			t.Errorf("%s: Read is %q %d", c.name, s, errno)
		}
		if n, errno := chain.Tail(c.c); n != 0 || errno != c.want {
			t.Errorf("%s: Tail is %d %d", c.name, n, errno)
		}
	}
}

// row: places 3 to 6 of epoch 2: a text, nothing, junk, an empty text.
func row() api.Chain {
	return api.Chain{Epoch: 2, Cut: 3, Cells: []api.Cell{text("a"), none, junk, text("")}}
}

// sealed: the row behind a seal.
func sealed() api.Chain {
	c := row()
	c.Sealed = true
	return c
}

// rowOf: the row with other cells.
func rowOf(l ...api.Cell) api.Chain {
	c := row()
	c.Cells = l
	return c
}

// B2: Write: where a text may come, and which error is told first.
func TestB2Write(t *testing.T) {
	last := row()
	last.Cells = append(last.Cells, make([]api.Cell, 22)...)
	last.Cells = append(last.Cells, text("z"))
	for _, c := range []struct {
		name      string
		c         api.Chain
		epoch, at int
		text      string
		x         api.Chain
		want      api.Errno
	}{
		{"the first place", api.Chain{}, 0, 0, "a", cells(text("a")), api.OK},
		{"an empty text", api.Chain{}, 0, 0, "", cells(text("")), api.OK},
		{"between", row(), 2, 4, "b", rowOf(text("a"), text("b"), junk, text("")), api.OK},
		{"right behind", row(), 2, 7, "b", rowOf(text("a"), none, junk, text(""), text("b")), api.OK},
		{"farther behind", row(), 2, 9, "b", rowOf(text("a"), none, junk, text(""), none, none, text("b")), api.OK},
		{"the last place", row(), 2, 29, "z", last, api.OK},
		{"greatest text", row(), 2, 4, "twelve bytes", rowOf(text("a"), text("twelve bytes"), junk, text("")), api.OK},
		{"behind all cut but one", api.Chain{Cut: 29}, 0, 29, "z", api.Chain{Cut: 29, Cells: []api.Cell{text("z")}}, api.OK},

		{"below 0", row(), 2, -1, "x", api.Chain{}, api.ErrRange},
		{"far below 0", row(), 2, math.MinInt, "x", api.Chain{}, api.ErrRange},
		{"behind the last place", row(), 2, api.MaxPlace, "x", api.Chain{}, api.ErrRange},
		{"far behind the last place", row(), 2, math.MaxInt, "x", api.Chain{}, api.ErrRange},
		{"text too long", row(), 2, 4, long, api.Chain{}, api.ErrMany},
		{"an elder epoch", row(), 1, 4, "x", api.Chain{}, api.ErrState},
		{"a later epoch", row(), 3, 4, "x", api.Chain{}, api.ErrState},
		{"an epoch below 0", row(), -1, 4, "x", api.Chain{}, api.ErrState},
		{"sealed", sealed(), 2, 4, "x", api.Chain{}, api.ErrState},
		{"a text is there", row(), 2, 3, "a", api.Chain{}, api.ErrTwice},
		{"an empty text is there", row(), 2, 6, "x", api.Chain{}, api.ErrTwice},
		{"junk is there", row(), 2, 5, "x", api.Chain{}, api.ErrTwice},
		{"cut off", row(), 2, 2, "x", api.Chain{}, api.ErrTwice},
		{"cut off, the first place", row(), 2, 0, "x", api.Chain{}, api.ErrTwice},

		{"place ahead of text", row(), 2, 30, long, api.Chain{}, api.ErrRange},
		{"place ahead of epoch", row(), 1, -1, "x", api.Chain{}, api.ErrRange},
		{"place ahead of the seal", sealed(), 2, -1, "x", api.Chain{}, api.ErrRange},
		{"text ahead of epoch", row(), 1, 4, long, api.Chain{}, api.ErrMany},
		{"text ahead of the seal", sealed(), 2, 4, long, api.Chain{}, api.ErrMany},
		{"text ahead of what is there", row(), 2, 3, long, api.Chain{}, api.ErrMany},
		{"epoch ahead of what is there", row(), 1, 3, "x", api.Chain{}, api.ErrState},
		{"epoch ahead of what is cut off", row(), 1, 0, "x", api.Chain{}, api.ErrState},
		{"the seal ahead of what is there", sealed(), 2, 3, "x", api.Chain{}, api.ErrState},
	} {
		x, errno := chain.Write(c.c, c.epoch, c.at, c.text)
		want(t, c.name, x, errno, c.x, c.want)
	}
}

// B2: Fill: where junk may come, and which error is told first.
func TestB2Fill(t *testing.T) {
	for _, c := range []struct {
		name      string
		c         api.Chain
		epoch, at int
		x         api.Chain
		want      api.Errno
	}{
		{"the first place", api.Chain{}, 0, 0, cells(junk), api.OK},
		{"between", row(), 2, 4, rowOf(text("a"), junk, junk, text("")), api.OK},
		{"again", row(), 2, 5, row(), api.OK},
		{"farther behind", row(), 2, 8, rowOf(text("a"), none, junk, text(""), none, junk), api.OK},
		{"the last place", api.Chain{Cut: 29}, 0, 29, api.Chain{Cut: 29, Cells: []api.Cell{junk}}, api.OK},

		{"below 0", row(), 2, -1, api.Chain{}, api.ErrRange},
		{"behind the last place", row(), 2, api.MaxPlace, api.Chain{}, api.ErrRange},
		{"an elder epoch", row(), 1, 4, api.Chain{}, api.ErrState},
		{"a later epoch", row(), 3, 4, api.Chain{}, api.ErrState},
		{"sealed", sealed(), 2, 4, api.Chain{}, api.ErrState},
		{"again, sealed", sealed(), 2, 5, api.Chain{}, api.ErrState},
		{"a text is there", row(), 2, 3, api.Chain{}, api.ErrTwice},
		{"an empty text is there", row(), 2, 6, api.Chain{}, api.ErrTwice},
		{"cut off", row(), 2, 2, api.Chain{}, api.ErrTwice},

		{"place ahead of epoch", row(), 1, 30, api.Chain{}, api.ErrRange},
		{"place ahead of the seal", sealed(), 2, 30, api.Chain{}, api.ErrRange},
		{"epoch ahead of what is there", row(), 1, 3, api.Chain{}, api.ErrState},
		{"epoch ahead of what is cut off", row(), 1, 2, api.Chain{}, api.ErrState},
		{"the seal ahead of what is cut off", sealed(), 2, 2, api.Chain{}, api.ErrState},
	} {
		x, errno := chain.Fill(c.c, c.epoch, c.at)
		want(t, c.name, x, errno, c.x, c.want)
	}
}

// B2: Read: each place, of an open chain and of a sealed one.
func TestB2Read(t *testing.T) {
	for _, r := range []struct {
		at   int
		s    string
		want api.Errno
	}{
		{math.MinInt, "", api.ErrRange}, {-1, "", api.ErrRange}, {30, "", api.ErrRange}, {math.MaxInt, "", api.ErrRange},
		{0, "", api.ErrState}, {2, "", api.ErrState}, {3, "a", api.OK}, {4, "", api.ErrNone}, {5, "", api.ErrKind},
		{6, "", api.OK}, {7, "", api.ErrNone}, {29, "", api.ErrNone},
	} {
		for _, c := range []api.Chain{row(), sealed()} {
			if s, errno := chain.Read(c, r.at); s != r.s || errno != r.want {
				t.Errorf("Read(%v, %d) is %q %d, must be %q %d", c, r.at, s, errno, r.s, r.want)
			}
		}
	}
	if s, errno := chain.Read(api.Chain{Cut: api.MaxPlace}, 29); s != "" || errno != api.ErrState {
		t.Errorf("Read of a place, all cut off, is %q %d", s, errno)
	}
}

// B2: Tail: behind all that are there, junk or cut off.
func TestB2Tail(t *testing.T) {
	for _, c := range []struct {
		c    api.Chain
		want int
	}{
		{api.Chain{}, 0}, {row(), 7}, {sealed(), 7}, {cells(none, none, junk), 3}, {cells(text("")), 1},
		{api.Chain{Cut: 12}, 12}, {api.Chain{Cut: 30}, 30}, {api.Chain{Cells: many(30)}, 30},
	} {
		if n, errno := chain.Tail(c.c); n != c.want || errno != api.OK {
			t.Errorf("Tail(%v) is %d %d, must be %d", c.c, n, errno, c.want)
		}
	}
}

// B2: Seal, maybe again; by the chain's epoch alone.
func TestB2Seal(t *testing.T) {
	for _, c := range []api.Chain{row(), sealed()} {
		x, errno := chain.Seal(c, 2)
		want(t, "seal", x, errno, sealed(), api.OK)
		for _, epoch := range []int{-1, 0, 1, 3, math.MaxInt} {
			x, errno = chain.Seal(c, epoch)
			want(t, "another epoch", x, errno, api.Chain{}, api.ErrState)
		}
	}
	x, errno := chain.Seal(api.Chain{Epoch: 99}, 99)
	want(t, "greatest epoch", x, errno, api.Chain{Epoch: 99, Sealed: true}, api.OK)
}

// B2: Open: a sealed one, to the next epoch, as long as there is one.
func TestB2Open(t *testing.T) {
	next := row()
	next.Epoch = 3
	x, errno := chain.Open(sealed())
	want(t, "sealed", x, errno, next, api.OK)
	x, errno = chain.Open(row())
	want(t, "not sealed", x, errno, api.Chain{}, api.ErrState)
	x, errno = chain.Open(api.Chain{Epoch: 98, Sealed: true})
	want(t, "last but one epoch", x, errno, api.Chain{Epoch: 99}, api.OK)
	x, errno = chain.Open(api.Chain{Epoch: 99, Sealed: true})
	want(t, "last epoch", x, errno, api.Chain{}, api.ErrMany)
	x, errno = chain.Open(api.Chain{Epoch: 99})
	want(t, "not sealed, last epoch", x, errno, api.Chain{}, api.ErrState)
}

// trimmed: the row, cut off elsewhere.
func trimmed(cut int, l ...api.Cell) api.Chain {
	return api.Chain{Epoch: 2, Cut: cut, Cells: l}
}

// B2: Trim: ahead of a place, whether or not something was there; what is cut off stays so.
func TestB2Trim(t *testing.T) {
	for _, c := range []struct {
		to   int
		x    api.Chain
		want api.Errno
	}{
		{0, row(), api.OK}, {2, row(), api.OK}, {3, row(), api.OK},
		{4, trimmed(4, none, junk, text("")), api.OK}, {5, trimmed(5, junk, text("")), api.OK},
		{6, trimmed(6, text("")), api.OK}, {7, trimmed(7), api.OK}, {8, trimmed(8), api.OK}, {30, trimmed(30), api.OK},
		{-1, api.Chain{}, api.ErrRange}, {31, api.Chain{}, api.ErrRange},
		{math.MinInt, api.Chain{}, api.ErrRange}, {math.MaxInt, api.Chain{}, api.ErrRange},
	} {
		x, errno := chain.Trim(row(), c.to)
		want(t, "open", x, errno, c.x, c.want)
		c.x.Sealed = c.want == api.OK
		x, errno = chain.Trim(sealed(), c.to)
		want(t, "sealed", x, errno, c.x, c.want)
	}
}

// calls that answer a chain, each of them as it has no error for the row or the sealed one.
var calls = []struct {
	name string
	of   func() api.Chain
	do   func(api.Chain) (api.Chain, api.Errno)
}{
	{"Write between", row, func(c api.Chain) (api.Chain, api.Errno) { return chain.Write(c, 2, 4, "w") }},
	{"Write behind", row, func(c api.Chain) (api.Chain, api.Errno) { return chain.Write(c, 2, 7, "w") }},
	{"Write farther", row, func(c api.Chain) (api.Chain, api.Errno) { return chain.Write(c, 2, 9, "w") }},
	{"Fill between", row, func(c api.Chain) (api.Chain, api.Errno) { return chain.Fill(c, 2, 4) }},
	{"Fill again", row, func(c api.Chain) (api.Chain, api.Errno) { return chain.Fill(c, 2, 5) }},
	{"Fill behind", row, func(c api.Chain) (api.Chain, api.Errno) { return chain.Fill(c, 2, 7) }},
	{"Seal", row, func(c api.Chain) (api.Chain, api.Errno) { return chain.Seal(c, 2) }},
	{"Seal again", sealed, func(c api.Chain) (api.Chain, api.Errno) { return chain.Seal(c, 2) }},
	{"Open", sealed, chain.Open},
	{"Trim nothing", row, func(c api.Chain) (api.Chain, api.Errno) { return chain.Trim(c, 0) }},
	{"Trim some", row, func(c api.Chain) (api.Chain, api.Errno) { return chain.Trim(c, 5) }},
	{"Trim all", row, func(c api.Chain) (api.Chain, api.Errno) { return chain.Trim(c, 7) }},
}

// roomy: the same chain, with room behind its cells; and that room's whole list.
func roomy(c api.Chain) (api.Chain, []api.Cell) {
	all := append(append([]api.Cell{}, c.Cells...), text("behind"), junk, both, none)
	c.Cells = all[:len(c.Cells)]
	return c, all
}

// P2: what is handed in is only read, the room behind it too, and an answer shares nothing with it.
func TestP2AnswersAreTheCallers(t *testing.T) {
	for _, call := range calls {
		c, all := roomy(call.of())
		before := append([]api.Cell{}, all...)
		x, errno := call.do(c)
		if errno != api.OK {
			t.Errorf("%s has error %d", call.name, errno)
		}
		mine := append([]api.Cell{}, x.Cells...)
		for i := range x.Cells[:cap(x.Cells)] {
			x.Cells[:cap(x.Cells)][i] = text("changed")
		}
		if !reflect.DeepEqual(all, before) {
			t.Errorf("%s: %v was handed in, and is %v", call.name, before, all)
		}
		again, _ := call.do(c)
		if !same(cells(again.Cells...), cells(mine...)) {
			t.Errorf("%s: it is %v the second time, was %v", call.name, again.Cells, mine)
		}
		for i := range all {
			all[i] = text("changed")
		}
		if !same(cells(again.Cells...), cells(mine...)) {
			t.Errorf("%s: the answer is %v, and was %v", call.name, again.Cells, mine)
		}
	}
}

// P2: nor do calls with an error, or those that only look, change anything.
func TestP2HandedInIsOnlyRead(t *testing.T) {
	for _, k := range checks {
		c, all := roomy(k.c)
		before := append([]api.Cell{}, all...)
		chain.Check(c)
		chain.Tail(c)
		for at := -1; at <= api.MaxPlace; at++ {
			chain.Read(c, at)
			chain.Write(c, c.Epoch, at, "w")
			chain.Fill(c, c.Epoch, at)
			chain.Trim(c, at)
		}
		if !reflect.DeepEqual(all, before) {
			t.Errorf("%s: %v was handed in, and is %v", k.name, before, all)
		}
	}
}

// draw: numbers that are the same each time.
type draw uint64

func (d *draw) n(n int) int {
	*d = *d*6364136223846793005 + 1442695040888963407
	return int(uint64(*d) >> 33 % uint64(n))
}

// model: a chain by its places: what stands there, and what is cut off.
type model struct {
	epoch, cut int
	sealed     bool
	texts      map[int]string
	junk       map[int]bool
}

func (m *model) write(epoch, at int, s string) api.Errno {
	_, there := m.texts[at]
	switch {
	case at < 0 || at >= 30:
		return api.ErrRange
	case len(s) > 12:
		return api.ErrMany
	case epoch != m.epoch || m.sealed:
		return api.ErrState
	case at < m.cut || there || m.junk[at]:
		return api.ErrTwice
	}
	m.texts[at] = s
	return api.OK
}

func (m *model) fill(epoch, at int) api.Errno {
	_, there := m.texts[at]
	switch {
	case at < 0 || at >= 30:
		return api.ErrRange
	case epoch != m.epoch || m.sealed:
		return api.ErrState
	case at < m.cut || there:
		return api.ErrTwice
	}
	m.junk[at] = true
	return api.OK
}

func (m *model) seal(epoch int) api.Errno {
	if epoch != m.epoch {
		return api.ErrState
	}
	m.sealed = true
	return api.OK
}

func (m *model) open() api.Errno {
	if !m.sealed {
		return api.ErrState
	}
	if m.epoch == 99 {
		return api.ErrMany
	}
	m.sealed = false
	m.epoch++
	return api.OK
}

func (m *model) trim(to int) api.Errno {
	if to < 0 || to > 30 {
		return api.ErrRange
	}
	m.cut = max(m.cut, to)
	return api.OK
}

func (m *model) read(at int) (string, api.Errno) {
	s, there := m.texts[at]
	switch {
	case at < 0 || at >= 30:
		return "", api.ErrRange
	case at < m.cut:
		return "", api.ErrState
	case m.junk[at]:
		return "", api.ErrKind
	case !there:
		return "", api.ErrNone
	}
	return s, api.OK
}

func (m *model) tail() int {
	tail := m.cut
	for at := range 30 {
		if _, there := m.texts[at]; there || m.junk[at] {
			tail = max(tail, at+1)
		}
	}
	return tail
}

// step does one drawn thing to both, and tells what it was.
func step(d *draw, c api.Chain, m *model) (string, api.Chain, api.Errno, api.Errno) {
	epoch, at := m.epoch+d.n(8)/7-d.n(8)/7, d.n(32)-1
	switch d.n(16) {
	case 0, 1, 2, 3, 4, 5, 6:
		s := strings.Repeat("x", d.n(14))
		x, errno := chain.Write(c, epoch, at, s)
		return "Write", x, errno, m.write(epoch, at, s)
	case 7, 8, 9, 10, 11:
		x, errno := chain.Fill(c, epoch, at)
		return "Fill", x, errno, m.fill(epoch, at)
	case 12:
		x, errno := chain.Seal(c, epoch)
		return "Seal", x, errno, m.seal(epoch)
	case 13, 14:
		x, errno := chain.Open(c)
		return "Open", x, errno, m.open()
	}
	to := d.n(100) - 1 - m.cut/2
	x, errno := chain.Trim(c, to)
	return "Trim", x, errno, m.trim(to)
}

// wantLikeModel: each place is read, and the tail is, as of the model.
func wantLikeModel(t *testing.T, c api.Chain, m *model) {
	t.Helper()
	if c.Epoch != m.epoch || c.Sealed != m.sealed || c.Cut != m.cut || chain.Check(c) != api.OK {
		t.Fatalf("%v must be of epoch %d, sealed %v, cut %d", c, m.epoch, m.sealed, m.cut)
	}
	if n, errno := chain.Tail(c); n != m.tail() || errno != api.OK {
		t.Fatalf("Tail(%v) is %d %d, must be %d", c, n, errno, m.tail())
	}
	for at := -1; at <= 30; at++ {
		s, errno := chain.Read(c, at)
		if x, want := m.read(at); s != x || errno != want {
			t.Fatalf("Read(%v, %d) is %q %d, must be %q %d", c, at, s, errno, x, want)
		}
	}
}

// B3: whatever is done, what was written is read as it was till it is cut off; no elder epoch writes, nor does anyone behind a seal.
func TestB3Scripts(t *testing.T) {
	d := draw(5)
	for range 300 {
		m := &model{epoch: d.n(2) * 97, texts: map[int]string{}, junk: map[int]bool{}}
		c := api.Chain{Epoch: m.epoch}
		for range 120 {
			name, x, got, errno := step(&d, c, m)
			if got != errno || got != api.OK && !same(x, api.Chain{}) {
				t.Fatalf("%s of %v is %v %d, must be of %d", name, c, x, got, errno)
			}
			if got == api.OK {
				c = x
			}
			wantLikeModel(t, c, m)
		}
	}
}

// B3: who sealed and opened has shut out whoever knows the elder epoch.
func TestB3ElderEpochIsShutOut(t *testing.T) {
	c, _ := chain.Write(api.Chain{}, 0, 0, "a")
	c, _ = chain.Seal(c, 0)
	_, errno := chain.Write(c, 0, 1, "b")
	want(t, "behind the seal", api.Chain{}, errno, api.Chain{}, api.ErrState)
	c, _ = chain.Open(c)
	_, errno = chain.Write(c, 0, 1, "b")
	want(t, "by the elder epoch", api.Chain{}, errno, api.Chain{}, api.ErrState)
	c, errno = chain.Write(c, 1, 1, "c")
	want(t, "by the new one", c, errno, api.Chain{Epoch: 1, Cells: []api.Cell{text("a"), text("c")}}, api.OK)
}
