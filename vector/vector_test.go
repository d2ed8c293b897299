package vector_test

import (
	"math"
	"testing"

	"cutwater/api"
	"cutwater/vector"
)

func id(region, number int) api.Id { return api.Id{Region: region, Number: number} }

// good and bad: numbers that may stand in a vector, and those that may not.
var (
	good = []int{0, 1, 2, 7, 19, 20}
	bad  = []int{math.MinInt, -1, 21, 256, math.MaxInt}
)

func vectors(numbers []int) []api.Vector {
	var all []api.Vector
	for _, x := range numbers {
		for _, y := range numbers {
			all = append(all, api.Vector{x, y})
		}
	}
	return all
}

// wrong: vectors with one number, or both, that may not stand there.
func wrong() []api.Vector {
	all := vectors(bad)
	for _, x := range good {
		for _, y := range bad {
			all = append(all, api.Vector{x, y}, api.Vector{y, x})
		}
	}
	return all
}

// ids: all that there are.
func ids() []api.Id {
	var all []api.Id
	for region := range 2 {
		for number := 1; number <= api.MaxNumber; number++ {
			all = append(all, id(region, number))
		}
	}
	return all
}

var noIds = []api.Id{
	{}, id(0, 0), id(1, 0), id(0, -1), id(1, math.MinInt), id(0, 21), id(1, 21), id(1, math.MaxInt),
	id(-1, 1), id(2, 1), id(256, 1), id(math.MinInt, 5), id(math.MaxInt, 5), id(2, 21),
}

// D1: Check: each number from 0 to MaxNumber.
func TestD1Check(t *testing.T) {
	for _, v := range vectors(good) {
		if errno := vector.Check(v); errno != api.OK {
			t.Errorf("Check(%v) is %d", v, errno)
		}
	}
	for _, v := range wrong() {
		if errno := vector.Check(v); errno != api.ErrRange {
			t.Errorf("Check(%v) is %d", v, errno)
		}
	}
}

func wantHas(t *testing.T, v api.Vector, id api.Id, want bool, errno api.Errno) {
	t.Helper()
	if ok, got := vector.Has(v, id); ok != want || got != errno {
		t.Errorf("Has(%v, %v) is %v %d, must be %v %d", v, id, ok, got, want, errno)
	}
}

// D1: Has: the first so many of a region, of each region by itself.
func TestD1Has(t *testing.T) {
	for _, v := range vectors(good) {
		for _, x := range ids() {
			many := v[0]
			if x.Region == 1 {
				many = v[1]
			}
			wantHas(t, v, x, x.Number <= many, api.OK)
		}
	}
	v := api.Vector{3, 5}
	wantHas(t, v, id(0, 3), true, api.OK)
	wantHas(t, v, id(0, 4), false, api.OK)
	wantHas(t, v, id(1, 5), true, api.OK)
	wantHas(t, v, id(1, 6), false, api.OK)
}

// D1: Has: wrong ids and wrong vectors; P1: false with an error, even where the number is small.
func TestD1HasErrors(t *testing.T) {
	for _, x := range noIds {
		for _, v := range []api.Vector{{}, {20, 20}, {21, 0}, {0, -1}} {
			wantHas(t, v, x, false, api.ErrRange)
		}
	}
	for _, v := range wrong() {
		for _, x := range ids() {
			wantHas(t, v, x, false, api.ErrRange)
		}
	}
}

// D1: Join: the greater one of each; Within: each at most the other's.
func TestD1JoinAndWithin(t *testing.T) {
	for _, c := range []struct {
		a, b, join api.Vector
		within     bool
	}{
		{api.Vector{}, api.Vector{}, api.Vector{}, true},
		{api.Vector{}, api.Vector{0, 1}, api.Vector{0, 1}, true},
		{api.Vector{1, 0}, api.Vector{}, api.Vector{1, 0}, false},
		{api.Vector{0, 1}, api.Vector{}, api.Vector{0, 1}, false},
		{api.Vector{1, 0}, api.Vector{0, 1}, api.Vector{1, 1}, false},
		{api.Vector{3, 5}, api.Vector{5, 3}, api.Vector{5, 5}, false},
		{api.Vector{5, 3}, api.Vector{3, 5}, api.Vector{5, 5}, false},
		{api.Vector{3, 5}, api.Vector{3, 5}, api.Vector{3, 5}, true},
		{api.Vector{3, 5}, api.Vector{3, 6}, api.Vector{3, 6}, true},
		{api.Vector{3, 5}, api.Vector{20, 20}, api.Vector{20, 20}, true},
		{api.Vector{20, 0}, api.Vector{19, 20}, api.Vector{20, 20}, false},
	} {
		if v, errno := vector.Join(c.a, c.b); v != c.join || errno != api.OK {
			t.Errorf("Join(%v, %v) is %v %d, must be %v", c.a, c.b, v, errno, c.join)
		}
		if in, errno := vector.Within(c.a, c.b); in != c.within || errno != api.OK {
			t.Errorf("Within(%v, %v) is %v %d, must be %v", c.a, c.b, in, errno, c.within)
		}
	}
}

// D1: Join and Within: either one wrong, or both; P1: nothing comes with an error.
func TestD1JoinAndWithinErrors(t *testing.T) {
	wantRange := func(a, b api.Vector) {
		t.Helper()
		if v, errno := vector.Join(a, b); v != (api.Vector{}) || errno != api.ErrRange {
			t.Errorf("Join(%v, %v) is %v %d", a, b, v, errno)
		}
		if in, errno := vector.Within(a, b); in || errno != api.ErrRange {
			t.Errorf("Within(%v, %v) is %v %d", a, b, in, errno)
		}
	}
	for _, w := range wrong() {
		for _, v := range vectors(good) {
			wantRange(w, v)
			wantRange(v, w)
		}
		wantRange(w, w)
	}
}

// has asks of a vector and an id that have nothing wrong.
func has(t *testing.T, v api.Vector, x api.Id) bool {
	t.Helper()
	ok, errno := vector.Has(v, x)
	if errno != api.OK {
		t.Fatalf("Has(%v, %v) has error %d", v, x, errno)
	}
	return ok
}

func within(t *testing.T, a, b api.Vector) bool {
	t.Helper()
	ok, errno := vector.Within(a, b)
	if errno != api.OK {
		t.Fatalf("Within(%v, %v) has error %d", a, b, errno)
	}
	return ok
}

// D2: a join has what one of both has, and no more; one is within another, if that has all that it has.
func TestD2JoinHasBoth(t *testing.T) {
	for _, a := range vectors(good) {
		for _, b := range vectors(good) {
			v, errno := vector.Join(a, b)
			if errno != api.OK {
				t.Fatalf("Join(%v, %v) has error %d", a, b, errno)
			}
			all := true
			for _, x := range ids() {
				if has(t, v, x) != (has(t, a, x) || has(t, b, x)) {
					t.Errorf("Join(%v, %v) is %v, which is wrong of %v", a, b, v, x)
				}
				all = all && (!has(t, a, x) || has(t, b, x))
			}
			if within(t, a, b) != all {
				t.Errorf("Within(%v, %v) is %v", a, b, !all)
			}
		}
	}
}

// D2: both are within just what their join is within, so that nothing less has both.
func TestD2NothingLess(t *testing.T) {
	for _, a := range vectors(good) {
		for _, b := range vectors(good) {
			v, _ := vector.Join(a, b)
			for _, other := range vectors(good) {
				both := within(t, a, other) && within(t, b, other)
				if both != within(t, v, other) {
					t.Errorf("%v and %v within %v is %v, their join %v is not so", a, b, other, both, v)
				}
			}
		}
	}
}

// P2, P3: vectors that are handed in stay as they were, and the same is answered again.
func TestP2HandedInIsOnlyRead(t *testing.T) {
	a, b := api.Vector{3, 5}, api.Vector{5, 3}
	for range 2 {
		v, errno := vector.Join(a, b)
		if v != (api.Vector{5, 5}) || errno != api.OK || a != (api.Vector{3, 5}) || b != (api.Vector{5, 3}) {
			t.Errorf("Join is %v %d, of %v and %v", v, errno, a, b)
		}
		v[0] = 9
	}
}
