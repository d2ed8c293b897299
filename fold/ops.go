package fold

import (
	"cmp"
	"slices"

	"cutwater/api"
	"cutwater/dag"
)

// op is what an entry says, and what it knew of.
type op struct {
	id         api.Id
	kind       int
	key, value string
	past       []api.Id
}

// opsOf a log that is checked. Their pasts are of the whole log: one op may know of another by way of an entry of no such color.
func opsOf(l []api.Entry, colors int) []op {
	var ops []op
	for _, e := range l {
		kind, key, value, errno := Op(e.Text)
		if errno != api.OK || e.Colors&colors == 0 {
			continue
		}
		past, _ := dag.Past(l, e.Id)
		ops = append(ops, op{id: e.Id, kind: kind, key: key, value: value, past: past})
	}
	return ops
}

// isPast: has another op of its key it in its past?
func isPast(ops []op, o op) bool {
	return slices.ContainsFunc(ops, func(other op) bool {
		return other.key == o.key && slices.Contains(other.past, o.id)
	})
}

// pairsOf those ops that stand: keys, rising, and values of each, rising, each once.
func pairsOf(ops []op, stands func(o op) bool) []api.Pair {
	var pairs []api.Pair
	for _, o := range slices.SortedFunc(slices.Values(ops), compare) {
		if stands(o) {
			pairs = add(pairs, o.key, o.value)
		}
	}
	return pairs
}

// add a value that is not ahead of any that is there.
func add(pairs []api.Pair, key, value string) []api.Pair {
	if n := len(pairs); n == 0 || pairs[n-1].Key != key {
		return append(pairs, api.Pair{Key: key, Values: []string{value}})
	}
	last := &pairs[len(pairs)-1]
	if !slices.Contains(last.Values, value) {
		last.Values = append(last.Values, value)
	}
	return pairs
}

func compare(a, b op) int {
	return cmp.Or(cmp.Compare(a.key, b.key), cmp.Compare(a.value, b.value))
}
