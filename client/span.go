package client

import (
	"slices"

	"cutwater/api"
	"cutwater/vector"
)

// span is a vector that is checked.
type span api.Vector

// lacks: is an id not within it?
func (s span) lacks(id api.Id) bool {
	has, _ := vector.Has(api.Vector(s), id)
	return !has
}

// entriesOf a log that are within it. (The list is a new one, their links are not.)
func (s span) entriesOf(l []api.Entry) []api.Entry {
	var within []api.Entry
	for _, e := range l {
		if !s.lacks(e.Id) {
			within = append(within, e)
		}
	}
	return within
}

func (s span) hasLinksOf(l []api.Entry) bool {
	return !slices.ContainsFunc(l, func(e api.Entry) bool { return slices.ContainsFunc(e.Links, s.lacks) })
}
