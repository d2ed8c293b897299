package site

import (
	"slices"

	"cutwater/api"
)

func has(l []api.Entry, id api.Id) bool {
	return slices.ContainsFunc(l, func(e api.Entry) bool { return e.Id == id })
}

func count(l []api.Entry, region int) int {
	n := 0
	for _, e := range l {
		if e.Id.Region == region {
			n++
		}
	}
	return n
}

// isReady for a log that is checked: one of the next number is not there yet.
func isReady(l []api.Entry, e api.Entry) bool {
	if e.Id.Number != count(l, e.Id.Region)+1 {
		return false
	}
	return !slices.ContainsFunc(e.Links, func(link api.Id) bool { return !has(l, link) })
}

// copyOf is a site whose lists are its own, so that they may be changed in place.
func copyOf(s api.Site) api.Site {
	s.Log = copyOfAll(s.Log)
	s.Waits = copyOfAll(s.Waits)
	return s
}

func copyOfAll(l []api.Entry) []api.Entry {
	var all []api.Entry
	for _, e := range l {
		all = append(all, copyOfEntry(e))
	}
	return all
}

func copyOfEntry(e api.Entry) api.Entry {
	e.Links = append([]api.Id(nil), e.Links...)
	return e
}
