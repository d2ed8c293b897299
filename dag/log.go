package dag

import (
	"slices"

	"cutwater/api"
	"cutwater/entry"
)

// checkBehind tells what is wrong with an entry that stands right behind those ahead, of which nothing is.
func checkBehind(ahead []api.Entry, e api.Entry) api.Errno {
	if errno := entry.Check(e); errno != api.OK {
		return errno
	}
	if has(ahead, e.Id) {
		return api.ErrTwice
	}
	if e.Id.Number != count(ahead)[e.Id.Region]+1 {
		return api.ErrState
	}
	for _, link := range e.Links {
		if !has(ahead, link) {
			return api.ErrNone
		}
	}
	return api.OK
}

func has(l []api.Entry, id api.Id) bool {
	return slices.ContainsFunc(l, func(e api.Entry) bool { return e.Id == id })
}

func count(l []api.Entry) api.Vector {
	var v api.Vector
	for _, e := range l {
		v[e.Id.Region]++
	}
	return v
}

// idsOf those that are looked for, rising.
func idsOf(l []api.Entry, isLookedFor func(e api.Entry) bool) []api.Id {
	var ids []api.Id
	for _, e := range l {
		if isLookedFor(e) {
			ids = append(ids, e.Id)
		}
	}
	slices.SortFunc(ids, compare)
	return ids
}

// pastOf all that are looked for, rising. It goes from the end of the log, so that whatever links to an entry comes up ahead of it, and once through is enough.
func pastOf(l []api.Entry, isLookedFor func(e api.Entry) bool) []api.Id {
	var past []api.Id
	for i := len(l) - 1; i >= 0; i-- {
		if isLookedFor(l[i]) || slices.Contains(past, l[i].Id) {
			past = join(past, l[i].Links)
		}
	}
	slices.SortFunc(past, compare)
	return past
}

// join keeps each id once.
func join(ids, more []api.Id) []api.Id {
	for _, id := range more {
		if !slices.Contains(ids, id) {
			ids = append(ids, id)
		}
	}
	return ids
}

func compare(a, b api.Id) int {
	if entry.Less(a, b) {
		return -1
	}
	if entry.Less(b, a) {
		return 1
	}
	return 0
}
