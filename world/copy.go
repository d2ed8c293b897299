package world

import (
	"slices"

	"cutwater/api"
)

// isSame: is it just so?
func isSame(a, b api.Entry) bool {
	return a.Id == b.Id && a.Colors == b.Colors && a.Text == b.Text && slices.Equal(a.Links, b.Links)
}

// copyOf is a world whose lists are its own, so that they may be changed in place.
func copyOf(w api.World) api.World {
	var c api.World
	for _, s := range w.Sites {
		c.Sites = append(c.Sites, api.Site{Region: s.Region, Log: copyOfAll(s.Log), Waits: copyOfAll(s.Waits)})
	}
	for _, way := range w.Way {
		c.Way = append(c.Way, copyOfAll(way))
	}
	return c
}

func copyOfAll(l []api.Entry) []api.Entry {
	var all []api.Entry
	for _, e := range l {
		all = append(all, copyOfEntry(e))
	}
	return all
}

func copyOfEntry(e api.Entry) api.Entry {
	e.Links = append([]api.Id(nil), e.Links...)
	return e
}
