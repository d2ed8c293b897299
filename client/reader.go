package client

import (
	"slices"

	"cutwater/api"
	"cutwater/dag"
	"cutwater/order"
	"cutwater/vector"
)

// reader reads a log for a client; of both of them Check has nothing to say. Neither the log nor what was played is its own: it only reads them.
type reader struct {
	api.Client
	log []api.Entry
}

// play to a vector that is checked. The ids that were handed in stay as they were: More answers new ones.
func (r *reader) play(v api.Vector) api.Errno {
	s := span(v)
	l := s.entriesOf(r.log)
	if !r.reaches(v) || !s.hasLinksOf(l) || slices.ContainsFunc(r.Played, s.lacks) {
		return api.ErrState
	}
	played, errno := order.More(l, r.Colors, r.Played)
	r.Played = played
	return errno
}

// reaches: has the log as many of each region as a vector?
func (r *reader) reaches(v api.Vector) bool {
	count, _ := dag.Count(r.log)
	within, _ := vector.Within(v, count)
	return within
}

func (r *reader) texts() []string {
	var texts []string
	for _, id := range r.Played {
		at := slices.IndexFunc(r.log, func(e api.Entry) bool { return e.Id == id })
		texts = append(texts, r.log[at].Text)
	}
	return texts
}
