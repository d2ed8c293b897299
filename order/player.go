package order

import (
	"slices"

	"cutwater/api"
	"cutwater/entry"
)

// turn is an entry that is to be played, and what must have been played ahead of it.
type turn struct {
	id    api.Id
	needs []api.Id
}

// player plays for a reader: the turns are of the reader's colors, and rise by id.
type player struct {
	api.Client
	turns []turn
}

func newPlayer(l []api.Entry, colors int) player {
	p := player{Client: api.Client{Colors: colors}}
	for _, e := range l {
		if e.Colors&p.Colors != 0 {
			p.add(turn{id: e.Id, needs: p.needsOf(l, e.Id)})
		}
	}
	return p
}

// add keeps the turns rising by id.
func (p *player) add(t turn) {
	at := 0
	for at < len(p.turns) && entry.Less(p.turns[at].id, t.id) {
		at++
	}
	p.turns = slices.Insert(p.turns, at, t)
}

// needsOf an entry: what is in its past and is of the reader's colors, even if it is so only by way of entries that are not.
func (p *player) needsOf(l []api.Entry, id api.Id) []api.Id {
	past := pastOf(l, id)
	var needs []api.Id
	for _, e := range l {
		if e.Colors&p.Colors != 0 && slices.Contains(past, e.Id) {
			needs = append(needs, e.Id)
		}
	}
	return needs
}

// play the first entry that is looked for and may be next: was there one?
func (p *player) play(isLookedFor func(id api.Id) bool) bool {
	for _, t := range p.turns {
		if isLookedFor(t.id) && p.mayBeNext(t) {
			p.Played = append(p.Played, t.id)
			return true
		}
	}
	return false
}

func (p *player) mayBeNext(t turn) bool {
	if slices.Contains(p.Played, t.id) {
		return false
	}
	for _, id := range t.needs {
		if !slices.Contains(p.Played, id) {
			return false
		}
	}
	return true
}
