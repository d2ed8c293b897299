package world

import (
	"slices"

	"cutwater/api"
	"cutwater/site"
)

// doer does acts in a world whose lists are its own, and of which Check has nothing to say. Behind an error the world may be half done: nobody is to have it then.
type doer struct{ api.World }

// do an act of which checkAct has nothing to say.
func (d *doer) do(a api.Act) api.Errno {
	switch a.Kind {
	case api.ActAppend:
		return d.write(a.At, a.Colors, a.Text)
	case api.ActBring:
		return d.bring(a.At, a.N)
	case api.ActLose:
		_, errno := d.take(a.At, a.N)
		return errno
	case api.ActAgain:
		return d.again(a.At, a.N)
	}
	return d.bringAll(a.At)
}

// write at a site. An entry for which there is no room on the way is written all the same: it may come by bringAll.
func (d *doer) write(at, colors int, text string) api.Errno {
	s, e, errno := site.Append(d.Sites[at], colors, text)
	if errno != api.OK {
		return errno
	}
	d.Sites[at] = s
	if to := other(at); len(d.Way[to]) < api.MaxWay {
		d.Way[to] = append(d.Way[to], e)
	}
	return api.OK
}

func (d *doer) bring(at, n int) api.Errno {
	e, errno := d.take(at, n)
	if errno != api.OK {
		return errno
	}
	return d.receive(at, e)
}

// take an entry from the way to a site.
func (d *doer) take(at, n int) (api.Entry, api.Errno) {
	if !d.isPlace(at, n) {
		return api.Entry{}, api.ErrNone
	}
	e := d.Way[at][n]
	d.Way[at] = slices.Delete(d.Way[at], n, n+1)
	return e, api.OK
}

func (d *doer) again(at, n int) api.Errno {
	if !d.isPlace(at, n) {
		return api.ErrNone
	}
	if len(d.Way[at]) == api.MaxWay {
		return api.ErrMany
	}
	d.Way[at] = append(d.Way[at], copyOfEntry(d.Way[at][n]))
	return api.OK
}

func (d *doer) bringAll(at int) api.Errno {
	from := other(at)
	for _, e := range d.Sites[from].Log {
		if e.Id.Region != from {
			continue
		}
		if errno := d.receive(at, e); errno != api.OK {
			return errno
		}
	}
	return api.OK
}

func (d *doer) receive(at int, e api.Entry) api.Errno {
	s, errno := site.Receive(d.Sites[at], e)
	if errno != api.OK {
		return errno
	}
	d.Sites[at] = s
	return api.OK
}

// isPlace of the way to a site?
func (d *doer) isPlace(at, n int) bool { return n >= 0 && n < len(d.Way[at]) }

func other(at int) int { return 1 - at }
