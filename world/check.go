package world

import (
	"cutwater/api"
	"cutwater/entry"
	"cutwater/site"
)

func checkSites(sites []api.Site) api.Errno {
	for place, s := range sites {
		if errno := site.Check(s); errno != api.OK {
			return errno
		}
		if s.Region != place {
			return api.ErrState
		}
	}
	return api.OK
}

// checkWay asks whether an entry is strange only behind its Check: its region is one then.
func checkWay(way []api.Entry, isStrange func(e api.Entry) bool) api.Errno {
	if len(way) > api.MaxWay {
		return api.ErrMany
	}
	for _, e := range way {
		if errno := entry.Check(e); errno != api.OK {
			return errno
		}
		if isStrange(e) {
			return api.ErrState
		}
	}
	return api.OK
}

// checkAct tells what is wrong with an act in whatever world.
func checkAct(a api.Act) api.Errno {
	named := api.Act{Kind: a.Kind, At: a.At}
	switch a.Kind {
	case api.ActAppend:
		named.Colors, named.Text = a.Colors, a.Text
	case api.ActBring, api.ActLose, api.ActAgain:
		named.N = a.N
	case api.ActAll:
	default:
		return api.ErrKind
	}
	if a != named {
		return api.ErrForm
	}
	if a.At != 0 && a.At != 1 {
		return api.ErrRange
	}
	return api.OK
}
