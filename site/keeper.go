package site

import (
	"slices"

	"cutwater/api"
	"cutwater/dag"
	"cutwater/entry"
)

// keeper keeps a site whose lists are its own, and of which Check has nothing to say.
type keeper struct{ api.Site }

// write puts an entry of the site's own behind all that it has, and answers it once more, with links of its own.
func (k *keeper) write(colors int, text string) (api.Entry, api.Errno) {
	e, errno := k.next(colors, text)
	if errno != api.OK {
		return api.Entry{}, errno
	}
	k.Log = append(k.Log, e)
	k.settle()
	return copyOfEntry(e), k.checkRoom()
}

// next entry of the site's own, that links to what the site knows of its colors.
func (k *keeper) next(colors int, text string) (api.Entry, api.Errno) {
	links, errno := dag.Heads(k.Log, colors)
	if errno != api.OK {
		return api.Entry{}, errno
	}
	number := count(k.Log, k.Region) + 1
	if len(text) > api.MaxWords || number > api.MaxNumber || len(links) > api.MaxLinks {
		return api.Entry{}, api.ErrMany
	}
	return api.Entry{Id: api.Id{Region: k.Region, Number: number}, Colors: colors, Text: text, Links: links}, api.OK
}

func (k *keeper) receive(e api.Entry) api.Errno {
	if has(k.Log, e.Id) || has(k.Waits, e.Id) {
		return api.OK
	}
	if e.Id.Region == k.Region {
		return api.ErrState
	}
	k.await(copyOfEntry(e))
	k.settle()
	return k.checkRoom()
}

// await keeps the waits rising by id.
func (k *keeper) await(e api.Entry) {
	at := 0
	for at < len(k.Waits) && entry.Less(k.Waits[at].Id, e.Id) {
		at++
	}
	k.Waits = slices.Insert(k.Waits, at, e)
}

// settle begins anew behind each one that goes: another one may have waited for just that.
func (k *keeper) settle() {
	for {
		at := slices.IndexFunc(k.Waits, func(e api.Entry) bool { return isReady(k.Log, e) })
		if at < 0 {
			return
		}
		k.Log = append(k.Log, k.Waits[at])
		k.Waits = slices.Delete(k.Waits, at, at+1)
	}
}

// checkRoom is for other limits than today's: each id is there once, and there are no more ids than room.
func (k *keeper) checkRoom() api.Errno {
	if len(k.Waits) > api.MaxNumber || len(k.Log) > api.MaxLog {
		return api.ErrMany
	}
	return api.OK
}
