package skeen

import (
	"slices"

	"cutwater/api"
)

// keeper keeps a server whose lists are its own, and of which Check has nothing to say.
type keeper struct{ api.Server }

func (k *keeper) propose(number int) api.Errno {
	if !isNumber(number) {
		return api.ErrRange
	}
	if find(k.Waits, number) >= 0 || slices.Contains(k.Done, number) {
		return api.ErrTwice
	}
	if len(k.Waits) == api.MaxWaits || k.Clock == api.MaxClock {
		return api.ErrMany
	}
	k.Clock++
	k.await(api.Wait{Number: number, Time: k.Clock})
	return api.OK
}

// await keeps the waits rising by number.
func (k *keeper) await(w api.Wait) {
	at := 0
	for at < len(k.Waits) && k.Waits[at].Number < w.Number {
		at++
	}
	k.Waits = slices.Insert(k.Waits, at, w)
}

func (k *keeper) commit(number, time int) api.Errno {
	if !isNumber(number) || time < 1 || time > api.MaxClock {
		return api.ErrRange
	}
	at := find(k.Waits, number)
	if at < 0 {
		return api.ErrNone
	}
	if w := k.Waits[at]; w.Final || time < w.Time {
		return api.ErrState
	}
	k.Waits[at] = api.Wait{Number: number, Time: time, Final: true}
	k.Clock = max(k.Clock, time)
	k.settle()
	if len(k.Done) > api.MaxDone { // for other limits than today's: each number is there once, and there are fewer
		return api.ErrMany
	}
	return api.OK
}

// settle stops at a wait that is not final: nobody knows yet whether those behind it are to be done ahead of it.
func (k *keeper) settle() {
	for isFinalFirst(k.Waits) {
		at := first(k.Waits)
		k.Done = append(k.Done, k.Waits[at].Number)
		k.Waits = slices.Delete(k.Waits, at, at+1)
	}
}
