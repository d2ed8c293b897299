package skeen

import (
	"slices"

	"cutwater/api"
)

func isNumber(number int) bool { return number >= 1 && number <= api.MaxNumber }

// isAhead: by the number too, since two entries may come to one time, proposed by different servers.
func isAhead(a, b api.Wait) bool {
	if a.Time != b.Time {
		return a.Time < b.Time
	}
	return a.Number < b.Number
}

// first is where the wait stands that is ahead of all; there must be one.
func first(waits []api.Wait) int {
	at := 0
	for i, w := range waits {
		if isAhead(w, waits[at]) {
			at = i
		}
	}
	return at
}

func isFinalFirst(waits []api.Wait) bool {
	return len(waits) > 0 && waits[first(waits)].Final
}

// find is where an entry waits, or -1.
func find(waits []api.Wait, number int) int {
	return slices.IndexFunc(waits, func(w api.Wait) bool { return w.Number == number })
}

func checkWaits(waits []api.Wait, clock int) api.Errno {
	for i, w := range waits {
		if !isNumber(w.Number) || w.Time < 1 || w.Time > clock {
			return api.ErrRange
		}
		if i > 0 && w.Number <= waits[i-1].Number {
			return api.ErrState
		}
	}
	return api.OK
}

// checkDone goes number by number, as checkWaits does: the first one of which something is wrong tells.
func checkDone(s api.Server) api.Errno {
	for i, number := range s.Done {
		if !isNumber(number) {
			return api.ErrRange
		}
		if slices.Contains(s.Done[:i], number) || find(s.Waits, number) >= 0 {
			return api.ErrTwice
		}
	}
	return api.OK
}
