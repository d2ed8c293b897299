// Package chain: chains: see doc/02-chain.md.
package chain

import "cutwater/api"

// Check a chain.
func Check(c api.Chain) api.Errno {
	if c.Epoch < 0 || c.Epoch > api.MaxEpoch || !isCut(c.Cut) {
		return api.ErrRange
	}
	if len(c.Cells) > api.MaxPlace-c.Cut {
		return api.ErrMany
	}
	for _, cell := range c.Cells {
		if errno := checkCell(cell); errno != api.OK {
			return errno
		}
	}
	if n := len(c.Cells); n > 0 && isEmpty(c.Cells[n-1]) {
		return api.ErrState
	}
	return api.OK
}

// Write a text.
func Write(c api.Chain, epoch, at int, text string) (api.Chain, api.Errno) {
	w := writer{Chain: c, knows: epoch}
	return w.write(at, api.Cell{There: true, Text: text}, func(old api.Cell) bool {
		return !old.There && !old.Junk
	})
}

// Fill a place with junk.
func Fill(c api.Chain, epoch, at int) (api.Chain, api.Errno) {
	w := writer{Chain: c, knows: epoch}
	return w.write(at, api.Cell{Junk: true}, func(old api.Cell) bool {
		return !old.There
	})
}

// Read a place.
func Read(c api.Chain, at int) (string, api.Errno) {
	if errno := Check(c); errno != api.OK {
		return "", errno
	}
	if !isPlace(at) {
		return "", api.ErrRange
	}
	if at < c.Cut {
		return "", api.ErrState
	}
	cell := cellAt(c, at)
	if cell.Junk {
		return "", api.ErrKind
	}
	if !cell.There {
		return "", api.ErrNone
	}
	return cell.Text, api.OK
}

// Tail of a chain.
func Tail(c api.Chain) (int, api.Errno) {
	if errno := Check(c); errno != api.OK {
		return 0, errno
	}
	return c.Cut + len(c.Cells), api.OK
}

// Seal a chain.
func Seal(c api.Chain, epoch int) (api.Chain, api.Errno) {
	if errno := Check(c); errno != api.OK {
		return api.Chain{}, errno
	}
	if epoch != c.Epoch {
		return api.Chain{}, api.ErrState
	}
	c.Cells = copyOf(c.Cells)
	c.Sealed = true
	return c, api.OK
}

// Open a sealed chain.
func Open(c api.Chain) (api.Chain, api.Errno) {
	if errno := Check(c); errno != api.OK {
		return api.Chain{}, errno
	}
	if !c.Sealed {
		return api.Chain{}, api.ErrState
	}
	if c.Epoch == api.MaxEpoch {
		return api.Chain{}, api.ErrMany
	}
	c.Cells = copyOf(c.Cells)
	c.Sealed = false
	c.Epoch++
	return c, api.OK
}

// Trim a chain.
func Trim(c api.Chain, to int) (api.Chain, api.Errno) {
	if errno := Check(c); errno != api.OK {
		return api.Chain{}, errno
	}
	if !isCut(to) {
		return api.Chain{}, api.ErrRange
	}
	cut := max(c.Cut, to)
	gone := min(cut-c.Cut, len(c.Cells))
	c.Cells = copyOf(c.Cells[gone:])
	c.Cut = cut
	return c, api.OK
}
