package chain

import "cutwater/api"

// writer is who writes to a chain, and the epoch that it takes the chain to be in.
type writer struct {
	api.Chain
	knows int
}

// write brings a cell to a place, if what stands there lets it come.
func (w writer) write(at int, cell api.Cell, mayCome func(old api.Cell) bool) (api.Chain, api.Errno) {
	if errno := w.check(at, cell); errno != api.OK {
		return api.Chain{}, errno
	}
	if at < w.Cut || !mayCome(cellAt(w.Chain, at)) {
		return api.Chain{}, api.ErrTwice
	}
	w.put(at, cell)
	return w.Chain, api.OK
}

// check tells what is wrong, whatever stands at the place.
func (w writer) check(at int, cell api.Cell) api.Errno {
	if errno := Check(w.Chain); errno != api.OK {
		return errno
	}
	if !isPlace(at) {
		return api.ErrRange
	}
	if len(cell.Text) > api.MaxWords {
		return api.ErrMany
	}
	if w.knows != w.Epoch || w.Sealed {
		return api.ErrState
	}
	return api.OK
}

// put leaves the cells that were handed in as they were: the writer has its own from here on.
func (w *writer) put(at int, cell api.Cell) {
	cells := make([]api.Cell, max(len(w.Cells), at-w.Cut+1))
	copy(cells, w.Cells)
	cells[at-w.Cut] = cell
	w.Cells = cells
}
