package chain

import "cutwater/api"

func isPlace(at int) bool { return at >= 0 && at < api.MaxPlace }

// isCut: may so many places be cut off? All of them may, so one more than the last place is meant too.
func isCut(n int) bool { return n >= 0 && n <= api.MaxPlace }

func isEmpty(cell api.Cell) bool { return !cell.There && !cell.Junk }

func checkCell(cell api.Cell) api.Errno {
	if cell.There && cell.Junk {
		return api.ErrState
	}
	if !cell.There && cell.Text != "" {
		return api.ErrForm
	}
	if len(cell.Text) > api.MaxWords {
		return api.ErrMany
	}
	return api.OK
}

// cellAt is what stands at a place that is not cut off; behind the last cell nothing does.
func cellAt(c api.Chain, at int) api.Cell {
	if i := at - c.Cut; i < len(c.Cells) {
		return c.Cells[i]
	}
	return api.Cell{}
}

func copyOf(cells []api.Cell) []api.Cell {
	return append([]api.Cell(nil), cells...)
}
