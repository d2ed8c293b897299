package desk

import (
	"strings"

	"cutwater/api"
)

// writer gathers what a map shows.
type writer struct{ text strings.Builder }

func (w *writer) write(texts ...string) {
	for _, s := range texts {
		w.text.WriteString(s)
	}
}

func (w *writer) writePair(p api.Pair) {
	w.write(p.Key, "=", strings.Join(p.Values, ","), ";")
}
