package packet

import (
	"iter"

	"cutwater/api"
	"cutwater/entry"
)

// entriesOf bytes, one by one. An error is the last that comes: nobody knows where a next entry would begin.
func entriesOf(s string) iter.Seq2[api.Entry, api.Errno] {
	return func(yield func(e api.Entry, errno api.Errno) bool) {
		for at := 0; at < len(s); {
			e, size, errno := entry.Decode(s[at:])
			if !yield(e, errno) || errno != api.OK {
				return
			}
			at += size
		}
	}
}

// copyOf an entry, whose links are its own.
func copyOf(e api.Entry) api.Entry {
	e.Links = append([]api.Id(nil), e.Links...)
	return e
}
