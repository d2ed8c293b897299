// Package entry: entries as bytes: see doc/01-entry.md.
package entry

import "cutwater/api"

// Less: does one stand ahead?
func Less(a, b api.Id) bool {
	if a.Region != b.Region {
		return a.Region < b.Region
	}
	return a.Number < b.Number
}

// Check an entry.
func Check(e api.Entry) api.Errno {
	if !isId(e.Id) || e.Colors < 1 || e.Colors > api.AllColors {
		return api.ErrRange
	}
	if len(e.Text) > api.MaxWords || len(e.Links) > api.MaxLinks {
		return api.ErrMany
	}
	return checkLinks(e.Id, e.Links)
}

// Encode an entry.
func Encode(e api.Entry) (string, api.Errno) {
	if errno := Check(e); errno != api.OK {
		return "", errno
	}
	// Check has bound every number, so each one fits in its byte.
	var w writer
	w.put(e.Id.Region, e.Id.Number, e.Colors, len(e.Links))
	for _, link := range e.Links {
		w.put(link.Region, link.Number)
	}
	w.put(len(e.Text))
	return string(w.bytes) + e.Text, api.OK
}

// Decode an entry.
func Decode(s string) (api.Entry, int, api.Errno) {
	e, size, errno := parse(s)
	if errno == api.OK {
		errno = Check(e)
	}
	if errno != api.OK {
		return api.Entry{}, 0, errno
	}
	return e, size, api.OK
}

func isRegion(region int) bool { return region == 0 || region == 1 }

func isId(id api.Id) bool {
	return isRegion(id.Region) && id.Number >= 1 && id.Number <= api.MaxNumber
}

func checkLinks(own api.Id, links []api.Id) api.Errno {
	for i, link := range links {
		if !isId(link) {
			return api.ErrRange
		}
		if i > 0 && !Less(links[i-1], link) {
			return api.ErrState
		}
		if link.Region == own.Region && link.Number >= own.Number {
			return api.ErrState
		}
	}
	return api.OK
}
