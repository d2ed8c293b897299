package entry

import "cutwater/api"

// writer gathers the bytes of an entry.
type writer struct{ bytes []byte }

func (w *writer) put(numbers ...int) {
	for _, n := range numbers {
		w.bytes = append(w.bytes, byte(n))
	}
}

// broken is what a reader gives up with.
type broken struct{ errno api.Errno }

func (b broken) Error() string {
	if b.errno == api.ErrNone {
		return "the text ends ahead of the entry"
	}
	return "a region is neither 0 nor 1"
}

// reader goes through a text; it panics with broken where no entry can be read on.
type reader struct {
	text string
	at   int
}

func (r *reader) take(size int) string {
	if size > len(r.text)-r.at {
		panic(broken{api.ErrNone})
	}
	r.at += size
	return r.text[r.at-size : r.at]
}

func (r *reader) number() int { return int(r.take(1)[0]) }

// id looks at the region ahead of the number: a wrong one is told even if the text ends behind it.
func (r *reader) id() api.Id {
	region := r.number()
	if !isRegion(region) {
		panic(broken{api.ErrForm})
	}
	return api.Id{Region: region, Number: r.number()}
}

func (r *reader) links() []api.Id {
	var links []api.Id
	for range r.number() {
		links = append(links, r.id())
	}
	return links
}

func (r *reader) entry() api.Entry {
	var e api.Entry
	e.Id = r.id()
	e.Colors = r.number()
	e.Links = r.links()
	e.Text = r.take(r.number())
	return e
}

// parse reads the entry that a text begins with, not yet checked, and how many bytes tell it.
func parse(text string) (e api.Entry, size int, errno api.Errno) {
	defer func() {
		if cause := recover(); cause != nil {
			b, ok := cause.(broken)
			if !ok { // a fault of the program, which is not to be taken for one of the text
				panic(cause)
			}
			e, size, errno = api.Entry{}, 0, b.errno
		}
	}()
	r := reader{text: text}
	e = r.entry()
	return e, r.at, api.OK
}
