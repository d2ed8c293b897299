package packet_test

import (
	"cmp"
	"reflect"
	"slices"
	"testing"

	"cutwater/api"
	"cutwater/entry"
	"cutwater/packet"
	"cutwater/site"
)

// draw: numbers that are the same each time.
type draw uint64

func (d *draw) n(n int) int {
	*d = *d*6364136223846793005 + 1442695040888963407
	return int(uint64(*d) >> 33 % uint64(n))
}

// log of some size; near: how far back its links go.
func (d *draw) log(size, near int) []api.Entry {
	var l []api.Entry
	var many [2]int
	for range size {
		region := d.n(2)
		if many[region] == api.MaxNumber {
			region = 1 - region
		}
		many[region]++
		l = append(l, en(region, many[region], 1+d.n(7), d.text(), d.links(l, near)...))
	}
	return l
}

// text of bytes that are often such as an entry has.
func (d *draw) text() string {
	var b []byte
	for range d.n(api.MaxWords + 1) {
		b = append(b, byte(d.n([]int{3, 30, 256}[d.n(3)])))
	}
	return string(b)
}

func (d *draw) links(ahead []api.Entry, near int) []api.Id {
	ahead = ahead[max(0, len(ahead)-near):]
	var links []api.Id
	for range d.n(api.MaxLinks + 1) {
		if len(ahead) == 0 {
			break
		}
		links = append(links, ahead[d.n(len(ahead))].Id)
	}
	slices.SortFunc(links, rise)
	return slices.Compact(links)
}

func rise(a, b api.Id) int {
	return cmp.Or(cmp.Compare(a.Region, b.Region), cmp.Compare(a.Number, b.Number))
}

// logs that are drawn: small ones and great ones, with links that go back a little or far.
func logs(seed draw, count int) [][]api.Entry {
	var all [][]api.Entry
	for n := range count {
		all = append(all, seed.log(n%41, 2+seed.n(12)))
	}
	return all
}

// countOf a log, of each region.
func countOf(l []api.Entry) api.Vector {
	var v api.Vector
	for _, e := range l {
		v[e.Id.Region]++
	}
	return v
}

// J2: what is encoded is decoded as it was, in whatever order it stands.
func TestJ2DecodedAsItWas(t *testing.T) {
	d := draw(3)
	for _, l := range logs(5, 410) {
		for range 2 {
			s, errno := packet.Encode(l)
			if errno != api.OK {
				t.Fatalf("Encode of %v is %d", l, errno)
			}
			wantDecode(t, "drawn", s, l, api.OK)
			for i := range l {
				j := d.n(i + 1)
				l[i], l[j] = l[j], l[i]
			}
		}
	}
}

// modelDecode: entry by entry, by chapter 1.
func modelDecode(s string) ([]api.Entry, api.Errno) {
	var l []api.Entry
	for s != "" {
		e, size, errno := entry.Decode(s)
		if errno != api.OK {
			return nil, api.ErrForm
		}
		if l = append(l, e); len(l) > api.MaxLog {
			return nil, api.ErrMany
		}
		s = s[size:]
	}
	return l, api.OK
}

// J1, J2: bytes of which some are changed: they are as many entries as they tell, and tell just these bytes again; or none.
func TestJ1ChangedBytes(t *testing.T) {
	d := draw(23)
	fine := 0
	for _, l := range logs(29, 205) {
		s, _ := packet.Encode(l)
		for range 20 {
			b := []byte(s)
			for range 1 + d.n(3) {
				if len(b) > 0 {
					b[d.n(len(b))] = byte(d.n([]int{3, 30, 256}[d.n(3)]))
				}
			}
			want, errno := modelDecode(string(b))
			wantDecode(t, "changed", string(b), want, errno)
			if errno == api.OK {
				wantEncode(t, "changed", want, string(b), api.OK)
				fine++
			}
		}
	}
	if fine < 100 {
		t.Errorf("just %d of them were packets", fine)
	}
}

// J1: of logs that are drawn, by all vectors: what is missing, in order.
func TestJ1MissingDrawn(t *testing.T) {
	for _, l := range logs(31, 41) {
		for x := range 21 {
			for y := range 21 {
				v := api.Vector{x, y}
				want := slices.DeleteFunc(slices.Clone(l), func(e api.Entry) bool { return e.Id.Number <= v[e.Id.Region] })
				wantMissing(t, "drawn", l, v, want, api.OK)
			}
		}
	}
}

// J2: who has a log's beginning, and is sent what is missing, has all.
func TestJ2WhoHasWhatIsMissing(t *testing.T) {
	for _, l := range logs(37, 82) {
		for n := range len(l) + 1 {
			missing, errno := packet.Missing(l, countOf(l[:n]))
			if errno != api.OK || !same(slices.Concat(l[:n], missing), l) {
				t.Fatalf("behind %d of %v there is missing %v %d", n, l, missing, errno)
			}
			s, errno := packet.Encode(missing)
			if errno != api.OK {
				t.Fatalf("Encode of %v is %d", missing, errno)
			}
			wantDecode(t, "what is missing", s, missing, api.OK)
		}
	}
}

// J2: a site that is sent what it lacks, as a packet, has all that the other one has.
func TestJ2Sites(t *testing.T) {
	d := draw(41)
	sites := []api.Site{{Region: 0}, {Region: 1}}
	for step := range 2 * api.MaxNumber {
		at := step % 2
		s, _, errno := site.Append(sites[at], 1+d.n(7), d.text())
		if errno != api.OK {
			t.Fatalf("Append has error %d", errno)
		}
		sites[at] = s
		if to := d.n(4); to < 2 || step == 2*api.MaxNumber-1 {
			sites[0] = send(t, sites[1], sites[0])
			sites[1] = send(t, sites[0], sites[1])
		}
	}
	if a, b := countOf(sites[0].Log), countOf(sites[1].Log); a != b || a != (api.Vector{20, 20}) {
		t.Errorf("one site has %v, the other one %v", a, b)
	}
}

func send(t *testing.T, from, to api.Site) api.Site {
	t.Helper()
	missing, errno := packet.Missing(from.Log, countOf(to.Log))
	s, told := packet.Encode(missing)
	l, said := packet.Decode(s)
	if errno != api.OK || told != api.OK || said != api.OK {
		t.Fatalf("it has errors %d %d %d", errno, told, said)
	}
	for _, e := range l {
		if to, errno = site.Receive(to, e); errno != api.OK || len(to.Waits) != 0 {
			t.Fatalf("Receive has error %d, and %v waits", errno, to.Waits)
		}
	}
	return to
}

// roomy: the same log, with room behind it and behind each list of links; and all of that room.
func roomy(l []api.Entry) ([]api.Entry, []api.Entry) {
	all := slices.Clone(l)
	for i, e := range all {
		room := append(append([]api.Id{}, e.Links...), id(0, 1), id(7, 7), id(1, 1))
		all[i].Links = room[:len(e.Links)]
	}
	all = append(all, en(0, 1, 1, "room", id(0, 9)), api.Entry{}, en(9, 9, 9, "room"))
	return all[:len(l)], all
}

// whole: a log with what stands behind its lists.
func whole(all []api.Entry) []api.Entry {
	x := slices.Clone(all)
	for i, e := range x {
		x[i].Links = slices.Clone(e.Links[:cap(e.Links)])
	}
	return x
}

// spoil entries and their links, the room behind them too.
func spoil(l []api.Entry) {
	for i, e := range l {
		spoilIds(e.Links)
		l[i] = en(8, 8, 8, "spoilt")
	}
	for i := range l[:cap(l)] {
		l[:cap(l)][i] = en(8, 8, 8, "spoilt")
	}
}

func spoilIds(ids []api.Id) {
	for i := range ids[:cap(ids)] {
		ids[:cap(ids)][i] = id(8, 8)
	}
}

// P2: what is handed in is only read, whatever is wrong with it.
func TestP2HandedInIsOnlyRead(t *testing.T) {
	handed := logs(43, 41)
	for _, c := range wrongLogs {
		handed = append(handed, c.l)
	}
	for _, c := range packets {
		handed = append(handed, c.l)
	}
	for _, x := range handed {
		l, room := roomy(x)
		before := whole(room)
		packet.Encode(l)
		for _, v := range append([]api.Vector{{}, {1, 1}, {20, 0}}, wrongVectors...) {
			missing, _ := packet.Missing(l, v)
			spoil(missing)
		}
		if !reflect.DeepEqual(whole(room), before) {
			t.Fatalf("%v was handed in, and is %v", before, whole(room))
		}
	}
}

// P2, P3: an answer is the caller's: a later change of what was handed in is not seen, the same is answered again.
func TestP2AnswersAreTheCallers(t *testing.T) {
	l, _ := roomy(mixed())
	first, _ := packet.Missing(l, api.Vector{1, 0})
	spoil(first)
	missing, errno := packet.Missing(l, api.Vector{1, 0})
	s, told := packet.Encode(l)
	spoil(l)
	if want := slices.Delete(mixed(), 1, 2); !same(missing, want) || errno != api.OK {
		t.Errorf("Missing is %v %d, must be %v", missing, errno, want)
	}
	if want, _ := packet.Encode(mixed()); s != want || told != api.OK {
		t.Errorf("Encode is %x %d, must be %x", s, told, want)
	}
	decoded, _ := packet.Decode(s)
	spoil(decoded)
	wantDecode(t, "again", s, mixed(), api.OK)
}

// P2: no two lists of an answer share memory: one that is changed, its room too, leaves the others as they are.
func TestP2NoTwoListsShare(t *testing.T) {
	l := mixed()
	links := []api.Id{id(0, 1), id(1, 1)}
	l[3].Links, l[5].Links = links, links[:1]
	s, _ := packet.Encode(l)
	for i := range l {
		missing, _ := packet.Missing(l, api.Vector{})
		decoded, _ := packet.Decode(s)
		for _, x := range [][]api.Entry{missing, decoded} {
			spoilIds(x[i].Links)
			x[i] = l[i]
			if !same(x, l) {
				t.Errorf("the links of entry %d were changed, and it is %v", i, x)
			}
		}
	}
}
