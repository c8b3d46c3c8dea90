package query

import (
	"fmt"
	"slices"
	"strings"
	"testing"

	"diurnal/api"
	"diurnal/chain"
	"diurnal/field"
	"diurnal/head"
	"diurnal/jfile"
	"diurnal/le"
	"diurnal/link"
	"diurnal/match"
	"diurnal/obj"
	"diurnal/simfs"
	"diurnal/writer"
)

// Where the parts of an object stand in it.
const (
	dataHash     = 16
	dataNextHash = 24
	dataEntry    = 40
	dataArray    = 48
	dataCount    = 56
	dataPayload  = 64
	entrySeq     = 16
	entryXor     = 56
	entryItems   = 64
	itemHash     = 8
	arrayNext    = 16
	arrayItems   = 24
)

// shape is how a journal is written: slots of each table, and whether its hashes
// are keyed.
type shape struct {
	slots int
	keyed bool
}

// pair answers that of a payload, whose parts may be any.
func pair(payload string) api.Pair {
	name, value, _ := strings.Cut(payload, "=")
	return api.Pair{Name: name, Value: value}
}

// pairs answers those of payloads that blanks part.
func pairs(payloads string) []api.Pair {
	var l []api.Pair
	for _, s := range strings.Fields(payloads) {
		l = append(l, pair(s))
	}
	return l
}

// filled answers a writer of a journal, in a directory of its own, with an entry
// of each of these rows of payloads; and that directory.
func filled(t *testing.T, s shape, rows ...string) (*writer.Writer, *simfs.FS) {
	t.Helper()
	fs, code := simfs.New(api.MaxRoom)
	if code != api.Fine {
		t.Fatalf("New: %d", code)
	}
	c := writer.Config{File: api.ID{1, 2}, Machine: api.ID{3}, Seq: api.ID{4, 5}, DataSlots: s.slots, FieldSlots: s.slots, Most: api.MaxFile, Keyed: s.keyed}
	w, code := writer.Create(fs, "j", c, 0)
	if code != api.Fine {
		t.Fatalf("Create: %d", code)
	}
	for i, row := range rows {
		n := uint64(i + 1)
		if got, code := w.Append(pairs(row), 10*n, n, api.ID{6}); got != n || code != api.Fine {
			t.Fatalf("Append of %.300q: %d, %d", row, got, code)
		}
	}
	return w, fs
}

// written answers the bytes of that journal.
func written(t *testing.T, s shape, rows ...string) []byte {
	t.Helper()
	w, _ := filled(t, s, rows...)
	return w.Image()
}

// opened answers the journal of b.
func opened(t *testing.T, b []byte) *jfile.File {
	t.Helper()
	f, code := jfile.Open(b)
	if code != api.Fine {
		t.Fatalf("Open of %d bytes: %d", len(b), code)
	}
	return f
}

// objects answers where the objects of that kind stand.
func objects(t *testing.T, b []byte, kind int) []uint64 {
	t.Helper()
	var l []uint64
	for at := uint64(api.HeadSize); at < uint64(len(b)); {
		f, code := obj.Read(b, at)
		if code != api.Fine {
			t.Fatalf("Read of the object at %d: %d", at, code)
		}
		if f.Kind == kind {
			l = append(l, at)
		}
		at += (f.Size + 7) &^ 7
	}
	return l
}

// data answers where the object Data of that payload stands.
func data(t *testing.T, b []byte, payload string) uint64 {
	t.Helper()
	for _, at := range objects(t, b, api.Data) {
		if d, code := obj.ReadData(b, at); code == api.Fine && string(d.Payload) == payload {
			return at
		}
	}
	t.Fatalf("no Data of %.300q", payload)
	return 0
}

// put answers b with that number of 8 bytes there.
func put(t *testing.T, b []byte, at, v uint64) []byte {
	t.Helper()
	out, ok := le.Put(b, int(at), 8, v)
	if !ok {
		t.Fatalf("Put at %d of %d bytes", at, len(b))
	}
	return out
}

// get answers the number of 8 bytes there.
func get(t *testing.T, b []byte, at uint64) uint64 {
	t.Helper()
	v, ok := le.Get(b, int(at), 8)
	if !ok {
		t.Fatalf("Get at %d of %d bytes", at, len(b))
	}
	return v
}

// headed answers b with its head turned.
func headed(t *testing.T, b []byte, turn func(h *head.Head)) []byte {
	t.Helper()
	h, code := head.Read(b)
	if code != api.Fine {
		t.Fatalf("Read of the head: %d", code)
	}
	turn(&h)
	return slices.Concat(head.Put(h), b[api.HeadSize:])
}

// named answers b, a journal of one slot, with another payload, as long, in the
// Data at that place, and its hash.
func named(t *testing.T, b []byte, at uint64, payload string) []byte {
	t.Helper()
	d, code := obj.ReadData(b, at)
	if code != api.Fine || len(d.Payload) != len(payload) {
		t.Fatalf("Data at %d: %+v, %d", at, d, code)
	}
	out := put(t, b, at+dataHash, opened(t, b).View().Hash([]byte(payload)))
	copy(out[at+dataPayload:], payload)
	return out
}

// alt, row and of lay a match by hand, be it right or not.
func alt(name string, values ...string) api.Alt { return api.Alt{Name: name, Values: values} }

func row(l ...api.Alt) []api.Alt { return l }

func of(rows ...[]api.Alt) api.Match { return api.Match{Rows: rows} }

// compiled answers the match of words that blanks part.
func compiled(t *testing.T, words string) api.Match {
	t.Helper()
	m, code := match.Compile(strings.Fields(words))
	if code != api.Fine {
		t.Fatalf("Compile of %q: %d", words, code)
	}
	return m
}

// isHas tells where Has does not answer these.
func isHas(t *testing.T, what string, f *jfile.File, p api.Pair, want ...int) {
	t.Helper()
	if got := Has(f, p); !slices.Equal(got, want) {
		t.Errorf("%s: Has of %.300q: %v; want %v", what, p, got, want)
	}
}

// isFind tells where Find does not answer these, or changes m.
func isFind(t *testing.T, what string, f *jfile.File, m api.Match, want ...int) {
	t.Helper()
	given := fmt.Sprintf("%q", m)
	if got := Find(f, m); !slices.Equal(got, want) {
		t.Errorf("%s: Find of %.300q: %v; want %v", what, m, got, want)
	}
	if is := fmt.Sprintf("%q", m); is != given {
		t.Errorf("%s: what was handed in is changed: %.300s; was %.300s", what, is, given)
	}
}

// toldHas answers what Has answers, by the chapter's words.
func toldHas(f *jfile.File, p api.Pair) []int {
	if !field.Right(p) {
		return nil
	}
	d, code := chain.FindData(f.View(), []byte(p.Name+"="+p.Value))
	if code != api.Fine {
		return nil
	}
	places, _ := link.Of(f.View(), d)
	var l []int
	for _, i := range f.Good() {
		if at, _ := f.At(i); slices.Contains(places, at) {
			l = append(l, i)
		}
	}
	return l
}

// toldFind answers what Find answers, by the chapter's words: of what Has does.
func toldFind(f *jfile.File, m api.Match) []int {
	has := map[api.Pair][]int{}
	for _, a := range slices.Concat(m.Rows...) {
		for _, v := range a.Values {
			p := api.Pair{Name: a.Name, Value: v}
			has[p] = toldHas(f, p)
		}
	}
	var l []int
	for _, i := range f.Good() {
		is := len(m.Rows) == 0
		for _, r := range m.Rows {
			all := true
			for _, a := range r {
				one := false
				for _, v := range a.Values {
					one = one || slices.Contains(has[api.Pair{Name: a.Name, Value: v}], i)
				}
				all = all && one
			}
			is = is || all
		}
		if is {
			l = append(l, i)
		}
	}
	return l
}

// held answers which of the right entries have fields that match.Holds.
func held(t *testing.T, f *jfile.File, m api.Match) []int {
	t.Helper()
	var l []int
	for _, i := range f.Good() {
		r, code := f.Record(i)
		if code != api.Fine {
			t.Fatalf("Record(%d) of a right one: %d", i, code)
		}
		if match.Holds(m, r.Fields) {
			l = append(l, i)
		}
	}
	return l
}

// dice answers numbers that are as good as thrown, the same ones each time.
func dice(seed uint64) func(n int) int {
	state := seed*0x9e3779b97f4a7c15 + 1
	return func(n int) int {
		state = state*6364136223846793005 + 1442695040888963407
		return int(state >> 33 % uint64(n))
	}
}
