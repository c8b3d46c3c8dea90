package marks

import (
	"diurnal/api"
	"diurnal/le"
)

const (
	// countSize is how many bytes tell how many marks there are.
	countSize = 1
	idSize    = 16
	// width is how many bytes a number of a mark has.
	width = 8
	// markSize is how many bytes a mark has: its ID, Seq, Lost and Over.
	markSize = idSize + 3*width
)

// Bytes answers l as bytes; nothing where l is not Right.
func Bytes(l []api.Mark) []byte {
	if !Right(l) {
		return nil
	}
	b := le.Add(nil, countSize, uint64(len(l)))
	for _, m := range l {
		b = append(b, m.ID[:]...)
		b = le.Add(b, width, m.Seq)
		b = le.Add(b, width, m.Lost)
		b = le.Add(b, width, m.Over)
	}
	return b
}

// Read answers the marks that b begins with, and how many bytes of it they
// are. It tells, from the front, ErrShort where b ends ahead of their end,
// ErrLong where they are too many, and ErrOrder where their IDs do not rise.
func Read(b []byte) ([]api.Mark, int, int) {
	count, ok := le.Get(b, 0, countSize)
	if !ok {
		return nil, 0, api.ErrShort
	}
	if count > api.MaxMarks {
		return nil, 0, api.ErrLong
	}
	var l []api.Mark
	at := countSize
	for range count {
		m, code := next(l, b[at:])
		if code != api.Fine {
			return nil, 0, code
		}
		l = append(l, m)
		at += markSize
	}
	return l, at, api.Fine
}

// next answers the mark that b begins with, the one behind those of l. Its ID
// is asked as soon as it is whole, be its numbers there or not.
func next(l []api.Mark, b []byte) (api.Mark, int) {
	if len(b) < idSize {
		return api.Mark{}, api.ErrShort
	}
	var m api.Mark
	copy(m.ID[:], b)
	if len(l) > 0 && !rises(l[len(l)-1].ID, m.ID) {
		return api.Mark{}, api.ErrOrder
	}
	if len(b) < markSize {
		return api.Mark{}, api.ErrShort
	}
	m.Seq, _ = le.Get(b, idSize, width)
	m.Lost, _ = le.Get(b, idSize+width, width)
	m.Over, _ = le.Get(b, idSize+2*width, width)
	return m, api.Fine
}
