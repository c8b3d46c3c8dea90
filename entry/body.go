package entry

import (
	"diurnal/api"
	"diurnal/le"
	"diurnal/obj"
)

const (
	// front is how many bytes of an object stand ahead of its body.
	front = 16
	// width is how many bytes a number in a body has.
	width = 8
)

// bodyOf answers the piece of b that is the body of the object at that place.
// It tells obj.Read's codes, ErrType where it is of another kind, and ErrSize
// where the body has not, behind so many bytes ahead, one or more whole rows of
// each bytes.
func bodyOf(b []byte, at uint64, kind, ahead, each int) ([]byte, int) {
	frame, code := obj.Read(b, at)
	if code != api.Fine {
		return nil, code
	}
	if frame.Kind != kind {
		return nil, api.ErrType
	}
	body := b[at+front : at+frame.Size]
	// What is left may be below 0: that is no row either.
	left := len(body) - ahead
	if left < each || left%each != 0 {
		return nil, api.ErrSize
	}
	return body, api.Fine
}

// with answers body with the numbers of l behind it; it may write into body's
// spare room.
func with(body []byte, l ...uint64) []byte {
	for _, v := range l {
		// le.Add copies what it is handed: handed the whole body for each number,
		// a long list would take the square of its length.
		body = append(body, le.Add(nil, width, v)...)
	}
	return body
}

// number answers the number at that place of a body that has it.
func number(body []byte, at int) uint64 {
	v, _ := le.Get(body, at, width)
	return v
}
