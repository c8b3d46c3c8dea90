package check

import (
	"slices"

	"diurnal/api"
	"diurnal/chain"
	"diurnal/link"
)

// chained tells arena's Table's code of the data's table, then of the fields',
// and chain.Bucket's of each one's slots. What it meets where it belongs is
// loose no more.
func (j *journal) chained() (uint64, int) {
	for _, kind := range [...]int{api.DataTable, api.FieldTable} {
		if code := j.table(kind); code != api.Fine {
			return 0, code
		}
	}
	return 0, api.Fine
}

// table tells what chained does of one table.
func (j *journal) table(kind int) int {
	slots, code := j.v.Table(kind)
	if code != api.Fine {
		return code
	}
	for i, slot := range slots {
		// An empty chain is right. Most slots of a great table have one, and each
		// that is asked for reads the table whole.
		if j.isNothing(slot.Head) {
			continue
		}
		places, code := chain.Bucket(j.v, kind, i)
		if code != api.Fine {
			return code
		}
		for _, at := range places {
			if hash, ok := j.loose[at]; ok && hash%uint64(len(slots)) == uint64(i) {
				delete(j.loose, at)
			}
		}
	}
	return api.Fine
}

// met tells ErrNone of the first Data or Field that is still loose, and its
// place.
func (j *journal) met() (uint64, int) {
	for _, x := range j.objects {
		if _, ok := j.loose[x.at]; ok {
			return x.at, api.ErrNone
		}
	}
	return 0, api.Fine
}

// linked tells link.Entries' code; the code of the first entry that is wrong,
// and its place; and ErrOrder where the head's numbers are not those of the
// first entry and the last.
func (j *journal) linked() (uint64, int) {
	places, code := link.Entries(j.v)
	if code != api.Fine {
		return 0, code
	}
	first, last := uint64(0), uint64(0)
	for i, at := range places {
		if last, code = j.entry(at, last); code != api.Fine {
			return at, code
		}
		if i == 0 {
			first = last
		}
	}
	if h := j.v.Head(); h.HeadSeq != first || h.TailSeq < last {
		return 0, api.ErrOrder
	}
	return 0, api.Fine
}

// entry answers the number of the entry at that place. It tells arena's
// Record's code; ErrOrder where the number is not above the one ahead; and item
// by item link.Of's code, and ErrNone where the item's Data does not have the
// entry.
func (j *journal) entry(at, ahead uint64) (uint64, int) {
	r, code := j.v.Record(at)
	if code != api.Fine {
		return 0, code
	}
	if r.Seq <= ahead {
		return 0, api.ErrOrder
	}
	e, _ := j.v.Entry(at)
	for _, item := range e.Items {
		l, code := j.usersOf(item.At)
		if code != api.Fine {
			return 0, code
		}
		// link.Of tells no code only where its places rise.
		if _, ok := slices.BinarySearch(l, at); !ok {
			return 0, api.ErrNone
		}
	}
	return r.Seq, api.Fine
}

// usersOf answers what link.Of does. It asks it once of each Data: where all
// entries have the same one, each of them asks for all.
func (j *journal) usersOf(data uint64) ([]uint64, int) {
	if l, ok := j.users[data]; ok {
		return l, api.Fine
	}
	l, code := link.Of(j.v, data)
	if code == api.Fine {
		j.users[data] = l
	}
	return l, code
}

// isNothing tells whether that place stands for nothing in a chain.
func (j *journal) isNothing(at uint64) bool {
	return at == 0 || at >= j.v.End()
}
