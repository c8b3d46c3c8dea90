package check

import (
	"diurnal/api"
	"diurnal/entry"
	"diurnal/field"
)

// alone tells the code of the first object that is wrong as it stands, whatever
// it is bound to, and its place.
func (j *journal) alone() (uint64, int) {
	for _, x := range j.objects {
		if code := j.look(x); code != api.Fine {
			return x.at, code
		}
	}
	return 0, api.Fine
}

// look tells what is wrong with that object: arena's code by its kind, of a
// table entry.ReadTable's; and what data and field name. Nothing is asked of a
// Tag.
func (j *journal) look(x object) (code int) {
	switch x.kind {
	case api.Data:
		code = j.data(x.at)
	case api.Field:
		code = j.field(x.at)
	case api.Entry:
		_, code = j.v.Entry(x.at)
	case api.Array:
		_, code = j.v.Array(x.at)
	case api.DataTable, api.FieldTable:
		_, code = entry.ReadTable(j.b, x.at, x.kind)
	}
	return code
}

// data tells arena's code of the Data at that place, ErrHash where its hash is
// another one, and field.Split's code of its payload. It notes the Data as
// loose.
func (j *journal) data(at uint64) int {
	d, code := j.v.Data(at)
	if code != api.Fine {
		return code
	}
	if d.Hash != j.v.Hash(d.Payload) {
		return api.ErrHash
	}
	j.loose[at] = d.Hash
	_, code = field.Split(d.Payload)
	return code
}

// field tells arena's code of the Field at that place, ErrHash where its hash
// is another one, and ErrText where its payload is no name. It notes the Field
// as loose.
func (j *journal) field(at uint64) int {
	f, code := j.v.Field(at)
	if code != api.Fine {
		return code
	}
	if f.Hash != j.v.Hash(f.Payload) {
		return api.ErrHash
	}
	j.loose[at] = f.Hash
	if !field.Name(string(f.Payload)) {
		return api.ErrText
	}
	return api.Fine
}
