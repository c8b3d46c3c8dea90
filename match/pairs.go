package match

import "diurnal/api"

// pairs are those of an entry. A set of them takes one look a value, however
// many values are asked for and however many pairs there are.
type pairs map[api.Pair]struct{}

func gather(l []api.Pair) pairs {
	has := make(pairs, len(l))
	for _, p := range l {
		has[p] = struct{}{}
	}
	return has
}

// row tells whether each Alt of the row holds.
func (has pairs) row(row []api.Alt) bool {
	for _, a := range row {
		if !has.alt(a) {
			return false
		}
	}
	return true
}

// alt tells whether one of a's values is there under its name.
func (has pairs) alt(a api.Alt) bool {
	for _, v := range a.Values {
		if _, ok := has[api.Pair{Name: a.Name, Value: v}]; ok {
			return true
		}
	}
	return false
}
