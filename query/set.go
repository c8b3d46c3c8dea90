package query

// set tells of each of a journal's right entries, by its number among them,
// whether it is in.
type set []bool

// none answers a set that has none of the right entries.
func (r right) none() set { return make(set, len(r.entries)) }

// all answers a set that has all of them.
func (r right) all() set {
	s := r.none()
	for k := range s {
		s[k] = true
	}
	return s
}

// keep leaves in s what other has, too.
func (s set) keep(other set) {
	for k := range s {
		s[k] = s[k] && other[k]
	}
}

// add puts into s what other has.
func (s set) add(other set) {
	for k := range s {
		s[k] = s[k] || other[k]
	}
}
