package arena

import "diurnal/api"

// halt is what reading panics with where it can't go on: the code that the
// call that was asked tells.
type halt int

// Guard calls f, if there is one. It answers false where f panicked.
func Guard(f func()) (ended bool) {
	if f == nil {
		return true
	}
	// What it panicked with is not asked: where f doesn't come to its end, true
	// is not reached.
	defer func() { recover() }()
	f()
	return true
}

// asked answers what read answers, or the code with which it halted. What
// reads has no codes to hand up: whatever it had read so far is gone then.
func asked[T any](read func() T) (answer T, code int) {
	defer func() {
		switch why := recover().(type) {
		case nil:
		case halt:
			code = int(why)
		default:
			// Nothing but halts is known. Were there another one, no call may let it
			// out: it went beyond the bytes.
			code = api.ErrRange
		}
	}()
	return read(), api.Fine
}

// got answers x, and halts with the code that stands beside it.
func got[T any](x T, code int) T {
	need(code == api.Fine, code)
	return x
}

// need halts with the code where what reading needs doesn't hold.
func need(holds bool, code int) {
	if !holds {
		panic(halt(code))
	}
}
