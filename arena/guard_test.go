package arena

import (
	"errors"
	"math"
	"testing"

	"diurnal/api"
)

// P10.2: Guard of nothing, and of what comes to its end: called once.
func TestGuardOfWhatEnds(t *testing.T) {
	if !Guard(nil) {
		t.Error("Guard of nothing")
	}
	n := 0
	if !Guard(func() { n++ }) || n != 1 {
		t.Errorf("Guard of what ends: called %d times", n)
	}
	caught := func() {
		defer func() { n, _ = recover().(int) }()
		panic(7)
	}
	if !Guard(caught) || n != 7 {
		t.Errorf("Guard of what caught its own: %d", n)
	}
	back := func() {
		for range 3 {
			return
		}
	}
	if !Guard(back) {
		t.Error("Guard of what returns early")
	}
}

// P10.2: false where it panicked, whatever with.
func TestGuardOfWhatPanics(t *testing.T) {
	var list []int
	var table map[int]int
	var pointer *int
	var full any = "text"
	var call func()
	closed := make(chan int)
	close(closed)
	zero := len(list)
	for name, f := range map[string]func(){
		"a text":      func() { panic("x") },
		"an error":    func() { panic(errors.New("x")) },
		"nothing":     func() { panic(nil) },
		"false":       func() { panic(false) },
		"true":        func() { panic(true) },
		"zero":        func() { panic(0) },
		"a halt":      func() { panic(halt(api.ErrArg)) },
		"Fine":        func() { panic(halt(api.Fine)) },
		"an index":    func() { list[zero]++ },
		"a slice":     func() { list = list[:zero+1] },
		"a map":       func() { table[1] = 1 },
		"a pointer":   func() { *pointer = 1 },
		"a division":  func() { zero = 1 / zero },
		"a type":      func() { zero = full.(int) },
		"a channel":   func() { closed <- 1 },
		"closing":     func() { close(closed) },
		"no function": func() { call() },
		"a size":      func() { list = make([]int, zero-1) },
		"behind its end": func() {
			defer func() { panic("x") }()
		},
		"again": func() {
			defer func() { panic(recover()) }()
			panic("x")
		},
		"in what it calls": func() {
			func() { func() { panic("x") }() }()
		},
	} {
		if Guard(f) {
			t.Errorf("Guard of what panicked: %s", name)
		}
	}
}

// P10.2: what was done up to the panic stays, and what was deferred is done.
func TestGuardLeavesWhatWasDone(t *testing.T) {
	row := ""
	ok := Guard(func() {
		defer func() { row += "c" }()
		row += "a"
		if row == "a" {
			panic("b")
		}
		row += "b"
	})
	if ok || row != "ac" {
		t.Errorf("Guard: %t, %q", ok, row)
	}
}

// P10.2: one in another: each tells of its own.
func TestGuardInGuard(t *testing.T) {
	inner := true
	if !Guard(func() { inner = Guard(func() { panic("x") }) }) || inner {
		t.Errorf("inner %t", inner)
	}
	if Guard(func() { inner = Guard(func() {}); panic("x") }) || !inner {
		t.Errorf("inner %t", inner)
	}
	// And behind one that panicked.
	if !Guard(func() {}) {
		t.Error("Guard behind one that panicked")
	}
}

// P0.1: what is asked never panics, though what reads does.
func TestAskedNeverPanics(t *testing.T) {
	j, entryAt := mixed(false)
	b := j.bytes()
	for _, spoilt := range []int{-1, 272, 280, int(entryAt), int(entryAt) + 8, int(entryAt) + 64} {
		if spoilt >= 0 {
			b[spoilt] ^= 0xff
		}
		v := opened(t, b)
		ok := Guard(func() {
			for _, at := range places(b) {
				v.Data(at)
				v.Field(at)
				v.Entry(at)
				v.Array(at)
				v.Payload(at)
				v.Record(at)
			}
			for _, kind := range []int{math.MinInt, -1, 0, 1, 2, 3, 4, 5, 6, 7, 8, math.MaxInt} {
				v.Table(kind)
			}
		})
		if !ok {
			t.Errorf("a call panicked, with the byte at %d spoilt", spoilt)
		}
	}
	v := j.view(t)
	for name, f := range map[string]func(){
		"data":   func() { v.data(0) },
		"entry":  func() { v.entry(v.End()) },
		"hashed": func() { v.hashed(8) },
		"record": func() { v.record(0) },
		"table":  func() { v.table(api.Tag) },
	} {
		if Guard(f) {
			t.Errorf("%s reads on where nothing is", name)
		}
	}
}

// P0.1: asked tells the code of a halt, with nothing beside, and lets no other
// panic out.
func TestAsked(t *testing.T) {
	var none []int
	for name, c := range map[string]struct {
		read func() int
		n    int
		code int
	}{
		"what ends":   {func() int { return got(3, api.Fine) }, 3, api.Fine},
		"a halt":      {func() int { return got(3, api.ErrSum) }, 0, api.ErrSum},
		"a need":      {func() int { need(len(none) > 0, api.ErrNone); return 3 }, 0, api.ErrNone},
		"no need":     {func() int { need(len(none) == 0, api.ErrNone); return 3 }, 3, api.Fine},
		"Go's own":    {func() int { return none[len(none)] }, 0, api.ErrRange},
		"another one": {func() int { panic(api.ErrSum) }, 0, api.ErrRange},
	} {
		if n, code := asked(c.read); n != c.n || code != c.code {
			t.Errorf("asked of %s: %d, %d; want %d, %d", name, n, code, c.n, c.code)
		}
	}
}
