package thread

import "quillet/api"

// way is the port of one body: by it the body asks its thread for each access, and waits till that is granted.
type way struct {
	of      *Thread
	asks    chan api.Access
	grants  chan uint64
	closed  chan struct{}
	ends    chan any
	steps   int
	told    api.Result
	hasTold bool
}

// closing is what a body panics with where it is ended. It names the way, as a body may run others, and what ends one of them is not to be taken for what ends another.
type closing struct {
	of *way
}

func newWay(t *Thread) *way {
	return &way{
		of:     t,
		asks:   make(chan api.Access),
		grants: make(chan uint64),
		closed: make(chan struct{}),
		ends:   make(chan any),
	}
}

// run does a body, and tells at its end the panic of its own by which it has ended; nil, if by none.
func (w *way) run(body func(p api.Port)) {
	defer func() {
		own := recover()
		if own == any(closing{w}) {
			own = nil
		}
		w.ends <- own
	}()
	body(w)
}

// wait asks for an access, and comes back with what is granted. A closed thread is looked for ahead, lest it be asked once more by a body that has closed it itself.
func (w *way) wait(a api.Access) uint64 {
	if w.of.last != w || w.of.does != running {
		return 0 // None would ever grant it: who asks is not the body, or that has ended.
	}
	if w.of.closed {
		panic(closing{w})
	}
	w.asks <- a
	select {
	case v := <-w.grants:
		w.steps++
		return v
	case <-w.closed:
		panic(closing{w})
	}
}

// Load waits for the word that is there.
func (w *way) Load(at int) uint64 {
	return w.wait(api.Access{Kind: api.Load, At: at})
}

// Store waits till a word is put there.
func (w *way) Store(at int, v uint64) {
	w.wait(api.Access{Kind: api.Store, At: at, A: v})
}

// CAS waits till it is told whether the old word was there, and the new one is.
func (w *way) CAS(at int, old, new uint64) bool {
	return w.wait(api.Access{Kind: api.CAS, At: at, A: old, B: new}) != 0
}

// Add waits for what was there, ahead of n more.
func (w *way) Add(at int, n uint64) uint64 {
	return w.wait(api.Access{Kind: api.Add, At: at, A: n})
}

// Get waits for the byte that is there.
func (w *way) Get(at int) byte {
	return byte(w.wait(api.Access{Kind: api.Get, At: at}))
}

// Put waits till a byte is put there.
func (w *way) Put(at int, b byte) {
	w.wait(api.Access{Kind: api.Put, At: at, A: uint64(b)})
}

// Self is the thread's number.
func (w *way) Self() int {
	return w.of.self
}

// Steps is how many of the body's accesses were granted.
func (w *way) Steps() int {
	return w.steps
}

// Tell keeps what the body tells.
func (w *way) Tell(r api.Result) {
	w.told, w.hasTold = r, true
}
