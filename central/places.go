package central

import (
	"quillet/api"
	"quillet/bag"
	"quillet/cache"
	"quillet/lock"
	"quillet/runs"
	"quillet/slab"
	"quillet/word"
)

// place is where a block may be had: its first grain, if there is one; ErrNoMem, if there is none, and ErrBusy, if the lock is not got.
type place func(c *call) (int, api.Errno)

// search asks one place behind the other, from the first one on. That none has a block says that there is none only if no other thread has put one where the search was past.
func (c *call) search(places []place) (int, api.Errno) {
	for {
		c.moves = 0
		began := c.p.Load(c.g.Epoch())
		grain, e := c.first(places)
		if e != api.ErrNoMem || c.p.Load(c.g.Epoch()) == began+c.moves {
			return grain, e
		}
	}
}

// first is what the first place tells that does not tell of none.
func (c *call) first(places []place) (int, api.Errno) {
	for _, of := range places {
		if grain, e := of(c); e != api.ErrNoMem {
			return grain, e
		}
	}
	return 0, api.ErrNoMem
}

// ofCache takes a block of the own cache.
func (c *call) ofCache() (int, api.Errno) {
	return ofItem(cache.Take(c.p, c.g, c.class))
}

// ofBag takes a block of the class's bag.
func (c *call) ofBag() (int, api.Errno) {
	return ofItem(bag.Take(c.p, c.g, c.class))
}

// ofItem is what a place tells that has an item, or none.
func ofItem(item uint64, ok bool) (int, api.Errno) {
	if !ok {
		return 0, api.ErrNoMem
	}
	return grainOf(item), api.OK
}

// ofRemotes takes all that others freed of a page, and keeps the first block. Ahead of that the page may have been freed and made a slab of another class: so its class is asked again, which stays from there on, as its blocks are in hand.
func (c *call) ofRemotes() (int, api.Errno) {
	for page := range c.g.Pages() {
		if !c.isOfClass(page) {
			continue
		}
		blocks := slab.Drain(c.p, c.g, page)
		if len(blocks) > 0 && c.isOfClass(page) {
			c.home(blocks[1:]...)
			return blocks[0], api.OK
		}
		c.home(blocks...)
	}
	return 0, api.ErrNoMem
}

// isOfClass asks whether a page's bits are of the class that is looked for.
func (c *call) isOfClass(page int) bool {
	b := word.BitsOf(c.p.Load(c.g.Bits(page)))
	return b.Has && b.Class == c.class
}

// ofBits takes a block that is home.
func (c *call) ofBits() (int, api.Errno) {
	for page := range c.g.Pages() {
		if grain, ok := slab.Take(c.p, c.g, page, c.class); ok {
			return grain, api.OK
		}
	}
	return 0, api.ErrNoMem
}

// ofNewSlab makes a slab of a new page.
func (c *call) ofNewSlab() (int, api.Errno) { return c.ofLocked((*call).newSlab) }

// newSlab is for who holds the lock.
func (c *call) newSlab() (int, api.Errno) {
	page, ok := runs.Alloc(c.p, c.g, 1, 1)
	if !ok {
		return 0, api.ErrNoMem
	}
	grain := slab.Make(c.p, c.g, page, c.class)
	c.moved(1)
	return grain, api.OK
}

// ofRuns takes a run of pages.
func (c *call) ofRuns() (int, api.Errno) { return c.ofLocked((*call).newRun) }

// newRun is for who holds the lock.
func (c *call) newRun() (int, api.Errno) {
	c.collect()
	page, ok := runs.Alloc(c.p, c.g, c.k, c.a)
	if !ok {
		return 0, api.ErrNoMem
	}
	return page * api.Grains, api.OK
}

// ofSweep has no block itself: it fills the places that are asked behind it.
func (c *call) ofSweep() (int, api.Errno) {
	if !c.sweep() {
		return 0, api.ErrBusy
	}
	return 0, api.ErrNoMem
}

// ofLocked asks a place that only who holds the lock may ask.
func (c *call) ofLocked(of place) (grain int, e api.Errno) {
	if !c.locked(func() { grain, e = of(c) }) {
		return 0, api.ErrBusy
	}
	return grain, e
}

// locked does something under the lock; false, if that is not got. The lock is not dropped by a deferred call, as one who is ended where it stands does nothing more.
func (c *call) locked(do func()) bool {
	if !lock.Try(c.p, c.g) {
		return false
	}
	do()
	lock.Drop(c.p, c.g)
	return true
}
