package central

import (
	"quillet/api"
	"quillet/bag"
	"quillet/cache"
	"quillet/runs"
	"quillet/slab"
)

// sweep moves home what can be had, and, if the lock is got, frees what nobody holds a block of. Of caches and bags no more than one block is in hand at a time, so that others miss no more.
func (c *call) sweep() bool {
	for thread := range c.g.Threads() {
		for class := range api.Classes {
			c.emptyCache(thread, class)
		}
	}
	for class := range api.Classes {
		c.emptyBag(class)
	}
	for page := range c.g.Pages() {
		c.home(slab.Drain(c.p, c.g, page)...)
	}
	return c.locked(func() {
		c.collect()
		c.retire()
	})
}

// emptyCache sends home what a thread's cache of a class has.
func (c *call) emptyCache(thread, class int) {
	for {
		item, ok := cache.Steal(c.p, c.g, thread, class)
		if !ok {
			return
		}
		c.home(grainOf(item))
	}
}

// emptyBag sends home what can be taken from a class's bag.
func (c *call) emptyBag(class int) {
	for {
		item, ok := bag.Take(c.p, c.g, class)
		if !ok {
			return
		}
		c.home(grainOf(item))
	}
}

// home sends blocks in hand home.
func (c *call) home(grains ...int) {
	for _, grain := range grains {
		c.movedIf(slab.Home(c.p, c.g, grain))
	}
}

// collect frees deferred runs, for who holds the lock.
func (c *call) collect() { c.moved(runs.Collect(c.p, c.g)) }

// retire frees slabs all of whose blocks are home, for who holds the lock.
func (c *call) retire() {
	for page := range c.g.Pages() {
		c.movedIf(slab.Retire(c.p, c.g, page))
	}
}

// movedIf counts a move, if it was done.
func (c *call) movedIf(done bool) {
	if done {
		c.moved(1)
	}
}
