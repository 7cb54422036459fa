package central_test

import (
	"slices"
	"strconv"

	"quillet/api"
	"quillet/geom"
	"quillet/mem"
)

// ledger reads a thread's accesses, and holds them to what the chapter says of the epoch: behind each move 1 is added ahead of the next access, behind the collecting of n runs n, and nothing else is; and to what is done to runs being done under the lock.
type ledger struct {
	g       geom.Geom
	self    int
	moves   uint64  // what was added to the epoch
	owed    uint64  // moves that were done, and are to be added
	freeing bool    // what is owed are runs, or slabs, which take further accesses to be freed
	row     []move  // what was done, in its row
	fault   string  // the first one
	inHand  []int   // blocks that were taken out of caches and bags, and not put anywhere so far
	most    int     // how many these were at most
	tries   []taken // how each try for the lock ended
}

// taken is whether a try got the lock.
type taken bool

// move is what was put where others find it.
type move struct {
	how string
	at  int // the grain of a block, the page of a run or a slab
}

// note reads an access that is about to be done.
func (l *ledger) note(m *mem.Memory, a api.Access) {
	if a.Kind == api.Add && a.At == l.g.Epoch() {
		l.adds(a.A)
		return
	}
	if l.owed > 0 && (!l.freeing || !l.frees(a)) {
		l.fails("a move is not added to the epoch ahead of the next access")
	}
	if a.At == l.g.Epoch() && a.Kind != api.Load {
		l.fails("the epoch is not added to, but changed")
	}
	done := a.Kind != api.CAS || m.Word(a.At) == a.A
	if a.Kind == api.CAS && a.At == l.g.Lock() && a.B != 0 {
		l.tries = append(l.tries, taken(done))
	}
	if done && a.Kind != api.Load {
		l.changes(m, a)
	}
	isRuns := isIn(a.At, l.g.Page(0), l.g.Pages()) || isIn(a.At, l.g.Bin(0), 9)
	if isRuns && (a.Kind == api.Store || a.Kind == api.Add) && m.Word(l.g.Lock()) != uint64(l.self)+1 {
		l.fails("a run is touched without the lock")
	}
}

// adds reads an Add of the epoch.
func (l *ledger) adds(n uint64) {
	if n != l.owed || n == 0 {
		l.fails(strconv.FormatUint(n, 10) + " is added to the epoch, behind " + strconv.FormatUint(l.owed, 10) + " moves")
	}
	l.moves += n
	l.owed, l.freeing = 0, false
}

// frees asks whether an access may be one of those by which a run is freed. A used run's word is none of them.
func (l *ledger) frees(a api.Access) bool {
	if isIn(a.At, l.g.Page(0), l.g.Pages()) {
		return a.Kind == api.Load || a.Kind == api.Store && kindOf(a.A) != used
	}
	return isIn(a.At, l.g.Bin(0), 9)
}

// changes reads an access that changes a word.
func (l *ledger) changes(m *mem.Memory, a api.Access) {
	g, n := l.g, l.g.Pages()
	switch {
	case isIn(a.At, g.Cache(0, 0, 0), g.Threads()*8), isIn(a.At, g.Item(1, 0), g.Nodes()*8):
		l.item(m.Word(a.At), behind(a), isIn(a.At, g.Cache(0, 0, 0), g.Threads()*8))
	case isIn(a.At, g.Adds(0), 4):
		l.moved("bag", l.last())
	case isIn(a.At, g.Remote(0), n):
		if a.B == 0 {
			l.inHand = append(l.inHand, stackOf(m, g, a.At-g.Remote(0))...)
		} else {
			l.moved("remote", int(a.B)-1)
		}
	case isIn(a.At, g.Bits(0), n):
		l.bits(a.At-g.Bits(0), m.Word(a.At), behind(a), a.Kind == api.Store)
	case isIn(a.At, g.Page(0), n):
		page, was := a.At-g.Page(0), kindOf(m.Word(a.At))
		switch {
		case a.Kind == api.CAS:
			l.moved("defer", page)
		case was == later:
			l.moved("collect", page)
			l.freeing = true
		}
	}
}

// item reads a change of an item's place.
func (l *ledger) item(was, is uint64, isCache bool) {
	switch {
	case is == 0 && was != 0:
		l.inHand = append(l.inHand, int(was)-1)
		l.most = max(l.most, len(l.inHand))
	case is != 0 && isCache:
		l.moved("cache", int(is)-1)
	case is != 0:
		l.inHand = append(l.inHand, int(is)-1) // till it is counted by Adds
	}
}

// bits reads a change of a page's bits.
func (l *ledger) bits(page int, was, is uint64, stored bool) {
	switch {
	case stored:
		l.moved("make", page)
	case classOf(is) == -1:
		l.moved("retire", page)
		l.freeing = true
	case homeOf(is) > homeOf(was):
		for block, at := range begins(classOf(is)) {
			if (homeOf(is)&^homeOf(was))>>block&1 == 1 {
				l.moved("home", 8*page+at)
			}
		}
	}
}

// moved is behind a move.
func (l *ledger) moved(how string, at int) {
	l.row = append(l.row, move{how, at})
	l.owed++
	if i := slices.Index(l.inHand, at); i >= 0 {
		l.inHand = slices.Delete(l.inHand, i, i+1)
	}
}

// last is the block that was taken in hand last; -1, if there is none.
func (l *ledger) last() int {
	if len(l.inHand) == 0 {
		return -1
	}
	return l.inHand[len(l.inHand)-1]
}

// end is behind a call.
func (l *ledger) end() {
	if l.owed > 0 {
		l.fails("a move is not added to the epoch")
	}
}

func (l *ledger) fails(what string) {
	if l.fault == "" {
		l.fault = what
	}
}

// behind is what a word is behind an access that changes it.
func behind(a api.Access) uint64 {
	if a.Kind == api.CAS {
		return a.B
	}
	return a.A
}

// isIn asks whether a word is one of n from the first one on.
func isIn(at, first, n int) bool { return at >= first && at < first+n }
