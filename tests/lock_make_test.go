package tests

import (
	"math"
	"math/rand"
	"slices"
	"testing"

	"loop.example/turnpike/impl"
)

const manyLocks = 20000

// maxHolds is how many the document allows to hold a lock, or wait for it, together.
const maxHolds = 16

// noStamps are no tries either.
var noStamps = []int{math.MinInt, -impl.LockMaxStamp, -1, 0, impl.LockMaxStamp + 1, math.MaxInt}

var edgeStamps = []int{1, 2, impl.LockMaxStamp - 1, impl.LockMaxStamp}

func alone(stamp, try int) impl.Hold {
	return impl.Hold{Stamp: stamp, Try: try}
}

func sharing(stamp, try int) impl.Hold {
	return impl.Hold{Stamp: stamp, Try: try, Share: true}
}

func firm(h impl.Hold) impl.Hold {
	h.Firm = true
	return h
}

func holds(list ...impl.Hold) []impl.Hold {
	return list
}

// sharers are so many that share, by the stamps from first on.
func sharers(first, many int) []impl.Hold {
	var list []impl.Hold
	for i := range many {
		list = append(list, sharing(first+i, 1))
	}
	return list
}

func sameLock(a, b impl.Lock) bool {
	return a.Slot == b.Slot && slices.Equal(a.Held, b.Held) && slices.Equal(a.Waits, b.Waits)
}

func cloneLock(l impl.Lock) impl.Lock {
	l.Held, l.Waits = slices.Clone(l.Held), slices.Clone(l.Waits)
	return l
}

// asked is an answer of LockAsk.
type asked struct {
	lock  impl.Lock
	held  bool
	taken []impl.Hold
}

func ask(l impl.Lock, h impl.Hold) asked {
	lock, held, taken := impl.LockAsk(l, h)
	return asked{lock, held, taken}
}

func (a asked) same(b asked) bool {
	return sameLock(a.lock, b.lock) && a.held == b.held && slices.Equal(a.taken, b.taken)
}

// freed is an answer of LockFree.
type freed struct {
	lock  impl.Lock
	risen []impl.Hold
}

func free(l impl.Lock, stamp, try int) freed {
	lock, risen := impl.LockFree(l, stamp, try)
	return freed{lock, risen}
}

func (a freed) same(b freed) bool {
	return sameLock(a.lock, b.lock) && slices.Equal(a.risen, b.risen)
}

func meet(a, b impl.Hold) bool {
	if a.Stamp == b.Stamp {
		return false
	}
	return !a.Share || !b.Share
}

// ofStamp tells nothing, Stamp 0, if there is none.
func ofStamp(list []impl.Hold, stamp int) impl.Hold {
	for _, h := range list {
		if h.Stamp == stamp {
			return h
		}
	}
	return impl.Hold{}
}

// mayHoldByHand goes through all of Waits, to leave out those that are not elder.
func mayHoldByHand(l impl.Lock, h impl.Hold) bool {
	for _, x := range l.Held {
		if meet(x, h) {
			return false
		}
	}
	for _, x := range l.Waits {
		if x.Stamp < h.Stamp && meet(x, h) {
			return false
		}
	}
	return true
}

// placeByHand puts a hold behind all others, and sorts.
func placeByHand(list []impl.Hold, h impl.Hold) []impl.Hold {
	list = append(slices.Clone(list), h)
	slices.SortFunc(list, func(a, b impl.Hold) int { return a.Stamp - b.Stamp })
	return list
}

// askByHand asks in another way than the program, of a lock that is ok, to hold its answers against.
func askByHand(l impl.Lock, h impl.Hold) asked {
	as := cloneLock(l)
	if h.Firm || h.Stamp < 1 || h.Stamp > impl.LockMaxStamp || h.Try < 1 || h.Try > impl.LockMaxStamp {
		return asked{lock: as}
	}
	if x := ofStamp(l.Held, h.Stamp); x.Firm || x.Try >= h.Try {
		return asked{lock: as, held: x == h}
	}
	if x := ofStamp(l.Waits, h.Stamp); x.Try > h.Try {
		return asked{lock: as}
	}
	next := impl.Lock{Slot: l.Slot}
	var taken []impl.Hold
	for _, x := range l.Held {
		switch {
		case x.Stamp == h.Stamp:
		case x.Stamp > h.Stamp && meet(x, h) && !x.Firm:
			taken = append(taken, x)
		default:
			next.Held = append(next.Held, x)
		}
	}
	for _, x := range l.Waits {
		if x.Stamp != h.Stamp {
			next.Waits = append(next.Waits, x)
		}
	}
	if len(next.Held)+len(next.Waits) == maxHolds {
		return asked{lock: as}
	}
	if mayHoldByHand(next, h) {
		next.Held = placeByHand(next.Held, h)
		return asked{next, true, taken}
	}
	next.Waits = placeByHand(next.Waits, h)
	return asked{next, false, taken}
}

// freeByHand begins anew behind each that goes to Held, which the program does not.
func freeByHand(l impl.Lock, stamp, try int) freed {
	goes := func(h impl.Hold) bool { return h.Stamp == stamp && h.Try <= try }
	next := cloneLock(l)
	next.Held, next.Waits = slices.DeleteFunc(next.Held, goes), slices.DeleteFunc(next.Waits, goes)
	var risen []impl.Hold
	for {
		at := slices.IndexFunc(next.Waits, func(h impl.Hold) bool { return mayHoldByHand(next, h) })
		if at < 0 {
			return freed{next, risen}
		}
		h := next.Waits[at]
		next.Waits = slices.Delete(next.Waits, at, at+1)
		next.Held = placeByHand(next.Held, h)
		risen = append(risen, h)
	}
}

func okByHand(l impl.Lock) bool {
	if l.Slot < 0 || l.Slot >= impl.MapSlots || len(l.Held)+len(l.Waits) > maxHolds {
		return false
	}
	for _, list := range [][]impl.Hold{l.Held, l.Waits} {
		last := 0
		for _, h := range list {
			if h.Stamp <= last || h.Stamp > impl.LockMaxStamp || h.Try < 1 || h.Try > impl.LockMaxStamp {
				return false
			}
			last = h.Stamp
		}
	}
	for i, a := range l.Held {
		for _, b := range l.Held[:i] {
			if meet(a, b) {
				return false
			}
		}
	}
	return !slices.ContainsFunc(l.Waits, func(h impl.Hold) bool { return h.Firm || ofStamp(l.Held, h.Stamp).Stamp > 0 })
}

// makeHold tells few stamps and tries, so that many are of one; both ends are among them. It is not Firm.
func makeHold(r *rand.Rand) impl.Hold {
	h := impl.Hold{Stamp: 2 + r.Intn(30), Try: 1 + r.Intn(4), Share: r.Intn(2) == 0}
	switch r.Intn(12) {
	case 0:
		h.Stamp = edgeStamps[r.Intn(len(edgeStamps))]
	case 1:
		h.Try = edgeStamps[r.Intn(len(edgeStamps))]
	}
	return h
}

// makeLock tells any lock that is ok, also such as no asking leads to; some have as many as there may be.
func makeLock(r *rand.Rand) impl.Lock {
	l := impl.Lock{Slot: r.Intn(impl.MapSlots)}
	room := []int{0, 1, 2, 4, 8, maxHolds - 1, maxHolds}[r.Intn(7)]
	many := r.Intn(room + 1)
	shared := r.Intn(4) > 0
	for range 200 {
		h := makeHold(r)
		if ofStamp(l.Held, h.Stamp).Stamp > 0 || ofStamp(l.Waits, h.Stamp).Stamp > 0 {
			continue
		}
		switch {
		case len(l.Held)+len(l.Waits) == room:
			return l
		case len(l.Held) < many && (shared || len(l.Held) == 0):
			h.Share, h.Firm = shared, r.Intn(4) == 0
			l.Held = placeByHand(l.Held, h)
		default:
			l.Waits = placeByHand(l.Waits, h)
		}
	}
	return l
}

// walkLock tells a lock to which asking, promising and letting go lead.
func walkLock(r *rand.Rand) impl.Lock {
	l := impl.Lock{Slot: r.Intn(impl.MapSlots)}
	for range r.Intn(60) {
		h := makeHold(r)
		switch r.Intn(6) {
		case 0:
			if len(l.Held) > 0 {
				x := l.Held[r.Intn(len(l.Held))]
				l, _ = impl.LockFirm(l, x.Stamp, x.Try)
			}
		case 1:
			l, _ = impl.LockFree(l, h.Stamp, h.Try)
		default:
			h.Share = h.Share || r.Intn(2) == 0
			l, _, _ = impl.LockAsk(l, h)
		}
	}
	return l
}

// makeAsker tells often one whose stamp the lock has already, in an elder, the same or a later try.
func makeAsker(r *rand.Rand, l impl.Lock) impl.Hold {
	h := makeHold(r)
	both := slices.Concat(l.Held, l.Waits)
	if len(both) == 0 || r.Intn(2) == 0 {
		return h
	}
	x := both[r.Intn(len(both))]
	h.Stamp = x.Stamp
	h.Try = min(max(x.Try-1+r.Intn(3), 1), impl.LockMaxStamp)
	if r.Intn(3) > 0 {
		h.Share = x.Share
	}
	return h
}

// eachLock asks of many locks, and of one who asks; what is handed in must stay.
func eachLock(t *testing.T, seed int64, look func(r *rand.Rand, l impl.Lock, h impl.Hold)) {
	t.Helper()
	r := rand.New(rand.NewSource(seed))
	for i := range manyLocks {
		l := makeLock(r)
		if i%2 == 0 {
			l = walkLock(r)
		}
		h, kept := makeAsker(r, l), cloneLock(l)
		look(r, l, h)
		if !sameLock(l, kept) {
			t.Error("an argument was changed")
		}
		if t.Failed() {
			t.Fatalf("lock %+v hold %+v", kept, h)
		}
	}
}

// someLock is ok; each case of locksNotOk spoils one thing of it.
func someLock() impl.Lock {
	return impl.Lock{Slot: 3, Held: holds(sharing(4, 2), firm(sharing(6, 1)), sharing(9, 3)), Waits: holds(alone(3, 1), sharing(5, 2), alone(8, 1))}
}

func locksNotOk() []impl.Lock {
	var list []impl.Lock
	spoilt := func(spoil func(l *impl.Lock)) {
		l := someLock()
		spoil(&l)
		list = append(list, l)
	}
	for _, slot := range noSlots {
		spoilt(func(l *impl.Lock) { l.Slot = slot })
		list = append(list, impl.Lock{Slot: slot})
	}
	for i := range 3 {
		for _, number := range noStamps {
			spoilt(func(l *impl.Lock) { l.Held[i].Stamp = number })
			spoilt(func(l *impl.Lock) { l.Held[i].Try = number })
			spoilt(func(l *impl.Lock) { l.Waits[i].Stamp = number })
			spoilt(func(l *impl.Lock) { l.Waits[i].Try = number })
		}
		spoilt(func(l *impl.Lock) { l.Held[i].Share = false })
		spoilt(func(l *impl.Lock) { l.Waits[i].Firm = true })
		spoilt(func(l *impl.Lock) { l.Held = append(l.Held, l.Held[i]) })
		spoilt(func(l *impl.Lock) { l.Waits = append(l.Waits, l.Waits[i]) })
		spoilt(func(l *impl.Lock) { l.Held = slices.Insert(l.Held, i, l.Held[i]) })
		spoilt(func(l *impl.Lock) { l.Waits = slices.Insert(l.Waits, i, l.Waits[i]) })
		spoilt(func(l *impl.Lock) { l.Waits = placeByHand(l.Waits, sharing(l.Held[i].Stamp, 7)) })
		spoilt(func(l *impl.Lock) { l.Held = placeByHand(l.Held, sharing(l.Waits[i].Stamp, 7)) })
	}
	spoilt(func(l *impl.Lock) { slices.Reverse(l.Held) })
	spoilt(func(l *impl.Lock) { slices.Reverse(l.Waits) })
	return append(list,
		impl.Lock{Held: holds(alone(1, 1), alone(2, 1))},
		impl.Lock{Held: holds(alone(1, 1), sharing(2, 1))},
		impl.Lock{Held: holds(sharing(1, 1), alone(2, 1))},
		impl.Lock{Held: holds(firm(alone(1, 1)), firm(sharing(2, 1)))},
		impl.Lock{Held: holds(sharing(1, 1), sharing(2, 1), alone(impl.LockMaxStamp, 1))},
		impl.Lock{Held: holds(alone(1, 1)), Waits: holds(alone(1, 1))},
		impl.Lock{Waits: holds(firm(sharing(1, 1)))},
		impl.Lock{Held: sharers(1, maxHolds+1)},
		impl.Lock{Waits: sharers(1, maxHolds+1)},
		impl.Lock{Held: sharers(1, maxHolds), Waits: sharers(20, 1)},
		impl.Lock{Held: sharers(1, 1), Waits: sharers(20, maxHolds)},
		impl.Lock{Held: sharers(1, 5000), Waits: sharers(5001, 4000)},
	)
}
