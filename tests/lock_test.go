package tests

import (
	"math/rand"
	"slices"
	"testing"

	"loop.example/turnpike/impl"
)

// lockCase is one who asks, and what the document says of it.
type lockCase struct {
	name string
	lock impl.Lock
	by   impl.Hold
	want asked
}

func askAll(t *testing.T, list []lockCase) {
	t.Helper()
	for _, c := range list {
		if !impl.LockOk(c.lock) {
			t.Errorf("%s: not ok: %+v", c.name, c.lock)
		}
		if is := ask(c.lock, c.by); !is.same(c.want) {
			t.Errorf("%s: answer %+v, asked is %+v", c.name, is, c.want)
		}
	}
}

func TestPromise24OkStaysOk(t *testing.T) {
	var held, waited, took, full int
	eachLock(t, 31, func(r *rand.Rand, l impl.Lock, h impl.Hold) {
		is := ask(l, h)
		if !is.same(askByHand(l, h)) {
			t.Errorf("answer %+v, asked is %+v", is, askByHand(l, h))
		}
		promised, _ := impl.LockFirm(l, h.Stamp, h.Try)
		let := free(l, h.Stamp, h.Try)
		for _, x := range []impl.Lock{l, is.lock, promised, let.lock} {
			if !impl.LockOk(x) || !okByHand(x) || x.Slot != l.Slot {
				t.Errorf("not ok: %+v", x)
			}
		}
		switch {
		case is.held:
			held++
		case ofStamp(is.lock.Waits, h.Stamp) == h:
			waited++
		case len(l.Held)+len(l.Waits) == maxHolds && ofStamp(is.lock.Held, h.Stamp).Stamp == 0:
			full++
		}
		if len(is.taken) > 0 {
			took++
		}
	})
	if held < 1000 || waited < 1000 || took < 300 || full < 100 {
		t.Error("too few of a kind:", held, waited, took, full)
	}
}

func TestPromise24NothingIsTakenFromElderOrPromised(t *testing.T) {
	eachLock(t, 32, func(r *rand.Rand, l impl.Lock, h impl.Hold) {
		is := ask(l, h)
		for _, x := range is.taken {
			if x.Firm || x.Stamp <= h.Stamp || !meet(x, h) || ofStamp(l.Held, x.Stamp) != x || ofStamp(is.lock.Held, x.Stamp).Stamp > 0 {
				t.Errorf("taken: %+v", x)
			}
		}
		for _, x := range l.Held {
			gone := ofStamp(is.lock.Held, x.Stamp) != x
			if gone && x.Stamp != h.Stamp && !slices.Contains(is.taken, x) {
				t.Errorf("gone, and not told: %+v", x)
			}
		}
	})
}

func TestPromise24WhoMeetsWhom(t *testing.T) {
	held := func(x impl.Hold) impl.Lock { return impl.Lock{Slot: 5, Held: holds(x)} }
	held5 := func(x impl.Hold, waits ...impl.Hold) impl.Lock {
		return impl.Lock{Slot: 5, Held: holds(x), Waits: waits}
	}
	both := func(a, b impl.Hold) impl.Lock { return impl.Lock{Slot: 5, Held: holds(a, b)} }
	askAll(t, []lockCase{
		{"nobody has it", impl.Lock{Slot: 5}, alone(5, 1), asked{lock: held(alone(5, 1)), held: true}},
		{"an elder one", held(alone(5, 1)), alone(3, 1), asked{held(alone(3, 1)), true, holds(alone(5, 1))}},
		{"a younger one", held(alone(5, 1)), alone(7, 1), asked{lock: held5(alone(5, 1), alone(7, 1))}},
		{"an elder one meets a promise", held(firm(alone(5, 1))), alone(3, 1), asked{lock: held5(firm(alone(5, 1)), alone(3, 1))}},
		{"a younger one meets a promise", held(firm(alone(5, 1))), alone(7, 1), asked{lock: held5(firm(alone(5, 1)), alone(7, 1))}},
		{"an elder one that shares meets one that does not", held(alone(5, 1)), sharing(3, 1), asked{held(sharing(3, 1)), true, holds(alone(5, 1))}},
		{"an elder one that does not share meets one that does", held(sharing(5, 1)), alone(3, 1), asked{held(alone(3, 1)), true, holds(sharing(5, 1))}},
		{"a younger one that shares meets one that does not", held(alone(5, 1)), sharing(7, 1), asked{lock: held5(alone(5, 1), sharing(7, 1))}},
		{"a younger one that does not share meets one that does", held(sharing(5, 1)), alone(7, 1), asked{lock: held5(sharing(5, 1), alone(7, 1))}},
		{"an elder one and a promise both share", held(firm(sharing(5, 1))), sharing(3, 1), asked{lock: both(sharing(3, 1), firm(sharing(5, 1))), held: true}},
		{"a younger one and a promise both share", held(firm(sharing(5, 1))), sharing(7, 1), asked{lock: both(firm(sharing(5, 1)), sharing(7, 1)), held: true}},
		{"from younger ones alone", impl.Lock{Slot: 5, Held: holds(sharing(4, 1), sharing(6, 1), firm(sharing(7, 1)), sharing(8, 2))}, alone(5, 1),
			asked{lock: impl.Lock{Slot: 5, Held: holds(sharing(4, 1), firm(sharing(7, 1))), Waits: holds(alone(5, 1))}, taken: holds(sharing(6, 1), sharing(8, 2))}},
		{"an elder one waits", held5(firm(sharing(6, 1)), alone(3, 1)), sharing(5, 1),
			asked{lock: held5(firm(sharing(6, 1)), alone(3, 1), sharing(5, 1))}},
		{"a younger one waits", held5(firm(sharing(6, 1)), alone(5, 1)), sharing(3, 1),
			asked{lock: impl.Lock{Slot: 5, Held: holds(sharing(3, 1), firm(sharing(6, 1))), Waits: holds(alone(5, 1))}, held: true}},
		{"an elder one waits, and both share", held5(sharing(6, 1), sharing(3, 1)), sharing(5, 1),
			asked{lock: impl.Lock{Slot: 5, Held: holds(sharing(5, 1), sharing(6, 1)), Waits: holds(sharing(3, 1))}, held: true}},
		{"who waits behind an elder one takes nevertheless", held5(sharing(6, 1), sharing(3, 1)), alone(5, 1),
			asked{lock: impl.Lock{Slot: 5, Waits: holds(sharing(3, 1), alone(5, 1))}, taken: holds(sharing(6, 1))}},
	})
}

func TestPromise24FirstAndLastSlot(t *testing.T) {
	for slot := range impl.MapSlots {
		l := impl.Lock{Slot: slot}
		if !impl.LockOk(l) {
			t.Error("not ok:", slot)
		}
		want := impl.Lock{Slot: slot, Held: holds(alone(1, 1))}
		if is := ask(l, alone(1, 1)); !is.same(asked{lock: want, held: true}) {
			t.Error(slot, is)
		}
	}
	for _, slot := range noSlots {
		if is := ask(impl.Lock{Slot: slot}, alone(1, 1)); impl.LockOk(impl.Lock{Slot: slot}) || !is.same(asked{}) {
			t.Error(slot, is)
		}
	}
}

func TestPromise24FirstAndLastStampAndTry(t *testing.T) {
	for _, stamp := range edgeStamps {
		for _, try := range edgeStamps {
			h := alone(stamp, try)
			want := impl.Lock{Held: holds(h)}
			if is := ask(impl.Lock{}, h); !is.same(asked{lock: want, held: true}) || !impl.LockOk(want) {
				t.Error(h, is)
			}
			if waits := (impl.Lock{Waits: holds(h)}); !impl.LockOk(waits) {
				t.Error("not ok:", waits)
			}
		}
	}
	first, last := alone(1, 1), alone(impl.LockMaxStamp, impl.LockMaxStamp)
	if is := ask(impl.Lock{Held: holds(last)}, first); !is.same(asked{impl.Lock{Held: holds(first)}, true, holds(last)}) {
		t.Error(is)
	}
	if is := ask(impl.Lock{Held: holds(first)}, last); !is.same(asked{lock: impl.Lock{Held: holds(first), Waits: holds(last)}}) {
		t.Error(is)
	}
}

// Who asks in no form, or as if it had promised already, changes nothing, and is told of nothing that it has.
func TestPromise24HoldsNotInForm(t *testing.T) {
	full := impl.Lock{Slot: 1, Held: sharers(1, maxHolds)}
	for _, l := range []impl.Lock{{}, someLock(), full, {Slot: 7, Held: holds(alone(9, 1))}} {
		for _, h := range []impl.Hold{alone(2, 1), alone(4, 2), sharing(4, 2), sharing(6, 1), alone(9, 1), alone(9, 2), alone(3, 1), alone(3, 2)} {
			if is := ask(l, firm(h)); !is.same(asked{lock: l}) {
				t.Errorf("Firm: lock %+v hold %+v answer %+v", l, h, is)
			}
			for _, number := range noStamps {
				for _, bad := range holds(alone(number, h.Try), sharing(number, 1), alone(h.Stamp, number), sharing(h.Stamp, number), alone(number, number), impl.Hold{}) {
					if is := ask(l, bad); !is.same(asked{lock: l}) {
						t.Errorf("lock %+v hold %+v answer %+v", l, bad, is)
					}
				}
			}
		}
	}
}

func TestPromise24LocksNotOk(t *testing.T) {
	if !impl.LockOk(someLock()) || !okByHand(someLock()) {
		t.Error("not ok:", someLock())
	}
	for i, l := range locksNotOk() {
		if impl.LockOk(l) || okByHand(l) {
			t.Errorf("ok: %d %+v", i, l)
		}
		for _, h := range []impl.Hold{alone(1, 1), alone(2, 1), sharing(4, 2), sharing(4, 3), sharing(7, 1), alone(3, 1), firm(alone(1, 1)), {}} {
			if is := ask(l, h); !is.same(asked{}) {
				t.Errorf("asked: %d %+v %+v %+v", i, l, h, is)
			}
			if is, ok := impl.LockFirm(l, h.Stamp, h.Try); ok || !sameLock(is, impl.Lock{}) {
				t.Errorf("promised: %d %+v %+v %+v", i, l, h, is)
			}
			if is := free(l, h.Stamp, h.Try); !is.same(freed{}) {
				t.Errorf("let go: %d %+v %+v %+v", i, l, h, is)
			}
		}
	}
}

func TestPromise24LocksThatAreOk(t *testing.T) {
	for _, l := range []impl.Lock{
		{},
		{Held: []impl.Hold{}, Waits: []impl.Hold{}},
		{Waits: holds(alone(1, 1))},
		{Waits: holds(alone(1, 1), alone(2, 9), sharing(3, 1))},
		{Held: holds(firm(sharing(1, 1)), sharing(2, 1), firm(sharing(3, 1)))},
		{Held: holds(firm(alone(2, 1))), Waits: holds(alone(1, 1), sharing(3, 1))},
		{Held: holds(alone(impl.LockMaxStamp, impl.LockMaxStamp)), Waits: holds(sharing(1, 1))},
		{Held: sharers(1, maxHolds)},
		{Waits: sharers(1, maxHolds)},
		{Held: sharers(1, maxHolds-1), Waits: sharers(20, 1)},
		{Held: sharers(1, 8), Waits: sharers(20, 8)},
	} {
		if !impl.LockOk(l) {
			t.Errorf("not ok: %+v", l)
		}
	}
}

// Room is asked for when the asker's own, and those that it takes from, are gone.
func TestPromise24AsManyAsThereMayBe(t *testing.T) {
	free1 := impl.Lock{Held: sharers(10, maxHolds-1)}
	full := impl.Lock{Held: sharers(10, maxHolds)}
	waiting := impl.Lock{Held: holds(firm(alone(10, 1))), Waits: sharers(20, maxHolds-1)}
	promised := impl.Lock{Held: sharers(10, maxHolds)}
	for i := range promised.Held {
		promised.Held[i].Firm = true
	}
	mixed := cloneLock(promised)
	mixed.Held[3].Firm = false
	left := impl.Lock{Held: slices.Delete(slices.Clone(mixed.Held), 3, 4), Waits: holds(alone(3, 1))}
	later := cloneLock(full)
	later.Held[4].Try = 2
	again := cloneLock(waiting)
	again.Waits[2].Try = 2
	shortWait := impl.Lock{Held: holds(firm(alone(10, 1))), Waits: sharers(20, maxHolds-2)}
	askAll(t, []lockCase{
		{"the last room", free1, sharing(10+maxHolds-1, 1), asked{lock: full, held: true}},
		{"one too many, younger", full, sharing(99, 1), asked{lock: full}},
		{"one too many, elder", full, sharing(3, 1), asked{lock: full}},
		{"one too many, who would wait", full, alone(99, 1), asked{lock: full}},
		{"the last room to wait", shortWait, sharing(20+maxHolds-2, 1), asked{lock: waiting}},
		{"one too many to wait", waiting, alone(99, 1), asked{lock: waiting}},
		{"one too many to wait, the eldest", waiting, alone(3, 1), asked{lock: waiting}},
		{"none can be taken", promised, alone(3, 1), asked{lock: promised}},
		{"room by what is taken", full, alone(3, 1), asked{impl.Lock{Held: holds(alone(3, 1))}, true, full.Held}},
		{"room by the one that is taken", mixed, alone(3, 1), asked{left, false, holds(mixed.Held[3])}},
		{"room by its own elder try", full, sharing(14, 2), asked{lock: later, held: true}},
		{"room by its own try that waits", waiting, sharing(22, 1), asked{lock: waiting}},
		{"room by its own elder try that waits", waiting, sharing(22, 2), asked{lock: again}},
		{"who holds it, in a full lock", full, sharing(14, 1), asked{lock: full, held: true}},
	})
}

func TestPromise25AskedTwice(t *testing.T) {
	twice := 0
	eachLock(t, 33, func(r *rand.Rand, l impl.Lock, h impl.Hold) {
		once := ask(l, h)
		again := ask(once.lock, h)
		if len(again.taken) != 0 || again.held != once.held || !sameLock(again.lock, once.lock) {
			t.Errorf("once %+v again %+v", once, again)
		}
		n := 0
		for _, x := range slices.Concat(again.lock.Held, again.lock.Waits) {
			if x.Stamp == h.Stamp {
				n++
			}
		}
		if n > 1 {
			t.Errorf("more than once: %+v", again)
		}
		if once.held {
			twice++
		}
	})
	if twice < 1000 {
		t.Error("only so many held it:", twice)
	}
}

func TestPromise25WhoAsksAgain(t *testing.T) {
	held := impl.Lock{Slot: 2, Held: holds(alone(5, 3)), Waits: holds(alone(7, 3))}
	shared := impl.Lock{Slot: 2, Held: holds(sharing(5, 3), sharing(6, 1))}
	promised := impl.Lock{Slot: 2, Held: holds(firm(alone(5, 3))), Waits: holds(alone(4, 3))}
	askAll(t, []lockCase{
		{"who holds it, in the same try", held, alone(5, 3), asked{lock: held, held: true}},
		{"who holds it, in an elder try", held, alone(5, 2), asked{lock: held}},
		{"who holds it alone, and now would share", held, sharing(5, 3), asked{lock: held}},
		{"who shares it, in the same try", shared, sharing(5, 3), asked{lock: shared, held: true}},
		{"who shares it, and now would not", shared, alone(5, 3), asked{lock: shared}},
		{"who shares it, in an elder try", shared, sharing(5, 1), asked{lock: shared}},
		{"who promised, in an elder try", promised, alone(5, 2), asked{lock: promised}},
		{"who promised, in the same try", promised, alone(5, 3), asked{lock: promised}},
		{"who promised, in a later try", promised, alone(5, 4), asked{lock: promised}},
		{"who promised, and would share", promised, sharing(5, 4), asked{lock: promised}},
		{"who waits, in an elder try", held, alone(7, 2), asked{lock: held}},
		{"who waits, in the same try", held, alone(7, 3), asked{lock: held}},
		{"who waits, in an elder try, and would share", held, sharing(7, 2), asked{lock: held}},
		{"who waits, in the same try, and would share", held, sharing(7, 3), asked{lock: impl.Lock{Slot: 2, Held: held.Held, Waits: holds(sharing(7, 3))}}},
	})
}

// Who waits in this same try asks anew: it takes what it may by now, and may come to hold the lock.
func TestPromise25WhoWaitsAsksAnew(t *testing.T) {
	askAll(t, []lockCase{
		{"nobody is in its way any more", impl.Lock{Waits: holds(alone(4, 2), alone(7, 3))}, alone(4, 2),
			asked{lock: impl.Lock{Held: holds(alone(4, 2)), Waits: holds(alone(7, 3))}, held: true}},
		{"an elder one is in its way still", impl.Lock{Waits: holds(alone(4, 2), alone(7, 3))}, alone(7, 3),
			asked{lock: impl.Lock{Waits: holds(alone(4, 2), alone(7, 3))}}},
		{"a younger one has it", impl.Lock{Held: holds(alone(9, 1)), Waits: holds(alone(4, 2))}, alone(4, 2),
			asked{impl.Lock{Held: holds(alone(4, 2))}, true, holds(alone(9, 1))}},
		{"it would share now", impl.Lock{Held: holds(sharing(3, 1)), Waits: holds(alone(4, 2))}, sharing(4, 2),
			asked{lock: impl.Lock{Held: holds(sharing(3, 1), sharing(4, 2))}, held: true}},
	})
}

func TestPromise26WhoLetsGo(t *testing.T) {
	rose, let := 0, 0
	eachLock(t, 34, func(r *rand.Rand, l impl.Lock, h impl.Hold) {
		is := free(l, h.Stamp, h.Try)
		if !is.same(freeByHand(l, h.Stamp, h.Try)) {
			t.Errorf("answer %+v, asked is %+v", is, freeByHand(l, h.Stamp, h.Try))
		}
		for _, x := range slices.Concat(is.lock.Held, is.lock.Waits) {
			if x.Stamp == h.Stamp && x.Try <= h.Try {
				t.Errorf("it is there still: %+v", is)
			}
		}
		for _, x := range is.lock.Waits {
			if mayHoldByHand(is.lock, x) {
				t.Errorf("it might hold it: %+v of %+v", x, is)
			}
		}
		for _, x := range is.risen {
			if ofStamp(is.lock.Held, x.Stamp) != x || ofStamp(l.Waits, x.Stamp) != x {
				t.Errorf("it did not wait, or does not hold it: %+v of %+v", x, is)
			}
		}
		for _, x := range l.Held {
			if (x.Stamp != h.Stamp || x.Try > h.Try) && ofStamp(is.lock.Held, x.Stamp) != x {
				t.Errorf("another one's went: %+v of %+v", x, is)
			}
		}
		rose += len(is.risen)
		if len(is.lock.Held)+len(is.lock.Waits) < len(l.Held)+len(l.Waits) {
			let++
		}
	})
	if rose < 1000 || let < 1000 {
		t.Error("only so many:", rose, let)
	}
}

// freeCase is one who lets go, and what the document says of it.
type freeCase struct {
	name       string
	lock       impl.Lock
	stamp, try int
	want       freed
}

func freeAll(t *testing.T, list []freeCase) {
	t.Helper()
	for _, c := range list {
		if !impl.LockOk(c.lock) {
			t.Errorf("%s: not ok: %+v", c.name, c.lock)
		}
		if is := free(c.lock, c.stamp, c.try); !is.same(c.want) {
			t.Errorf("%s: answer %+v, asked is %+v", c.name, is, c.want)
		}
	}
}

func TestPromise26InWhichTry(t *testing.T) {
	held := impl.Lock{Slot: 6, Held: holds(alone(5, 3)), Waits: holds(alone(7, 4))}
	promised := impl.Lock{Slot: 6, Held: holds(firm(alone(5, 3))), Waits: holds(alone(7, 4))}
	next := freed{impl.Lock{Slot: 6, Held: holds(alone(7, 4))}, holds(alone(7, 4))}
	freeAll(t, []freeCase{
		{"an elder try", held, 5, 2, freed{lock: held}},
		{"the same try", held, 5, 3, next},
		{"a later try", held, 5, 4, next},
		{"the last try", held, 5, impl.LockMaxStamp, next},
		{"no try, above all", held, 5, impl.LockMaxStamp + 1, next},
		{"no try, below all", held, 5, 0, freed{lock: held}},
		{"what is promised, in an elder try", promised, 5, 2, freed{lock: promised}},
		{"what is promised, in the same try", promised, 5, 3, next},
		{"what is promised, in a later try", promised, 5, 4, next},
		{"who waits, in an elder try", held, 7, 3, freed{lock: held}},
		{"who waits, in the same try", held, 7, 4, freed{lock: impl.Lock{Slot: 6, Held: held.Held}}},
		{"who waits, in a later try", held, 7, 5, freed{lock: impl.Lock{Slot: 6, Held: held.Held}}},
	})
}

func TestPromise26WhoHoldsItNext(t *testing.T) {
	freeAll(t, []freeCase{
		{"the eldest alone", impl.Lock{Held: holds(alone(5, 1)), Waits: holds(alone(6, 1), alone(7, 1), sharing(8, 1))}, 5, 1,
			freed{impl.Lock{Held: holds(alone(6, 1)), Waits: holds(alone(7, 1), sharing(8, 1))}, holds(alone(6, 1))}},
		{"all who share, up to one who does not", impl.Lock{Held: holds(alone(5, 1)), Waits: holds(sharing(3, 1), sharing(6, 1), alone(7, 1), sharing(8, 1))}, 5, 1,
			freed{impl.Lock{Held: holds(sharing(3, 1), sharing(6, 1)), Waits: holds(alone(7, 1), sharing(8, 1))}, holds(sharing(3, 1), sharing(6, 1))}},
		{"beside those who share it", impl.Lock{Held: holds(sharing(2, 1), firm(sharing(6, 1))), Waits: holds(sharing(4, 1), sharing(5, 1), sharing(9, 1))}, 2, 1,
			freed{impl.Lock{Held: holds(sharing(4, 1), sharing(5, 1), firm(sharing(6, 1)), sharing(9, 1))}, holds(sharing(4, 1), sharing(5, 1), sharing(9, 1))}},
		{"nobody, as another one has it still", impl.Lock{Held: holds(sharing(2, 1), sharing(6, 1)), Waits: holds(alone(4, 1), sharing(5, 1))}, 2, 1,
			freed{lock: impl.Lock{Held: holds(sharing(6, 1)), Waits: holds(alone(4, 1), sharing(5, 1))}}},
		{"those behind one who waits no more", impl.Lock{Held: holds(sharing(2, 1)), Waits: holds(alone(4, 1), sharing(5, 1), sharing(6, 1))}, 4, 1,
			freed{impl.Lock{Held: holds(sharing(2, 1), sharing(5, 1), sharing(6, 1))}, holds(sharing(5, 1), sharing(6, 1))}},
		{"the last one goes", impl.Lock{Slot: 7, Held: holds(alone(5, 1))}, 5, 1, freed{lock: impl.Lock{Slot: 7}}},
		{"as many as there may be", impl.Lock{Held: holds(firm(alone(1, 1))), Waits: sharers(2, maxHolds-1)}, 1, 1,
			freed{impl.Lock{Held: sharers(2, maxHolds-1)}, sharers(2, maxHolds-1)}},
	})
}

func TestPromise26WhatIsNotHeld(t *testing.T) {
	l := someLock()
	for _, stamp := range append([]int{1, 2, 7, 10, impl.LockMaxStamp}, noStamps...) {
		for _, try := range append([]int{1, 2, impl.LockMaxStamp}, noStamps...) {
			if is := free(l, stamp, try); !is.same(freed{lock: l}) {
				t.Errorf("stamp %d try %d: %+v", stamp, try, is)
			}
			if is := free(impl.Lock{Slot: 4}, stamp, try); !is.same(freed{lock: impl.Lock{Slot: 4}}) {
				t.Errorf("stamp %d try %d: %+v", stamp, try, is)
			}
		}
	}
	// Who waits, and might hold it, holds it then, also if nothing was let go.
	waits := impl.Lock{Waits: holds(sharing(4, 1), sharing(5, 1), alone(6, 1))}
	want := freed{impl.Lock{Held: holds(sharing(4, 1), sharing(5, 1)), Waits: holds(alone(6, 1))}, holds(sharing(4, 1), sharing(5, 1))}
	for _, stamp := range []int{0, 1, 4, 7} {
		if is := free(waits, stamp, 0); !is.same(want) {
			t.Errorf("stamp %d: %+v", stamp, is)
		}
	}
}

func TestPromise27WhatIsPromised(t *testing.T) {
	var kept int
	eachLock(t, 35, func(r *rand.Rand, l impl.Lock, h impl.Hold) {
		for _, x := range l.Held {
			is, ok := impl.LockFirm(l, x.Stamp, x.Try)
			want := cloneLock(l)
			want.Held[slices.Index(want.Held, x)].Firm = true
			if !ok || !sameLock(is, want) {
				t.Errorf("promised: %+v answer %+v", x, is)
			}
			for range 3 {
				is = ask(is, makeAsker(r, is)).lock
				if ofStamp(is.Held, x.Stamp) != firm(x) {
					t.Errorf("taken: %+v answer %+v", x, is)
				}
				kept++
			}
		}
	})
	if kept < manyLocks {
		t.Error("only so many:", kept)
	}
}

func TestPromise27WhoPromises(t *testing.T) {
	l := someLock()
	for _, x := range l.Held {
		want := cloneLock(l)
		want.Held[slices.Index(l.Held, x)].Firm = true
		is, ok := impl.LockFirm(l, x.Stamp, x.Try)
		if again, too := impl.LockFirm(is, x.Stamp, x.Try); !ok || !too || !sameLock(is, want) || !sameLock(again, want) {
			t.Errorf("%+v: %+v %+v", x, is, again)
		}
		for _, try := range append([]int{x.Try - 1, x.Try + 1, impl.LockMaxStamp}, noStamps...) {
			if is, ok := impl.LockFirm(l, x.Stamp, try); ok || !sameLock(is, l) {
				t.Errorf("another try: %+v %d %+v", x, try, is)
			}
		}
	}
	for _, x := range l.Waits {
		if is, ok := impl.LockFirm(l, x.Stamp, x.Try); ok || !sameLock(is, l) {
			t.Errorf("who waits: %+v %+v", x, is)
		}
	}
	for _, stamp := range append([]int{1, 2, 7, 10, impl.LockMaxStamp}, noStamps...) {
		if is, ok := impl.LockFirm(l, stamp, 1); ok || !sameLock(is, l) {
			t.Errorf("who does not hold it: %d %+v", stamp, is)
		}
	}
	for _, stamp := range edgeStamps {
		for _, try := range edgeStamps {
			is, ok := impl.LockFirm(impl.Lock{Held: holds(alone(stamp, try))}, stamp, try)
			if !ok || !sameLock(is, impl.Lock{Held: holds(firm(alone(stamp, try)))}) {
				t.Error(stamp, try, is)
			}
		}
	}
}

func TestPromise28TheEldest(t *testing.T) {
	got, waits := 0, 0
	eachLock(t, 36, func(r *rand.Rand, l impl.Lock, h impl.Hold) {
		h.Stamp = 1
		if ofStamp(l.Held, 1).Stamp > 0 || ofStamp(l.Waits, 1).Stamp > 0 {
			return
		}
		is := ask(l, h)
		promised := slices.ContainsFunc(l.Held, func(x impl.Hold) bool { return x.Firm && meet(x, h) })
		room := len(l.Held)+len(l.Waits) < maxHolds || len(is.taken) > 0
		switch {
		case !promised && room:
			got++
			if !is.held || ofStamp(is.lock.Held, 1) != h {
				t.Errorf("nobody promised: %+v", is)
			}
		case promised:
			waits++
			if is.held || room && ofStamp(is.lock.Waits, 1) != h {
				t.Errorf("somebody promised: %+v", is)
			}
		}
	})
	if got < 1000 || waits < 1000 {
		t.Error("only so many:", got, waits)
	}
}

func TestPromise28TheEldestIsNextBehindThePromise(t *testing.T) {
	l := impl.Lock{Held: holds(firm(sharing(5, 1)), sharing(6, 1), firm(sharing(9, 1))), Waits: holds(alone(4, 1), alone(7, 1))}
	is := ask(l, alone(3, 1))
	want := impl.Lock{Held: holds(firm(sharing(5, 1)), firm(sharing(9, 1))), Waits: holds(alone(3, 1), alone(4, 1), alone(7, 1))}
	if !is.same(asked{want, false, holds(sharing(6, 1))}) {
		t.Fatal(is)
	}
	one := free(is.lock, 5, 1)
	if len(one.risen) != 0 {
		t.Error(one)
	}
	two := free(one.lock, 9, 1)
	if !two.same(freed{impl.Lock{Held: holds(alone(3, 1)), Waits: holds(alone(4, 1), alone(7, 1))}, holds(alone(3, 1))}) {
		t.Error(two)
	}
}

func TestPromise29WhoShares(t *testing.T) {
	with := 0
	eachLock(t, 37, func(r *rand.Rand, l impl.Lock, h impl.Hold) {
		l.Waits, h.Share = nil, true
		all := !slices.ContainsFunc(l.Held, func(x impl.Hold) bool { return !x.Share })
		has := ofStamp(l.Held, h.Stamp)
		if !all || has.Firm || has.Try > h.Try || has.Stamp == 0 && len(l.Held) == maxHolds {
			return
		}
		is := ask(l, h)
		want := slices.DeleteFunc(slices.Clone(l.Held), func(x impl.Hold) bool { return x.Stamp == h.Stamp })
		if !is.same(asked{lock: impl.Lock{Slot: l.Slot, Held: placeByHand(want, h)}, held: true}) {
			t.Errorf("answer %+v", is)
		}
		if len(l.Held) > 1 {
			with++
		}
	})
	if with < 1000 {
		t.Error("only so many held it together:", with)
	}
}

// Who shares stands behind an elder one who does not and waits: else that might wait for ever.
func TestPromise29WhoSharesBehindOneWhoWaits(t *testing.T) {
	l := impl.Lock{Held: holds(sharing(2, 1)), Waits: holds(alone(4, 1))}
	askAll(t, []lockCase{
		{"younger than who waits", l, sharing(5, 1), asked{lock: impl.Lock{Held: l.Held, Waits: holds(alone(4, 1), sharing(5, 1))}}},
		{"elder than who waits", l, sharing(3, 1), asked{lock: impl.Lock{Held: holds(sharing(2, 1), sharing(3, 1)), Waits: l.Waits}, held: true}},
		{"the eldest", l, sharing(1, 1), asked{lock: impl.Lock{Held: holds(sharing(1, 1), sharing(2, 1)), Waits: l.Waits}, held: true}},
		{"who holds it, in a later try", impl.Lock{Held: holds(sharing(2, 1), sharing(6, 1)), Waits: l.Waits}, sharing(6, 2),
			asked{lock: impl.Lock{Held: l.Held, Waits: holds(alone(4, 1), sharing(6, 2))}}},
	})
}

func TestPromise30ALaterTry(t *testing.T) {
	var fromHeld, fromWaits, promised int
	eachLock(t, 38, func(r *rand.Rand, l impl.Lock, h impl.Hold) {
		for _, x := range slices.Concat(l.Held, l.Waits) {
			if x.Try == impl.LockMaxStamp {
				continue
			}
			later := impl.Hold{Stamp: x.Stamp, Try: x.Try + 1 + r.Intn(impl.LockMaxStamp-x.Try), Share: h.Share}
			is := ask(l, later)
			both := slices.Concat(is.lock.Held, is.lock.Waits)
			switch {
			case x.Firm:
				promised++
				if is.held || !sameLock(is.lock, l) {
					t.Errorf("it promised: %+v later %+v answer %+v", x, later, is)
				}
				continue
			case slices.Contains(l.Held, x):
				fromHeld++
			default:
				fromWaits++
			}
			if slices.Contains(both, x) || !slices.Contains(both, later) || is.held != slices.Contains(is.lock.Held, later) || slices.Contains(is.taken, x) {
				t.Errorf("it stands still: %+v later %+v answer %+v", x, later, is)
			}
		}
	})
	if fromHeld < 1000 || fromWaits < 1000 || promised < 1000 {
		t.Error("only so many:", fromHeld, fromWaits, promised)
	}
}

func TestPromise30LaterTriesByHand(t *testing.T) {
	held := impl.Lock{Held: holds(alone(5, 3)), Waits: holds(alone(7, 3))}
	askAll(t, []lockCase{
		{"who holds it", held, alone(5, 4), asked{lock: impl.Lock{Held: holds(alone(5, 4)), Waits: holds(alone(7, 3))}, held: true}},
		{"who holds it, and would share now", held, sharing(5, 4), asked{lock: impl.Lock{Held: holds(sharing(5, 4)), Waits: holds(alone(7, 3))}, held: true}},
		{"who waits", held, alone(7, 4), asked{lock: impl.Lock{Held: holds(alone(5, 3)), Waits: holds(alone(7, 4))}}},
		{"who holds it, while an elder one waits", impl.Lock{Held: holds(alone(5, 3)), Waits: holds(alone(4, 1))}, alone(5, 4),
			asked{lock: impl.Lock{Waits: holds(alone(4, 1), alone(5, 4))}}},
		{"who shares it, and would not now", impl.Lock{Held: holds(sharing(3, 1), sharing(5, 3), sharing(8, 1))}, alone(5, 4),
			asked{impl.Lock{Held: holds(sharing(3, 1)), Waits: holds(alone(5, 4))}, false, holds(sharing(8, 1))}},
		{"from the first try to the last", impl.Lock{Held: holds(alone(5, 1))}, alone(5, impl.LockMaxStamp),
			asked{lock: impl.Lock{Held: holds(alone(5, impl.LockMaxStamp))}, held: true}},
		{"none is later than the last", impl.Lock{Held: holds(alone(5, impl.LockMaxStamp))}, alone(5, impl.LockMaxStamp+1),
			asked{lock: impl.Lock{Held: holds(alone(5, impl.LockMaxStamp))}}},
	})
}

func TestPromise31WhoWaits(t *testing.T) {
	eachLock(t, 39, func(r *rand.Rand, l impl.Lock, h impl.Hold) {
		is := ask(l, h)
		let := free(l, h.Stamp, h.Try)
		promised, made := impl.LockFirm(l, h.Stamp, h.Try)
		for _, x := range []impl.Lock{is.lock, let.lock, promised} {
			for _, w := range x.Waits {
				if w.Firm || ofStamp(x.Held, w.Stamp).Stamp > 0 {
					t.Errorf("it promised, or holds it: %+v of %+v", w, x)
				}
				if no, ok := impl.LockFirm(x, w.Stamp, w.Try); ok || !sameLock(no, x) {
					t.Errorf("it promised: %+v of %+v", w, x)
				}
			}
		}
		if is.held && ofStamp(is.lock.Held, h.Stamp) != h {
			t.Errorf("it does not hold it: %+v", is)
		}
		if x := ofStamp(is.lock.Held, h.Stamp); !is.held && x == h {
			t.Errorf("it holds it: %+v", is)
		}
		if x := ofStamp(l.Held, h.Stamp); made != (x.Try == h.Try) {
			t.Errorf("who holds it in that try: %+v %+v", x, promised)
		}
	})
}

func spoilLock(l impl.Lock, more []impl.Hold) {
	bad := impl.Hold{Stamp: -7, Try: -7}
	overwrite(l.Held, bad)
	overwrite(l.Waits, bad)
	overwrite(more, bad)
}

// eachLockAnswer tells each function's answer of a lock, again and again the same, as its lists are to be spoilt.
func eachLockAnswer(l impl.Lock, h impl.Hold) []func() (impl.Lock, []impl.Hold) {
	return []func() (impl.Lock, []impl.Hold){
		func() (impl.Lock, []impl.Hold) { is := ask(l, h); return is.lock, is.taken },
		func() (impl.Lock, []impl.Hold) { is := ask(l, firm(h)); return is.lock, is.taken },
		func() (impl.Lock, []impl.Hold) { is, _ := impl.LockFirm(l, h.Stamp, h.Try); return is, nil },
		func() (impl.Lock, []impl.Hold) { is := free(l, h.Stamp, h.Try); return is.lock, is.risen },
	}
}

func TestLocksShareNoMemory(t *testing.T) {
	r := rand.New(rand.NewSource(40))
	bad := impl.Hold{Stamp: -7, Try: -7}
	for range manyLocks / 10 {
		l := walkLock(r)
		h, kept := makeAsker(r, l), cloneLock(l)
		for i, answer := range eachLockAnswer(l, h) {
			want, wantMore := answer()
			spoilLock(answer())
			if !sameLock(l, kept) {
				t.Fatalf("shared with an argument: %d %+v %+v", i, kept, h)
			}
			is, more := answer()
			overwrite(more, bad)
			if !sameLock(is, want) {
				t.Fatalf("shared with what is told: %d %+v %+v", i, kept, h)
			}
			is, more = answer()
			overwrite(is.Held, bad)
			if !slices.Equal(is.Waits, want.Waits) || !slices.Equal(more, wantMore) {
				t.Fatalf("shared with Held: %d %+v %+v", i, kept, h)
			}
			is, more = answer()
			overwrite(is.Waits, bad)
			if !slices.Equal(is.Held, want.Held) || !slices.Equal(more, wantMore) {
				t.Fatalf("shared with Waits: %d %+v %+v", i, kept, h)
			}
		}
	}
}

// The room behind the ends of an argument's lists is not the program's: here Waits stand in that behind Held.
func TestLocksWriteNothingBehindAnEnd(t *testing.T) {
	r := rand.New(rand.NewSource(41))
	for range manyLocks / 10 {
		l := walkLock(r)
		row := slices.Concat(l.Held, l.Waits, holds(alone(77, 7), alone(78, 8)))
		kept, end := slices.Clone(row), len(l.Held)+len(l.Waits)
		l.Held, l.Waits = row[:len(l.Held)], row[len(l.Held):end]
		h := makeAsker(r, l)
		for i, answer := range eachLockAnswer(l, h) {
			spoilLock(answer())
			if !slices.Equal(row, kept) {
				t.Fatalf("written into an argument: %d %+v %+v", i, kept, h)
			}
		}
	}
}
