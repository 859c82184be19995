package tests

import (
	"math"
	"math/rand"
	"slices"
	"testing"

	"loop.example/turnpike/impl"
)

const manyHouses = 3000

// maxWorks is how many works the document allows.
const maxWorks = 12

func promiseRec(stamp, try, what int, slots ...int) impl.Rec {
	return impl.Rec{Kind: impl.RecPromise, Stamp: stamp, Try: try, What: what, Slots: slots}
}

func doneRec(stamp, try int, pairs ...impl.Pair) impl.Rec {
	return impl.Rec{Kind: impl.RecDone, Stamp: stamp, Try: try, Pairs: pairs}
}

func undoneRec(stamp, try int) impl.Rec {
	return impl.Rec{Kind: impl.RecUndone, Stamp: stamp, Try: try}
}

func workOf(stamp, try, what int, slots ...int) impl.Work {
	return impl.Work{Stamp: stamp, Try: try, What: what, Slots: slots}
}

func sameRec(a, b impl.Rec) bool {
	return a.Kind == b.Kind && a.Stamp == b.Stamp && a.Try == b.Try && a.What == b.What && slices.Equal(a.Slots, b.Slots) && slices.Equal(a.Pairs, b.Pairs)
}

func sameWork(a, b impl.Work) bool {
	return a.Stamp == b.Stamp && a.Try == b.Try && a.What == b.What && slices.Equal(a.Slots, b.Slots)
}

func sameHouse(a, b impl.House) bool {
	return a.Id == b.Id && a.Up == b.Up && a.Forced == b.Forced &&
		slices.EqualFunc(a.Log, b.Log, sameRec) && slices.EqualFunc(a.Locks, b.Locks, sameLock) && slices.EqualFunc(a.Works, b.Works, sameWork)
}

func sameWords(a, b []impl.Word) bool {
	return slices.EqualFunc(a, b, sameWord)
}

func cloneHouse(h impl.House) impl.House {
	h.Log, h.Locks, h.Works = slices.Clone(h.Log), slices.Clone(h.Locks), slices.Clone(h.Works)
	for i := range h.Log {
		h.Log[i].Slots, h.Log[i].Pairs = slices.Clone(h.Log[i].Slots), slices.Clone(h.Log[i].Pairs)
	}
	for i := range h.Locks {
		h.Locks[i] = cloneLock(h.Locks[i])
	}
	for i := range h.Works {
		h.Works[i].Slots = slices.Clone(h.Works[i].Slots)
	}
	return h
}

// with is the house, changed in memory of its own.
func with(h impl.House, change func(h *impl.House)) impl.House {
	h = cloneHouse(h)
	change(&h)
	return h
}

// behind is the house behind words, one after the other, and what it said to the last one.
func behind(h impl.House, words ...impl.Word) (impl.House, []impl.Word) {
	var said []impl.Word
	for _, w := range words {
		h, said = impl.HouseHear(h, w)
	}
	return h, said
}

// freeLocks are written out, so that nothing hangs on how a house begins.
func freeLocks() []impl.Lock {
	var list []impl.Lock
	for slot := range 8 {
		list = append(list, impl.Lock{Slot: slot})
	}
	return list
}

// standing is a house that is up, with this log, all of it forced, and all that is open locked.
func standing(id int, log ...impl.Rec) impl.House {
	h := impl.House{Id: id, Up: true, Log: log, Forced: len(log), Locks: freeLocks()}
	for _, p := range openByHand(h) {
		for _, slot := range p.Slots {
			h.Locks[slot].Held = placeByHand(h.Locks[slot].Held, firm(alone(p.Stamp, p.Try)))
		}
	}
	return h
}

// endedPairs are so many promises, each with its end, of stamps that no other test names.
func endedPairs(many int) []impl.Rec {
	var log []impl.Rec
	for i := range many {
		log = append(log, promiseRec(5000+i, 1, impl.WhatDeal, i%8), undoneRec(5000+i, 1))
	}
	return log
}

func someSlots(r *rand.Rand, list []int, most int) []int {
	list = slices.Clone(list)
	r.Shuffle(len(list), func(i, j int) { list[i], list[j] = list[j], list[i] })
	list = list[:min(len(list), 1+r.Intn(most))]
	slices.Sort(list)
	return list
}

// makeWhat tells mostly slots that the house may lock.
func makeWhat(r *rand.Rand, keeps []int) (int, []int) {
	all := []int{0, 1, 2, 3, 4, 5, 6, 7}
	others := slices.DeleteFunc(slices.Clone(all), func(slot int) bool { return slices.Contains(keeps, slot) })
	any := r.Intn(8) == 0 || len(keeps) == 0 || len(others) == 0
	switch what := []int{1, 1, 1, 2, 3}[r.Intn(5)]; {
	case what == impl.WhatDeal && any:
		return what, someSlots(r, all, 8)
	case what == impl.WhatDeal:
		return what, someSlots(r, keeps, 3)
	case any:
		return what, someSlots(r, all, 1)
	case what == impl.WhatIn:
		return what, someSlots(r, others, 1)
	default:
		return what, someSlots(r, keeps, 1)
	}
}

// known are the deeds of a house's works, and of the promises that it wrote down last.
func known(h impl.House) []impl.Work {
	list := slices.Clone(h.Works)
	for _, rec := range h.Log[max(len(h.Log)-16, 0):] {
		if rec.Kind == impl.RecPromise {
			list = append(list, workOf(rec.Stamp, rec.Try, rec.What, rec.Slots...))
		}
	}
	return list
}

// makeName tells mostly a stamp that the house knows, often in another try.
func makeName(r *rand.Rand, h impl.House) (stamp, try int) {
	list := known(h)
	if len(list) == 0 || r.Intn(4) == 0 {
		return 1 + r.Intn(14), 1 + r.Intn(3)
	}
	// Works, and what was promised last, are asked for most.
	one := list[r.Intn(len(list))]
	if len(h.Works) > 0 && r.Intn(2) == 0 {
		one = h.Works[r.Intn(len(h.Works))]
	}
	if r.Intn(2) == 0 {
		one = list[len(list)-1]
	}
	if r.Intn(3) == 0 {
		one.Try = min(max(one.Try-1+r.Intn(3), 1), impl.LockMaxStamp)
	}
	return one.Stamp, one.Try
}

func makeLockWord(r *rand.Rand, h impl.House) impl.Word {
	w := impl.Word{Kind: impl.WordLock, Stamp: 1 + r.Intn(14), Try: 1}
	if r.Intn(2) == 0 {
		w.Stamp, w.Try = makeName(r, h)
	}
	keeps, _ := keepsByHand(h)
	w.What, w.Slots = makeWhat(r, keeps)
	for _, x := range h.Works {
		if x.Stamp == w.Stamp && r.Intn(4) > 0 {
			w.What, w.Slots = x.What, slices.Clone(x.Slots)
		}
	}
	return w
}

// makeHouseWord tells a word that a house may hear, mostly such as does something.
func makeHouseWord(r *rand.Rand, h impl.House) impl.Word {
	w := makeLockWord(r, h)
	switch r.Intn(6) {
	case 0:
		w = impl.Word{Kind: impl.WordPromise}
		w.Stamp, w.Try = makeName(r, h)
	case 1:
		w = impl.Word{Kind: impl.WordEnd, Yes: r.Intn(3) > 0, Pairs: makePairs(r)}
		w.Stamp, w.Try = makeName(r, h)
	}
	w.From, w.To = impl.WordGate, h.Id
	if r.Intn(8) == 0 {
		// What the word need not tell changes nothing.
		more := makeWord(r)
		w.Code, w.Vals, w.Call = more.Code, more.Vals, more.Call
	}
	return w
}

// makeOtherWord tells a word that a house is not to hear, for one reason alone.
func makeOtherWord(r *rand.Rand, h impl.House) impl.Word {
	w := makeHouseWord(r, h)
	switch r.Intn(4) {
	case 0:
		w.To = everyPlace[r.Intn(len(everyPlace))]
		if w.To == h.Id {
			w.To = impl.WordGate
		}
	case 1:
		w.From = []int{0, 1, 2, 100, 101, 102}[r.Intn(6)]
	case 2:
		w.Kind = []int{impl.WordLocked, impl.WordTaken, impl.WordPromised, impl.WordDoubt, impl.WordAsk, impl.WordAnswer}[r.Intn(6)]
	default:
		w = spoilWord(r, w)
	}
	return w
}

func spoilWord(r *rand.Rand, w impl.Word) impl.Word {
	switch r.Intn(7) {
	case 0:
		w.Slots = []int{3, 0}
	case 1:
		w.Pairs = pairsNotInForm()[r.Intn(len(pairsNotInForm()))]
	case 2:
		w.Code = -1
	case 3:
		w.Vals = make([]int, 7)
	case 4:
		w.Call.Session = -1
	case 5:
		w.Stamp = noStamps[r.Intn(3)]
	default:
		w.Slots = append(slices.Clone(w.Slots), 8)
	}
	return w
}

// walkHouse tells a house to which words, falls and rises lead. It is up mostly.
func walkHouse(r *rand.Rand) impl.House {
	h := impl.HouseStart(r.Intn(impl.MapHouses))
	for range r.Intn(60) {
		switch r.Intn(40) {
		case 0:
			h = impl.HouseFall(h, r.Intn(4)-1)
		case 1:
			h.Forced = len(h.Log)
		default:
			h, _ = impl.HouseHear(h, makeHouseWord(r, h))
		}
		if r.Intn(4) > 0 {
			h = impl.HouseRise(h)
		}
	}
	return h
}

// makeLog tells any log that is in form, also such as no house writes. What is open at once has no slot in common, if the house is to be up.
func makeLog(r *rand.Rand, up bool) []impl.Rec {
	var log []impl.Rec
	if r.Intn(20) == 0 {
		log = endedPairs(190 + r.Intn(11))
	}
	for range r.Intn(16) {
		if len(log) == 400 {
			break
		}
		open := openByHand(impl.House{Log: log})
		if len(open) > 0 && r.Intn(2) == 0 {
			p := open[r.Intn(len(open))]
			pairs := slices.DeleteFunc(makePairs(r), func(x impl.Pair) bool { return !slices.Contains(p.Slots, x.Key/4) })
			log = append(log, []impl.Rec{doneRec(p.Stamp, p.Try, pairs...), undoneRec(p.Stamp, p.Try)}[r.Intn(2)])
			continue
		}
		what, slots := makeWhat(r, []int{0, 3, 6})
		p := promiseRec(1+r.Intn(8), 1+r.Intn(3), what, slots...)
		meets := slices.ContainsFunc(open, func(x impl.Rec) bool {
			return slices.ContainsFunc(x.Slots, func(slot int) bool { return slices.Contains(slots, slot) })
		})
		if _, twice := promiseByHand(log, p.Stamp, p.Try); !twice && !(up && meets) {
			log = append(log, p)
		}
	}
	return log
}

// makeHouse tells any house that is ok, also such as no words lead to: its works, and who holds its locks, have little to do with each other.
func makeHouse(r *rand.Rand) impl.House {
	up := r.Intn(5) > 0
	h := standing(r.Intn(impl.MapHouses), makeLog(r, up)...)
	h.Forced = r.Intn(len(h.Log) + 1)
	if !up {
		h.Up, h.Locks = false, freeLocks()
		return h
	}
	for slot := range h.Locks {
		if l := makeLock(r); len(h.Locks[slot].Held) == 0 && r.Intn(2) == 0 {
			l.Slot = slot
			h.Locks[slot] = l
		}
	}
	keeps, _ := keepsByHand(h)
	stamp := 0
	for range r.Intn(maxWorks + 1) {
		what, slots := makeWhat(r, keeps)
		w := workOf(stamp+1+r.Intn(3), 1+r.Intn(3), what, slots...)
		for _, slot := range slots {
			if x := ofStamp(h.Locks[slot].Held, w.Stamp); x.Stamp > 0 {
				w.Try = x.Try
			}
		}
		stamp = w.Stamp
		h.Works = append(h.Works, w)
	}
	return h
}

// eachHouse asks of many houses, each with a word for it; what is handed in must stay.
func eachHouse(t *testing.T, seed int64, make func(r *rand.Rand) impl.House, look func(r *rand.Rand, h impl.House, w impl.Word)) {
	t.Helper()
	r := rand.New(rand.NewSource(seed))
	for range manyHouses {
		h := make(r)
		w := makeHouseWord(r, h)
		kept, keptWord := cloneHouse(h), cloneWord(w)
		look(r, h, w)
		if !sameHouse(h, kept) || !sameWord(w, keptWord) {
			t.Error("an argument was changed")
		}
		if t.Failed() {
			t.Fatalf("house %.2000s\nword %#v", tellHouse(kept), keptWord)
		}
	}
}

// eitherHouse tells houses to which words lead, and any others.
func eitherHouse(r *rand.Rand) impl.House {
	if r.Intn(2) == 0 {
		return makeHouse(r)
	}
	return walkHouse(r)
}

// someHouse is ok; each case of housesNotOk spoils one thing of it.
func someHouse() impl.House {
	h := standing(0,
		promiseRec(5, 1, impl.WhatDeal, 0, 3), doneRec(5, 1, impl.Pair{Key: 1, Val: 8}, impl.Pair{Key: 12, Val: 7}),
		promiseRec(6, 2, impl.WhatOut, 3), undoneRec(6, 2),
		promiseRec(6, 3, impl.WhatIn, 1), doneRec(6, 3, impl.Pair{Key: 4, Val: 2}, impl.Pair{Key: 5}),
		promiseRec(8, 1, impl.WhatDeal, 0, 6), promiseRec(9, 4, impl.WhatIn, 2))
	h.Forced = 6
	h.Works = []impl.Work{workOf(2, 1, impl.WhatDeal, 1, 3), workOf(7, 1, impl.WhatOut, 0), workOf(11, 3, impl.WhatDeal, 3, 5, 7)}
	h.Locks[1].Held = holds(alone(2, 1))
	h.Locks[3] = impl.Lock{Slot: 3, Held: holds(alone(2, 1)), Waits: holds(alone(11, 3))}
	h.Locks[0].Waits = holds(alone(7, 1))
	h.Locks[5].Held, h.Locks[7].Held = holds(alone(11, 3)), holds(alone(11, 3))
	return h
}

// spoiltHouse is a house that is not ok, for one reason alone.
type spoiltHouse struct {
	reason string
	house  impl.House
}

func housesNotOk() []spoiltHouse {
	list := []spoiltHouse{{"nothing", impl.House{}}, {"nothing but that it is up", impl.House{Up: true}}}
	spoil := func(reason string, change func(h *impl.House)) {
		list = append(list, spoiltHouse{reason, with(someHouse(), change)})
	}
	for _, id := range noHouses {
		spoil("no house", func(h *impl.House) { h.Id = id })
	}
	for _, forced := range []int{math.MinInt, -1, 9, 10, 400, math.MaxInt} {
		spoil("so many are not forced", func(h *impl.House) { h.Forced = forced })
	}
	// A promise holds its lock here, so that nothing but the record is wrong.
	for _, rec := range recsNotInForm() {
		spoil("a log that is not in form", func(h *impl.House) {
			h.Log, h.Locks[4].Held = append(h.Log, rec), holds(firm(alone(20, 1)))
		})
	}
	spoil("an end ahead of its promise", func(h *impl.House) { h.Log[0], h.Log[1] = h.Log[1], h.Log[0] })
	spoil("an end without its promise", func(h *impl.House) { h.Log = h.Log[1:] })
	long := standing(0, endedPairs(200)...)
	list = append(list,
		spoiltHouse{"a log that is too long", with(long, func(h *impl.House) { h.Log = append(h.Log, undoneRec(5000, 1)) })},
		spoiltHouse{"a log that is too long, by a promise", with(standing(0, append(endedPairs(200), promiseRec(5, 1, 1, 0))...), func(h *impl.House) {})},
		spoiltHouse{"a log that is too long, and down", with(standing(0, append(endedPairs(200), promiseRec(5, 1, 1, 0))...), func(h *impl.House) { h.Up, h.Locks = false, freeLocks() })})
	list = append(list, worksNotOk()...)
	list = append(list, houseLocksNotOk()...)
	return append(list, housesDownNotOk()...)
}

// deedsNotOk are no deeds, for each reason of the document.
func deedsNotOk() []impl.Work {
	list := []impl.Work{
		{}, workOf(20, 1, impl.WhatDeal), workOf(20, 1, impl.WhatOut), workOf(20, 1, impl.WhatIn),
		workOf(20, 1, impl.WhatOut, 3, 4), workOf(20, 1, impl.WhatIn, 3, 4), workOf(20, 1, impl.WhatOut, 3, 3),
		workOf(20, 1, impl.WhatDeal, 4, 3), workOf(20, 1, impl.WhatDeal, 4, 4), workOf(20, 1, impl.WhatDeal, 1, 3, 2),
	}
	for _, number := range noStamps {
		list = append(list, workOf(number, 1, impl.WhatDeal, 4), workOf(20, number, impl.WhatDeal, 4))
	}
	for _, what := range []int{math.MinInt, -1, 0, 4, math.MaxInt} {
		list = append(list, workOf(20, 1, what, 4))
	}
	for _, slot := range noSlots {
		list = append(list, workOf(20, 1, impl.WhatDeal, slot), workOf(20, 1, impl.WhatOut, slot), workOf(20, 1, impl.WhatIn, slot))
	}
	return append(list, workOf(20, 1, impl.WhatDeal, -1, 3), workOf(20, 1, impl.WhatDeal, 3, 8))
}

// recsNotInForm cannot stand behind the log of someHouse.
func recsNotInForm() []impl.Rec {
	list := []impl.Rec{
		{}, promiseRec(5, 1, impl.WhatDeal, 4), promiseRec(6, 2, impl.WhatDeal, 4), promiseRec(6, 3, impl.WhatIn, 1), promiseRec(8, 1, impl.WhatDeal, 0, 6),
		doneRec(5, 1), undoneRec(5, 1), doneRec(6, 2), undoneRec(6, 2), undoneRec(6, 3), doneRec(6, 3, impl.Pair{Key: 4, Val: 2}),
		doneRec(20, 1), undoneRec(20, 1), doneRec(8, 2), undoneRec(8, 2), undoneRec(9, 1), doneRec(0, 0), undoneRec(0, 0),
		doneRec(8, 1, impl.Pair{Key: 4, Val: 1}), doneRec(8, 1, impl.Pair{Key: 3, Val: 1}, impl.Pair{Key: 4, Val: 1}), doneRec(8, 1, impl.Pair{Key: 23, Val: 1}, impl.Pair{Key: 24, Val: 1}),
		doneRec(8, 1, impl.Pair{Key: 28}), doneRec(9, 4, impl.Pair{Key: 7, Val: 1}), doneRec(9, 4, impl.Pair{Key: 12, Val: 1}),
		doneRec(8, 1, impl.Pair{Key: 1, Val: 10000}), doneRec(8, 1, impl.Pair{Key: 1, Val: -10000}), doneRec(8, 1, impl.Pair{Key: 1, Val: 1}, impl.Pair{Key: 1, Val: 1}),
		doneRec(8, 1, impl.Pair{Key: 2, Val: 1}, impl.Pair{Key: 1, Val: 1}), doneRec(8, 1, impl.Pair{Key: -1, Val: 1}), doneRec(8, 1, impl.Pair{Key: 32, Val: 1}),
	}
	for _, w := range deedsNotOk() {
		list = append(list, promiseRec(w.Stamp, w.Try, w.What, w.Slots...))
	}
	for _, kind := range []int{math.MinInt, -1, 0, 4, math.MaxInt} {
		p, u := promiseRec(20, 1, impl.WhatDeal, 4), undoneRec(8, 1)
		p.Kind, u.Kind = kind, kind
		list = append(list, p, u)
	}
	// What a record of its kind may not tell.
	p, d, u := promiseRec(20, 1, impl.WhatDeal, 4), doneRec(8, 1, impl.Pair{Key: 1, Val: 1}), undoneRec(8, 1)
	p.Pairs, d.What, u.What = []impl.Pair{{Key: 16, Val: 1}}, impl.WhatDeal, impl.WhatDeal
	d2, u2, u3 := doneRec(8, 1), undoneRec(8, 1), undoneRec(8, 1)
	d2.Slots, u2.Slots, u3.Pairs = []int{0, 6}, []int{0, 6}, []impl.Pair{{Key: 1, Val: 1}}
	d3, u4, u5 := doneRec(8, 1), undoneRec(8, 1), undoneRec(8, 1)
	d3.What, u4.What, u5.Pairs = -1, 4, []impl.Pair{{Key: 1}}
	return append(list, p, d, u, d2, u2, u3, d3, u4, u5)
}

func worksNotOk() []spoiltHouse {
	var list []spoiltHouse
	spoil := func(reason string, change func(h *impl.House)) {
		list = append(list, spoiltHouse{reason, with(someHouse(), change)})
	}
	for _, w := range deedsNotOk() {
		spoil("a work that is no deed", func(h *impl.House) { h.Works = append(h.Works, w) })
		spoil("works of which the first is no deed", func(h *impl.House) { h.Works = []impl.Work{w} })
	}
	for i := range 3 {
		spoil("a stamp twice", func(h *impl.House) { h.Works = slices.Insert(h.Works, i, h.Works[i]) })
	}
	spoil("works that fall", func(h *impl.House) { slices.Reverse(h.Works) })
	spoil("two works of one stamp", func(h *impl.House) { h.Works = []impl.Work{workOf(2, 1, 1, 1), workOf(2, 2, 1, 1)} })
	spoil("13 works", func(h *impl.House) { h.Works = manyWorks(maxWorks + 1) })
	spoil("5000 works", func(h *impl.House) { h.Works = manyWorks(5000) })
	return list
}

func manyWorks(many int) []impl.Work {
	var list []impl.Work
	for i := range many {
		list = append(list, workOf(1+i, 1, impl.WhatDeal, i%8))
	}
	return list
}

func houseLocksNotOk() []spoiltHouse {
	var list []spoiltHouse
	spoil := func(reason string, change func(h *impl.House)) {
		list = append(list, spoiltHouse{reason, with(someHouse(), change)})
	}
	spoil("no locks", func(h *impl.House) { h.Locks = nil })
	spoil("a lock too few", func(h *impl.House) { h.Locks = h.Locks[:7] })
	spoil("the first lock too few", func(h *impl.House) { h.Locks = h.Locks[1:] })
	spoil("a lock too many", func(h *impl.House) { h.Locks = append(h.Locks, impl.Lock{Slot: 7}) })
	spoil("a lock too many, of no slot", func(h *impl.House) { h.Locks = append(h.Locks, impl.Lock{Slot: 8}) })
	spoil("a slot's lock twice", func(h *impl.House) { h.Locks[4] = impl.Lock{Slot: 3} })
	for slot := range 7 {
		spoil("locks out of order", func(h *impl.House) { h.Locks[slot], h.Locks[slot+1] = h.Locks[slot+1], h.Locks[slot] })
	}
	for slot := range 8 {
		spoil("a lock that is not ok", func(h *impl.House) { h.Locks[slot].Waits = holds(alone(77, 0)) })
		spoil("a lock with too many", func(h *impl.House) { h.Locks[slot].Waits = sharers(100, maxHolds+1) })
	}
	open := map[string][]int{"a deal": {0, 6}, "what comes in": {2}}
	for name, slots := range open {
		for _, slot := range slots {
			is := someHouse().Locks[slot].Held[0]
			spoil(name+", promised without a lock", func(h *impl.House) { h.Locks[slot].Held = nil })
			spoil(name+", promised, and held, not Firm", func(h *impl.House) { h.Locks[slot].Held = holds(alone(is.Stamp, is.Try)) })
			spoil(name+", held in a later try", func(h *impl.House) { h.Locks[slot].Held = holds(firm(alone(is.Stamp, is.Try+1))) })
			spoil(name+", held in another try", func(h *impl.House) { h.Locks[slot].Held = holds(firm(alone(is.Stamp, 1+is.Try%3))) })
			spoil(name+", held by another one", func(h *impl.House) { h.Locks[slot].Held = holds(firm(alone(is.Stamp+10, is.Try))) })
			spoil(name+", promised, and waited for", func(h *impl.House) {
				h.Locks[slot] = impl.Lock{Slot: slot, Waits: holds(alone(is.Stamp, is.Try))}
			})
		}
	}
	return list
}

func housesDownNotOk() []spoiltHouse {
	var list []spoiltHouse
	down := with(someHouse(), func(h *impl.House) { h.Up, h.Locks, h.Works = false, freeLocks(), nil })
	spoil := func(reason string, change func(h *impl.House)) {
		list = append(list, spoiltHouse{reason, with(down, change)})
	}
	for slot := range 8 {
		spoil("down, and a lock is held", func(h *impl.House) { h.Locks[slot].Held = holds(alone(77, 1)) })
		spoil("down, and a lock is waited for", func(h *impl.House) { h.Locks[slot].Waits = holds(alone(77, 1)) })
	}
	spoil("down, and what is open holds", func(h *impl.House) {
		h.Locks[0].Held, h.Locks[6].Held, h.Locks[2].Held = holds(firm(alone(8, 1))), holds(firm(alone(8, 1))), holds(firm(alone(9, 4)))
	})
	spoil("down, and works", func(h *impl.House) { h.Works = []impl.Work{workOf(2, 1, impl.WhatDeal, 1)} })
	spoil("down, without locks", func(h *impl.House) { h.Locks = nil })
	spoil("down, so many are not forced", func(h *impl.House) { h.Forced = 9 })
	for _, rec := range recsNotInForm() {
		spoil("down, a log that is not in form", func(h *impl.House) { h.Log = append(h.Log, rec) })
		spoil("down, a log that is not in form, and forced", func(h *impl.House) { h.Log, h.Forced = append(h.Log, rec), 9 })
	}
	spoil("down, an end without its promise", func(h *impl.House) { h.Log = h.Log[1:] })
	return list
}
