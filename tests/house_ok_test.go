package tests

import (
	"math"
	"math/rand"
	"slices"
	"testing"

	"loop.example/turnpike/impl"
)

// The document's own numbers, so that a name that has another one is seen.
func TestHouseNames(t *testing.T) {
	if kinds := []int{impl.RecPromise, impl.RecDone, impl.RecUndone, impl.HouseMaxLog}; !slices.Equal(kinds, []int{1, 2, 3, 400}) {
		t.Error(kinds)
	}
}

func TestPromise35HouseStart(t *testing.T) {
	keeps := [][]int{{0, 3, 6}, {1, 4, 7}, {2, 5}}
	for id := range impl.MapHouses {
		h := impl.HouseStart(id)
		if !sameHouse(h, impl.House{Id: id, Up: true, Locks: freeLocks()}) || !impl.HouseOk(h) {
			t.Error(id, h)
		}
		slots, vals := impl.HouseKeeps(h)
		if !slices.Equal(slots, keeps[id]) || len(vals) != 0 || len(impl.HouseOpen(h)) != 0 || len(impl.HouseTend(h)) != 0 {
			t.Error(id, slots, vals)
		}
	}
	for _, id := range noHouses {
		if h := impl.HouseStart(id); !sameHouse(h, impl.House{}) || impl.HouseOk(h) {
			t.Error(id, h)
		}
	}
}

// isNothing says whether all functions answer nothing of a house that is not ok.
func isNothing(h impl.House) bool {
	slots, vals := impl.HouseKeeps(h)
	if impl.HouseOk(h) || len(slots)+len(vals)+len(impl.HouseOpen(h))+len(impl.HouseTend(h)) > 0 {
		return false
	}
	for _, text := range []string{"lock 5.1 deal 0 3", "lock 20.1 out 4", "promise 5.1", "promise 11.3", "end 8.1 yes 1=8", "end 9.4", "end 11.3"} {
		if is, words := impl.HouseHear(h, readWord(h.Id, text)); !sameHouse(is, impl.House{}) || len(words) > 0 {
			return false
		}
	}
	if is, words := impl.HouseHear(h, impl.Word{}); !sameHouse(is, impl.House{}) || len(words) > 0 {
		return false
	}
	for _, keep := range []int{-1, 0, 1, math.MaxInt} {
		if !sameHouse(impl.HouseFall(h, keep), impl.House{}) {
			return false
		}
	}
	return sameHouse(impl.HouseRise(h), impl.House{})
}

func TestPromise35HousesNotOk(t *testing.T) {
	if !impl.HouseOk(someHouse()) || !houseOkByHand(someHouse()) {
		t.Fatal("not ok:", tellHouse(someHouse()))
	}
	for i, x := range housesNotOk() {
		kept := cloneHouse(x.house)
		if !isNothing(x.house) || houseOkByHand(x.house) {
			t.Errorf("%d: %s: %+v", i, x.reason, kept)
		}
		if !sameHouse(x.house, kept) {
			t.Errorf("%d: %s: an argument was changed", i, x.reason)
		}
	}
}

func TestPromise35HousesThatAreOk(t *testing.T) {
	down := func(log ...impl.Rec) impl.House { return impl.House{Log: log, Locks: freeLocks()} }
	deal := promiseRec(5, 1, impl.WhatDeal, 0, 3)
	list := []impl.House{
		down(), down(deal), down(deal, promiseRec(6, 1, impl.WhatDeal, 0, 3)), down(deal, promiseRec(5, 2, impl.WhatDeal, 0, 3)),
		standing(0, deal, promiseRec(5, 2, impl.WhatOut, 6)),
		standing(2, promiseRec(5, 2, impl.WhatOut, 7), undoneRec(5, 2), promiseRec(5, 1, impl.WhatIn, 7), doneRec(5, 1, impl.Pair{Key: 28}, impl.Pair{Key: 31, Val: -9999})),
		standing(1, promiseRec(1, 1, impl.WhatDeal, 0, 1, 2, 3, 4, 5, 6, 7), doneRec(1, 1, everyKey(9999)...)),
		standing(1, promiseRec(9999, 9999, impl.WhatDeal, 0), promiseRec(1, 9999, impl.WhatIn, 7), promiseRec(9999, 1, impl.WhatOut, 1)),
		standing(0, promiseRec(5, 1, impl.WhatOut, 0), doneRec(5, 1, impl.Pair{Key: 3, Val: 1})),
		standing(0, endedPairs(200)...),
		with(impl.HouseStart(0), func(h *impl.House) { h.Works = manyWorks(maxWorks) }),
		with(impl.HouseStart(0), func(h *impl.House) {
			h.Works = []impl.Work{workOf(1, 9999, 1, 0, 1, 2, 3, 4, 5, 6, 7), workOf(9999, 1, 2, 0)}
		}),
		with(impl.HouseStart(0), func(h *impl.House) {
			h.Locks[3].Held, h.Locks[7].Waits = sharers(1, maxHolds), sharers(1, maxHolds)
		}),
		// What is open may share its lock.
		with(standing(0, deal), func(h *impl.House) { h.Locks[3].Held = holds(firm(sharing(5, 1)), sharing(6, 1)) }),
	}
	for i, h := range list {
		kept := cloneHouse(h)
		for forced := range len(h.Log) + 1 {
			h.Forced = forced
			if !impl.HouseOk(h) || !houseOkByHand(h) {
				t.Error(i, forced, tellHouse(h))
			}
		}
		h.Forced = kept.Forced
		if !sameHouse(h, kept) {
			t.Error(i, "an argument was changed")
		}
	}
}

// spoilHouse changes one thing of a house, in memory of its own; it may be ok still.
func spoilHouse(r *rand.Rand, h impl.House) impl.House {
	h = cloneHouse(h)
	slot := r.Intn(8)
	switch r.Intn(9) {
	case 0:
		h.Id = r.Intn(5) - 1
	case 1:
		h.Up = !h.Up
	case 2:
		h.Forced += r.Intn(5) - 2
	case 3:
		more := makeLog(r, false)
		h.Log = slices.Concat(h.Log, more[:min(len(more), 2)])
	case 4:
		if len(h.Log) > 0 {
			at := r.Intn(len(h.Log))
			h.Log = slices.Delete(h.Log, at, at+1)
			h.Forced = min(h.Forced, len(h.Log))
		}
	case 5:
		h.Locks[slot] = makeLock(r)
	case 6:
		h.Locks[slot].Held = nil
	case 7:
		for i := range h.Locks[slot].Held {
			h.Locks[slot].Held[i].Firm = false
		}
	default:
		what, slots := makeWhat(r, []int{0, 3, 6})
		h.Works = slices.Insert(h.Works, r.Intn(len(h.Works)+1), workOf(r.Intn(16), 1, what, slots...))
	}
	return h
}

func TestPromise35AnyHouses(t *testing.T) {
	seen := map[bool]int{}
	eachHouse(t, 51, eitherHouse, func(r *rand.Rand, h impl.House, w impl.Word) {
		if !impl.HouseOk(h) || !houseOkByHand(h) {
			t.Error("not ok")
		}
		spoilt := spoilHouse(r, h)
		want := houseOkByHand(spoilt)
		seen[want]++
		if impl.HouseOk(spoilt) != want || !want && !isNothing(spoilt) {
			t.Errorf("ok %v of %+v", !want, spoilt)
		}
	})
	if seen[true] < manyHouses/10 || seen[false] < manyHouses/10 {
		t.Error("too few of a kind:", seen)
	}
}

// keepsCase is a log of house 0, and what it keeps by that.
type keepsCase struct {
	name  string
	log   []impl.Rec
	slots []int
	vals  []impl.Pair
}

func keepsCases() []keepsCase {
	pairs := func(list ...impl.Pair) []impl.Pair { return list }
	at := func(key, val int) impl.Pair { return impl.Pair{Key: key, Val: val} }
	deal := promiseRec(5, 1, impl.WhatDeal, 0, 3)
	out, in := promiseRec(6, 1, impl.WhatOut, 3), promiseRec(7, 1, impl.WhatIn, 3)
	done := doneRec(5, 1, at(1, 8), at(12, 7), at(15, -3))
	first := []int{0, 3, 6}
	return []keepsCase{
		{"nothing", nil, first, nil},
		{"a deal that is open", []impl.Rec{deal}, first, nil},
		{"a deal that is done", []impl.Rec{deal, done}, first, pairs(at(1, 8), at(12, 7), at(15, -3))},
		{"a deal that is done without values", []impl.Rec{deal, doneRec(5, 1)}, first, nil},
		{"a deal that is undone", []impl.Rec{deal, undoneRec(5, 1)}, first, nil},
		{"values of 0", []impl.Rec{deal, doneRec(5, 1, at(0, 0), at(1, 8), at(12, 0))}, first, pairs(at(1, 8))},
		{"a value that becomes 0", []impl.Rec{deal, done, promiseRec(6, 1, impl.WhatDeal, 3), doneRec(6, 1, at(12, 0), at(13, 1))}, first, pairs(at(1, 8), at(13, 1), at(15, -3))},
		{"a later try", []impl.Rec{deal, undoneRec(5, 1), promiseRec(5, 2, impl.WhatDeal, 0), doneRec(5, 2, at(2, 2))}, first, pairs(at(2, 2))},
		{"in the order of the ends", []impl.Rec{promiseRec(5, 1, impl.WhatDeal, 0), promiseRec(6, 1, impl.WhatDeal, 3), promiseRec(7, 1, impl.WhatOut, 6), doneRec(6, 1, at(12, 6)), undoneRec(7, 1), doneRec(5, 1, at(0, 5))},
			first, pairs(at(0, 5), at(12, 6))},
		{"a slot that is to go", []impl.Rec{deal, done, out}, first, pairs(at(1, 8), at(12, 7), at(15, -3))},
		{"a slot that goes", []impl.Rec{deal, done, out, doneRec(6, 1)}, []int{0, 6}, pairs(at(1, 8))},
		{"a slot that goes, with what it has", []impl.Rec{deal, done, out, doneRec(6, 1, at(12, 7), at(15, -3))}, []int{0, 6}, pairs(at(1, 8))},
		{"a slot that stays", []impl.Rec{deal, done, out, undoneRec(6, 1)}, first, pairs(at(1, 8), at(12, 7), at(15, -3))},
		{"a slot that goes and comes again", []impl.Rec{deal, done, out, doneRec(6, 1), in, doneRec(7, 1, at(12, 0), at(13, 4))}, first, pairs(at(1, 8), at(13, 4))},
		{"a slot that goes, comes and goes", []impl.Rec{deal, done, out, doneRec(6, 1), in, doneRec(7, 1, at(13, 4)), promiseRec(6, 2, impl.WhatOut, 3), doneRec(6, 2)}, []int{0, 6}, pairs(at(1, 8))},
		{"a slot that goes, and does not come", []impl.Rec{deal, done, out, doneRec(6, 1), in, undoneRec(7, 1)}, []int{0, 6}, pairs(at(1, 8))},
		{"a slot that comes", []impl.Rec{promiseRec(7, 1, impl.WhatIn, 2), doneRec(7, 1, at(8, 1), at(11, 2))}, []int{0, 2, 3, 6}, pairs(at(8, 1), at(11, 2))},
		{"slots that come, the last and the first", []impl.Rec{promiseRec(7, 1, impl.WhatIn, 7), doneRec(7, 1, at(31, 1)), promiseRec(8, 1, impl.WhatIn, 1), doneRec(8, 1)}, []int{0, 1, 3, 6, 7}, pairs(at(31, 1))},
		{"all that is there goes", []impl.Rec{deal, done, out, doneRec(6, 1), promiseRec(6, 2, impl.WhatOut, 0), doneRec(6, 2), promiseRec(6, 3, impl.WhatOut, 6), doneRec(6, 3)}, nil, nil},
		{"a slot that comes, though it is there, has just what comes", []impl.Rec{deal, done, in, doneRec(7, 1, at(13, 4))}, first, pairs(at(1, 8), at(13, 4))},
		{"a slot that goes, though it is not there", []impl.Rec{promiseRec(6, 1, impl.WhatOut, 2), doneRec(6, 1)}, first, nil},
		{"what is put where nothing is kept", []impl.Rec{promiseRec(5, 1, impl.WhatDeal, 0, 2), doneRec(5, 1, at(1, 1), at(8, 5))}, first, pairs(at(1, 1), at(8, 5))},
	}
}

func TestPromise39WhatIsKept(t *testing.T) {
	for _, c := range keepsCases() {
		up := standing(0, c.log...)
		down := with(up, func(h *impl.House) { h.Up, h.Locks, h.Forced = false, freeLocks(), 0 })
		for _, h := range []impl.House{up, down} {
			slots, vals := impl.HouseKeeps(h)
			if !slices.Equal(slots, c.slots) || !slices.Equal(vals, c.vals) {
				t.Error(c.name, slots, vals)
			}
		}
	}
}

func TestPromise39KeepsRise(t *testing.T) {
	some := 0
	eachHouse(t, 52, eitherHouse, func(r *rand.Rand, h impl.House, w impl.Word) {
		slots, vals := impl.HouseKeeps(h)
		wantSlots, wantVals := keepsByHand(h)
		if !slices.Equal(slots, wantSlots) || !slices.Equal(vals, wantVals) {
			t.Error("keeps:", slots, vals, "asked is", wantSlots, wantVals)
		}
		if !ascendingByHand(slots) || !rising(vals) || slices.ContainsFunc(vals, func(p impl.Pair) bool { return p.Val == 0 }) {
			t.Error("they do not rise, or one is 0:", slots, vals)
		}
		if len(vals) > 2 {
			some++
		}
	})
	if some < manyHouses/10 {
		t.Error("only so many keep values:", some)
	}
}

// What was undone changed nothing: without it, and its promise, the same is kept.
func TestPromise40UndoneChangesNothing(t *testing.T) {
	some := 0
	eachHouse(t, 53, eitherHouse, func(r *rand.Rand, h impl.House, w impl.Word) {
		undone := func(rec impl.Rec) bool {
			return slices.ContainsFunc(h.Log, func(end impl.Rec) bool { return end.Kind == 3 && end.Stamp == rec.Stamp && end.Try == rec.Try })
		}
		less := cloneHouse(h)
		less.Log, less.Forced = slices.DeleteFunc(less.Log, undone), 0
		slots, vals := impl.HouseKeeps(h)
		wantSlots, wantVals := impl.HouseKeeps(less)
		if !slices.Equal(slots, wantSlots) || !slices.Equal(vals, wantVals) {
			t.Error("keeps:", slots, vals, "without what is undone", wantSlots, wantVals)
		}
		if len(less.Log) < len(h.Log) && len(vals) > 0 {
			some++
		}
	})
	if some < manyHouses/10 {
		t.Error("only so many:", some)
	}
}

func TestPromise43WhatIsOpen(t *testing.T) {
	deal, out := promiseRec(5, 1, impl.WhatDeal, 0, 3), promiseRec(2, 7, impl.WhatOut, 6)
	for i, c := range []struct{ log, want []impl.Rec }{
		{nil, nil},
		{[]impl.Rec{deal}, []impl.Rec{deal}},
		{[]impl.Rec{deal, doneRec(5, 1)}, nil},
		{[]impl.Rec{deal, undoneRec(5, 1)}, nil},
		{[]impl.Rec{deal, out}, []impl.Rec{deal, out}},
		{[]impl.Rec{out, deal}, []impl.Rec{out, deal}},
		{[]impl.Rec{out, deal, undoneRec(2, 7)}, []impl.Rec{deal}},
		{[]impl.Rec{out, deal, doneRec(5, 1)}, []impl.Rec{out}},
		{[]impl.Rec{deal, undoneRec(5, 1), promiseRec(5, 2, impl.WhatDeal, 3)}, []impl.Rec{promiseRec(5, 2, impl.WhatDeal, 3)}},
		{[]impl.Rec{promiseRec(5, 2, impl.WhatDeal, 3), promiseRec(5, 1, impl.WhatIn, 4), undoneRec(5, 2)}, []impl.Rec{promiseRec(5, 1, impl.WhatIn, 4)}},
	} {
		h := standing(0, c.log...)
		down := with(h, func(h *impl.House) { h.Up, h.Locks = false, freeLocks() })
		for _, x := range []impl.House{h, down} {
			if is := impl.HouseOpen(x); !slices.EqualFunc(is, c.want, sameRec) {
				t.Error(i, is)
			}
		}
	}
}

func TestPromise43WhatIsAskedAbout(t *testing.T) {
	if is := tellWords(0, impl.HouseTend(someHouse())); is != "doubt 8.1; doubt 9.4; doubt 2.1; doubt 7.1; doubt 11.3" {
		t.Error(is)
	}
	asked := 0
	eachHouse(t, 54, eitherHouse, func(r *rand.Rand, h impl.House, w impl.Word) {
		var want []impl.Word
		open := openByHand(h)
		for _, p := range open {
			want = append(want, impl.Word{Kind: 7, From: h.Id, To: 9, Stamp: p.Stamp, Try: p.Try})
		}
		for _, x := range h.Works {
			want = append(want, impl.Word{Kind: 7, From: h.Id, To: 9, Stamp: x.Stamp, Try: x.Try})
		}
		if !h.Up {
			want = nil
		}
		if is := impl.HouseTend(h); !sameWords(is, want) {
			t.Error("asks:", tellWords(h.Id, is))
		}
		if is := impl.HouseOpen(h); !slices.EqualFunc(is, open, sameRec) {
			t.Error("open:", is)
		}
		if len(want) > 1 && len(open) > 0 {
			asked++
		}
	})
	if asked < manyHouses/10 {
		t.Error("only so many ask:", asked)
	}
}

func TestPromise41HowMuchIsLeft(t *testing.T) {
	h := with(someHouse(), func(h *impl.House) { h.Forced = 3 })
	left := map[int]int{math.MinInt: 3, -9: 3, -1: 3, 0: 3, 1: 4, 2: 5, 4: 7, 5: 8, 6: 8, 100: 8, math.MaxInt - 2: 8, math.MaxInt: 8}
	for keep, many := range left {
		want := impl.House{Log: h.Log[:many], Forced: many, Locks: freeLocks()}
		if is := impl.HouseFall(h, keep); !sameHouse(is, want) || !impl.HouseOk(is) {
			t.Error(keep, tellHouse(is))
		}
	}
	// One that fell, or forced nothing, falls likewise.
	down := with(h, func(h *impl.House) { h.Up, h.Locks, h.Works = false, freeLocks(), nil })
	if is := impl.HouseFall(down, 1); !sameHouse(is, impl.House{Log: h.Log[:4], Forced: 4, Locks: freeLocks()}) {
		t.Error(tellHouse(is))
	}
	down.Forced = 0
	if is := impl.HouseFall(down, 0); !sameHouse(is, impl.House{Locks: freeLocks()}) {
		t.Error(tellHouse(is))
	}
	for id := range impl.MapHouses {
		if is := impl.HouseFall(impl.HouseStart(id), 7); !sameHouse(is, impl.House{Id: id, Locks: freeLocks()}) {
			t.Error(tellHouse(is))
		}
	}
}

func TestPromise41AnyFall(t *testing.T) {
	lost := 0
	eachHouse(t, 55, eitherHouse, func(r *rand.Rand, h impl.House, w impl.Word) {
		for _, keep := range []int{-1, 0, 1, 2 + r.Intn(9), math.MinInt, math.MaxInt} {
			is := impl.HouseFall(h, keep)
			many := h.Forced + min(max(keep, 0), len(h.Log)-h.Forced)
			want := impl.House{Id: h.Id, Log: h.Log[:many], Forced: many, Locks: freeLocks()}
			if !sameHouse(is, want) || !impl.HouseOk(is) {
				t.Error(keep, tellHouse(is))
			}
			if many < len(h.Log) {
				lost++
			}
		}
	})
	if lost < manyHouses/10 {
		t.Error("only so many lost something:", lost)
	}
}

func TestPromise48WhatAFallLeaves(t *testing.T) {
	eachHouse(t, 56, eitherHouse, func(r *rand.Rand, h impl.House, w impl.Word) {
		all, none := impl.HouseFall(h, len(h.Log)), impl.HouseFall(h, 0)
		if !slices.EqualFunc(all.Log, h.Log, sameRec) || !slices.EqualFunc(none.Log, h.Log[:h.Forced], sameRec) {
			t.Error("log:", tellHouse(all), tellHouse(none))
		}
		slots, vals := impl.HouseKeeps(h)
		leftSlots, leftVals := impl.HouseKeeps(all)
		if !slices.Equal(slots, leftSlots) || !slices.Equal(vals, leftVals) || !slices.EqualFunc(impl.HouseOpen(h), impl.HouseOpen(all), sameRec) {
			t.Error("it lost something:", tellHouse(all))
		}
		if forced := with(h, func(h *impl.House) { h.Forced = len(h.Log) }); !sameHouse(impl.HouseFall(forced, 0), all) {
			t.Error("what is forced is lost")
		}
		if !sameHouse(impl.HouseFall(none, 9), none) {
			t.Error("it lost more by falling again")
		}
	})
}

func TestPromise42WhoRises(t *testing.T) {
	down := func(log ...impl.Rec) impl.House {
		return impl.House{Log: log, Forced: len(log), Locks: freeLocks()}
	}
	deal, out, in := promiseRec(8, 2, impl.WhatDeal, 0, 3), promiseRec(5, 1, impl.WhatOut, 6), promiseRec(9, 1, impl.WhatIn, 2)
	ups := map[string]impl.House{
		"house 0 up": down(),
		"house 0 up; promise 8.2 deal 0 3; forced 1; slot 0 held 8.2 firm; slot 3 held 8.2 firm":                                                                                  down(deal),
		"house 0 up; promise 8.2 deal 0 3; done 8.2 1=4; forced 2":                                                                                                                down(deal, doneRec(8, 2, impl.Pair{Key: 1, Val: 4})),
		"house 0 up; promise 8.2 deal 0 3; undone 8.2; promise 5.1 out 6; forced 3; slot 6 held 5.1 firm":                                                                         down(deal, undoneRec(8, 2), out),
		"house 0 up; promise 8.2 deal 0 3; promise 8.3 in 4; forced 2; slot 0 held 8.2 firm; slot 3 held 8.2 firm; slot 4 held 8.3 firm":                                          down(deal, promiseRec(8, 3, impl.WhatIn, 4)),
		"house 0 up; promise 8.2 deal 0 3; promise 5.1 out 6; promise 9.1 in 2; forced 3; slot 0 held 8.2 firm; slot 2 held 9.1 firm; slot 3 held 8.2 firm; slot 6 held 5.1 firm": down(deal, out, in),
	}
	for want, h := range ups {
		if is := impl.HouseRise(h); tellHouse(is) != want || !impl.HouseOk(is) || !sameHouse(impl.HouseRise(is), is) {
			t.Error(tellHouse(is), "asked is", want)
		}
	}
	// Two that are open would hold one lock: no log that a house writes, but one that is in form.
	for _, h := range []impl.House{
		down(deal, promiseRec(9, 1, impl.WhatOut, 3)), down(deal, promiseRec(8, 3, impl.WhatDeal, 3)), down(out, deal, promiseRec(1, 1, impl.WhatDeal, 0, 1)),
		down(promiseRec(5, 1, impl.WhatIn, 7), promiseRec(5, 2, impl.WhatIn, 7)),
	} {
		if is := impl.HouseRise(h); !sameHouse(is, h) {
			t.Error("it does not stay down:", tellHouse(is))
		}
	}
	if is := impl.HouseRise(someHouse()); !sameHouse(is, someHouse()) {
		t.Error("it was up:", tellHouse(is))
	}
}

func TestPromise42AnyRise(t *testing.T) {
	rose, stayed := 0, 0
	eachHouse(t, 57, eitherHouse, func(r *rand.Rand, h impl.House, w impl.Word) {
		down := impl.HouseFall(h, r.Intn(len(h.Log)+1))
		is := impl.HouseRise(down)
		want := standing(h.Id, down.Log...)
		if !houseOkByHand(want) {
			want = down
			stayed++
		} else if len(openByHand(down)) > 0 {
			rose++
		}
		if !sameHouse(is, want) || !impl.HouseOk(is) {
			t.Error("rises:", tellHouse(is))
		}
		if !h.Up {
			return
		}
		if again := impl.HouseRise(h); !sameHouse(again, h) {
			t.Error("it was up:", tellHouse(again))
		}
	})
	if rose < manyHouses/20 || stayed < manyHouses/100 {
		t.Error("too few of a kind:", rose, stayed)
	}
}
