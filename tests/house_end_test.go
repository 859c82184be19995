package tests

import (
	"math/rand"
	"slices"
	"strconv"
	"testing"

	"loop.example/turnpike/impl"
)

func TestPromise36WhatIsWrittenDown(t *testing.T) {
	hearAll(t, impl.HouseStart(0), []hearCase{
		{"a deal", "lock 5.1 deal 0 3", "promise 5.1", "house 0 up; promise 5.1 deal 0 3; forced 1; slot 0 held 5.1 firm; slot 3 held 5.1 firm", "promised 5.1 yes"},
		{"what goes", "lock 5.1 out 3", "promise 5.1", "house 0 up; promise 5.1 out 3; forced 1; slot 3 held 5.1 firm", "promised 5.1 yes"},
		{"what comes", "lock 5.1 in 1", "promise 5.1", "house 0 up; promise 5.1 in 1; forced 1; slot 1 held 5.1 firm", "promised 5.1 yes"},
		{"the last name", "lock 9999.9999 in 7", "promise 9999.9999", "house 0 up; promise 9999.9999 in 7; forced 1; slot 7 held 9999.9999 firm", "promised 9999.9999 yes"},
		{"of several works", "lock 4.1 deal 0; lock 5.2 deal 3; lock 6.1 deal 3; lock 7.1 deal 6", "promise 5.2",
			"house 0 up; promise 5.2 deal 3; forced 1; work 4.1 deal 0; work 6.1 deal 3; work 7.1 deal 6; slot 0 held 4.1; slot 3 held 5.2 firm waits 6.1; slot 6 held 7.1", "promised 5.2 yes"},
		{"what is not forced is forced", "lock 5.1 deal 0; promise 5.1; end 5.1 yes 1=8; lock 6.1 deal 3", "promise 6.1",
			"house 0 up; promise 5.1 deal 0; done 5.1 1=8; promise 6.1 deal 3; forced 3; slot 3 held 6.1 firm", "promised 6.1 yes"},
		{"while another one is open", "lock 5.1 deal 0; promise 5.1; lock 6.1 deal 3", "promise 6.1",
			"house 0 up; promise 5.1 deal 0; promise 6.1 deal 3; forced 2; slot 0 held 5.1 firm; slot 3 held 6.1 firm", "promised 6.1 yes"},
		{"an elder try ended", "lock 5.1 deal 0; promise 5.1; end 5.1; lock 5.2 deal 0", "promise 5.2",
			"house 0 up; promise 5.1 deal 0; undone 5.1; promise 5.2 deal 0; forced 3; slot 0 held 5.2 firm", "promised 5.2 yes"},
		{"an elder try is open", "lock 5.1 deal 0; promise 5.1; lock 5.2 deal 3", "promise 5.2",
			"house 0 up; promise 5.1 deal 0; promise 5.2 deal 3; forced 2; slot 0 held 5.1 firm; slot 3 held 5.2 firm", "promised 5.2 yes"},
	})
}

func TestPromise36BehindAFall(t *testing.T) {
	promised := 0
	eachHouse(t, 71, eitherHouse, func(r *rand.Rand, h impl.House, w impl.Word) {
		w.Kind = impl.WordPromise
		for _, x := range known(h) {
			w.Stamp, w.Try = x.Stamp, x.Try
			is, words := impl.HouseHear(h, w)
			if len(words) != 1 || !words[0].Yes {
				continue
			}
			want, before := promiseByHand(h.Log, w.Stamp, w.Try)
			forced := slices.ContainsFunc(h.Log[:h.Forced], func(rec impl.Rec) bool { return sameRec(rec, want) })
			if !before {
				want = promiseRec(x.Stamp, x.Try, x.What, x.Slots...)
			}
			if !before && is.Forced != len(is.Log) {
				t.Error("not all is forced:", is.Forced)
			}
			if before && !sameHouse(is, h) {
				t.Error("it was promised:", tellHouse(is))
			}
			if !before {
				promised++
			}
			fallen := impl.HouseFall(is, 0)
			for _, y := range []impl.House{is, fallen, impl.HouseRise(fallen)} {
				open := slices.ContainsFunc(impl.HouseOpen(y), func(rec impl.Rec) bool { return sameRec(rec, want) })
				// A log that no house writes may have a promise that is not forced.
				if !open && (!before || forced) {
					t.Error("it is not open:", w.Stamp, w.Try, tellHouse(y))
				}
			}
		}
	})
	if promised < manyHouses/10 {
		t.Error("only so many promised:", promised)
	}
}

func TestPromise37WhatItDoesNotHold(t *testing.T) {
	hearAll(t, impl.HouseStart(0), []hearCase{
		{"no work", "", "promise 5.1", "", "promised 5.1 no"},
		{"a work of another one", "lock 6.1 deal 0", "promise 5.1", "", "promised 5.1 no"},
		{"a later try works", "lock 5.2 deal 0", "promise 5.1", "", "promised 5.1 no"},
		{"an elder try works", "lock 5.1 deal 0", "promise 5.2", "", "promised 5.2 no"},
		{"another try is promised", "lock 5.1 deal 0; promise 5.1", "promise 5.2", "", "promised 5.2 no"},
		{"it waits for all", "lock 5.1 deal 0; lock 7.1 deal 0", "promise 7.1", "", "promised 7.1 no"},
		{"it waits for one of several", "lock 5.1 deal 3; lock 7.1 deal 0 3 6", "promise 7.1", "", "promised 7.1 no"},
		{"an elder one waits for a promise", "lock 5.1 deal 0; promise 5.1; lock 2.1 deal 0 3", "promise 2.1", "", "promised 2.1 no"},
		{"a lock was taken ahead of it", "lock 5.1 deal 0 3; lock 2.1 deal 3", "promise 5.1", "", "promised 5.1 no"},
		{"all was taken ahead of it", "lock 5.1 deal 0; lock 2.1 deal 0; end 2.1", "promise 5.1", "", "promised 5.1 no"},
		{"it was taken, and asked again, and waits", "lock 5.1 deal 0; lock 2.1 deal 0; lock 5.1 deal 0", "promise 5.1", "", "promised 5.1 no"},
		{"it was taken, and asked again, and holds it", "lock 5.1 deal 0; lock 2.1 deal 0; lock 5.1 deal 0; end 2.1", "promise 5.1", "house 0 up; promise 5.1 deal 0; forced 1; slot 0 held 5.1 firm", "promised 5.1 yes"},
		{"its work was ended", "lock 5.1 deal 0; end 5.1", "promise 5.1", "", "promised 5.1 no"},
		{"its own elder promise holds one", "lock 5.1 deal 0; promise 5.1; lock 5.2 deal 0 3", "promise 5.2", "", "promised 5.2 no"},
		{"a slot is elsewhere", "lock 5.1 deal 1", "promise 5.1", "", "promised 5.1 no"},
		{"one of several slots is elsewhere", "lock 5.1 deal 0 1 3", "promise 5.1", "", "promised 5.1 no"},
		{"what goes is elsewhere", "lock 5.1 out 2", "promise 5.1", "", "promised 5.1 no"},
		{"what comes is here", "lock 5.1 in 0", "promise 5.1", "", "promised 5.1 no"},
		{"a slot that went", "lock 5.1 out 3; promise 5.1; lock 7.1 deal 3; end 5.1 yes", "promise 7.1", "", "promised 7.1 no"},
		{"a slot that did not go", "lock 5.1 out 3; promise 5.1; lock 7.1 deal 3; end 5.1", "promise 7.1", "house 0 up; promise 5.1 out 3; undone 5.1; promise 7.1 deal 3; forced 3; slot 3 held 7.1 firm", "promised 7.1 yes"},
		{"a slot that came", "lock 5.1 in 1; promise 5.1; lock 7.1 in 1; end 5.1 yes", "promise 7.1", "", "promised 7.1 no"},
		{"a slot that went cannot go again", "lock 5.1 out 3; promise 5.1; end 5.1 yes; lock 7.1 out 3", "promise 7.1", "", "promised 7.1 no"},
		{"a slot that went comes", "lock 5.1 out 3; promise 5.1; end 5.1 yes; lock 7.1 in 3", "promise 7.1", "house 0 up; promise 5.1 out 3; done 5.1; promise 7.1 in 3; forced 3; slot 3 held 7.1 firm", "promised 7.1 yes"},
		{"Stamp 0", "lock 5.1 deal 0", "promise 0.1", "", ""},
		{"Try 0", "lock 5.1 deal 0", "promise 5.0", "", ""},
		{"both 0", "", "promise 0.0", "", ""},
	})
}

// A log has an even number of places that are taken or bespoke, as each promise bespeaks one for its end: one place too few is always two.
func TestPromise37RoomInTheLog(t *testing.T) {
	for open := range 4 {
		for more := range 3 {
			log := endedPairs(198 - open + more)
			for i := range open {
				log = append(log, promiseRec(1+i, 1, impl.WhatDeal, i))
			}
			room := 400 - len(log) - open
			h := standing(0, log...)
			h, _ = behind(h, readWords(0, "lock 20.1 deal 6")...)
			is, words := impl.HouseHear(h, readWord(0, "promise 20.1"))
			want, wantHouse := "promised 20.1 no", h
			if room >= 2 {
				want = "promised 20.1 yes"
				wantHouse = standing(0, append(slices.Clone(log), promiseRec(20, 1, impl.WhatDeal, 6))...)
			}
			if tellWords(0, words) != want || !sameHouse(is, wantHouse) {
				t.Error(open, len(log), tellWords(0, words))
			}
			// All that is open can be ended then.
			for _, p := range impl.HouseOpen(is) {
				is, _ = impl.HouseHear(is, readWord(0, "end"+tellName(p.Stamp, p.Try)))
			}
			if len(impl.HouseOpen(is)) != 0 || len(is.Log) > 400 {
				t.Error("it stays open:", open, len(log))
			}
		}
	}
}

// A log that no house writes may be full while something is open; then its end is not heard.
func TestPromise35AFullLog(t *testing.T) {
	log := append(endedPairs(199), promiseRec(1, 1, impl.WhatDeal, 0), promiseRec(2, 1, impl.WhatDeal, 3))
	h := standing(0, log...)
	h, _ = behind(h, readWord(0, "lock 3.1 deal 0"))
	for _, text := range []string{"end 1.1", "end 2.1 yes 12=1"} {
		if is, words := impl.HouseHear(h, readWord(0, text)); !sameHouse(is, h) || len(words) > 0 {
			t.Error(text, tellHouse(is), tellWords(0, words))
		}
	}
	if is, words := impl.HouseHear(h, readWord(0, "promise 2.1")); !sameHouse(is, h) || tellWords(0, words) != "promised 2.1 yes" {
		t.Error(tellHouse(is), tellWords(0, words))
	}
	last := standing(0, log[:399]...)
	if is, _ := impl.HouseHear(last, readWord(0, "end 1.1")); len(is.Log) != 400 || !impl.HouseOk(is) || len(impl.HouseOpen(is)) != 0 {
		t.Error(tellHouse(is))
	}
}

func TestPromise37AnyPromise(t *testing.T) {
	yes, no := 0, 0
	eachHouse(t, 72, eitherHouse, func(r *rand.Rand, h impl.House, w impl.Word) {
		w.Kind = impl.WordPromise
		for _, x := range append(known(h), workOf(w.Stamp, w.Try, 1, 0)) {
			w.Stamp, w.Try = x.Stamp, x.Try
			_, words := impl.HouseHear(h, w)
			for _, one := range words {
				_, promised := promiseByHand(h.Log, one.Stamp, one.Try)
				has, _ := workByHand(h, one.Stamp)
				holds := has.Try == one.Try && hasAllByHand(h, has)
				switch {
				case !one.Yes:
					no++
				case promised && endedByHand(h.Log, one.Stamp, one.Try), !promised && !holds:
					t.Error("it promised:", tellWords(h.Id, words))
				default:
					yes++
				}
			}
		}
	})
	if yes < manyHouses/10 || no < manyHouses/10 {
		t.Error("too few of a kind:", yes, no)
	}
}

func TestPromise38WhatComesTwice(t *testing.T) {
	hearAll(t, impl.HouseStart(0), []hearCase{
		{"what asks for a promise", "lock 5.1 deal 0; promise 5.1", "promise 5.1", "", "promised 5.1 yes"},
		{"what asks for a promise, while others wait", "lock 5.1 deal 0; lock 7.1 deal 0 3; promise 5.1", "promise 5.1", "", "promised 5.1 yes"},
		{"what asks for a promise, of what it does not hold", "promise 5.1", "promise 5.1", "", "promised 5.1 no"},
		{"what asks for a promise that is done", "lock 5.1 deal 0; promise 5.1; end 5.1 yes", "promise 5.1", "", ""},
		{"what asks for a promise that is undone", "lock 5.1 deal 0; promise 5.1; end 5.1", "promise 5.1", "", ""},
		{"what asks for a promise that ended, while a later try works", "lock 5.1 deal 0; promise 5.1; end 5.1; lock 5.2 deal 0", "promise 5.1", "", ""},
		{"done", "lock 5.1 deal 0; promise 5.1; end 5.1 yes 1=8", "end 5.1 yes 1=8", "", ""},
		{"done, with other values", "lock 5.1 deal 0; promise 5.1; end 5.1 yes 1=8", "end 5.1 yes 1=9 2=1", "", ""},
		{"done, and then undone", "lock 5.1 deal 0; promise 5.1; end 5.1 yes 1=8", "end 5.1", "", ""},
		{"undone", "lock 5.1 deal 0; promise 5.1; end 5.1", "end 5.1", "", ""},
		{"undone, and then done", "lock 5.1 deal 0; promise 5.1; end 5.1", "end 5.1 yes 1=8", "", ""},
		{"the end of a work", "lock 5.1 deal 0; end 5.1", "end 5.1", "", ""},
	})
	eachHouse(t, 73, eitherHouse, func(r *rand.Rand, h impl.House, w impl.Word) {
		for _, kind := range []int{impl.WordPromise, impl.WordEnd} {
			for _, x := range append(known(h), workOf(w.Stamp, w.Try, 1, 0)) {
				w.Kind, w.Stamp, w.Try, w.Yes = kind, x.Stamp, x.Try, r.Intn(2) == 0
				once, words := impl.HouseHear(h, w)
				twice, more := impl.HouseHear(once, w)
				if !sameHouse(twice, once) || kind == impl.WordEnd && len(more) > 0 || kind == impl.WordPromise && !sameWords(words, more) {
					t.Errorf("%#v once %s twice %s says %s", w, tellHouse(once), tellHouse(twice), tellWords(h.Id, more))
				}
			}
		}
	})
}

func TestPromise40HowItEnds(t *testing.T) {
	hearAll(t, impl.HouseStart(0), []hearCase{
		{"done", "lock 5.1 deal 0 3; promise 5.1", "end 5.1 yes 1=8 12=7", "house 0 up; promise 5.1 deal 0 3; done 5.1 1=8 12=7; forced 1", ""},
		{"done, without values", "lock 5.1 deal 0; promise 5.1", "end 5.1 yes", "house 0 up; promise 5.1 deal 0; done 5.1; forced 1", ""},
		{"done, with values of other slots", "lock 5.1 deal 0; promise 5.1", "end 5.1 yes 0=1 3=2 4=3 12=4 31=5", "house 0 up; promise 5.1 deal 0; done 5.1 0=1 3=2; forced 1", ""},
		{"done, with values of other slots alone", "lock 5.1 deal 3; promise 5.1", "end 5.1 yes 11=1 16=2", "house 0 up; promise 5.1 deal 3; done 5.1; forced 1", ""},
		{"done, with values of 0", "lock 5.1 deal 0; promise 5.1", "end 5.1 yes 0=0 1=-9999 4=0", "house 0 up; promise 5.1 deal 0; done 5.1 0=0 1=-9999; forced 1", ""},
		{"undone", "lock 5.1 deal 0; promise 5.1", "end 5.1", "house 0 up; promise 5.1 deal 0; undone 5.1; forced 1", ""},
		{"undone, with values", "lock 5.1 deal 0; promise 5.1", "end 5.1 1=8", "house 0 up; promise 5.1 deal 0; undone 5.1; forced 1", ""},
		{"what goes, done", "lock 5.1 out 3; promise 5.1", "end 5.1 yes 12=7 16=1", "house 0 up; promise 5.1 out 3; done 5.1 12=7; forced 1", ""},
		{"what comes, done", "lock 5.1 in 7; promise 5.1", "end 5.1 yes 12=7 28=1 31=2", "house 0 up; promise 5.1 in 7; done 5.1 28=1 31=2; forced 1", ""},
		{"what comes, undone", "lock 5.1 in 7; promise 5.1", "end 5.1 28=1", "house 0 up; promise 5.1 in 7; undone 5.1; forced 1", ""},
		{"others stay open", "lock 5.1 deal 0; promise 5.1; lock 4.1 deal 3; promise 4.1; lock 6.1 deal 6; promise 6.1", "end 5.1 yes",
			"house 0 up; promise 5.1 deal 0; promise 4.1 deal 3; promise 6.1 deal 6; done 5.1; forced 3; slot 3 held 4.1 firm; slot 6 held 6.1 firm", ""},
		{"another stamp", "lock 5.1 deal 0; promise 5.1", "end 6.1", "", ""},
		{"another stamp, done", "lock 5.1 deal 0; promise 5.1", "end 4.1 yes", "", ""},
		{"a later try than what is promised", "lock 5.1 deal 0; promise 5.1", "end 5.2", "", ""},
		{"a later try than what is promised, done", "lock 5.1 deal 0; promise 5.1", "end 5.2 yes", "", ""},
		{"an elder try than what is promised", "lock 5.2 deal 0; promise 5.2", "end 5.1", "", ""},
		{"nothing was promised", "", "end 5.1", "", ""},
		{"nothing was promised, done", "", "end 5.1 yes 1=1", "", ""},
		{"Stamp 0", "lock 5.1 deal 0; promise 5.1; lock 6.1 deal 3", "end 0.1", "", ""},
		{"Try 0", "lock 5.1 deal 0; promise 5.1; lock 6.1 deal 3", "end 6.0", "", ""},
	})
	hearAll(t, impl.HouseStart(2), []hearCase{
		{"another house's slots", "lock 5.1 deal 2 5; promise 5.1", "end 5.1 yes 8=1 11=2 12=3 20=4 23=5 24=6", "house 2 up; promise 5.1 deal 2 5; done 5.1 8=1 11=2 20=4 23=5; forced 1", ""},
	})
}

func TestPromise40WhatIsKeptThen(t *testing.T) {
	done, undone := map[int]int{}, 0
	eachHouse(t, 74, eitherHouse, func(r *rand.Rand, h impl.House, w impl.Word) {
		for _, p := range openByHand(h) {
			w.Kind, w.Stamp, w.Try, w.Yes, w.Pairs = impl.WordEnd, p.Stamp, p.Try, r.Intn(3) > 0, makePairs(r)
			is, _ := impl.HouseHear(h, w)
			if len(is.Log) == len(h.Log) {
				continue
			}
			slots, vals := impl.HouseKeeps(h)
			newSlots, newVals := impl.HouseKeeps(is)
			if !w.Yes {
				undone++
				if !slices.Equal(newSlots, slots) || !slices.Equal(newVals, vals) {
					t.Error("undone:", tellRec(p), newSlots, newVals)
				}
				continue
			}
			done[p.What]++
			for key := range impl.DealKeys {
				want := valueOf(vals, key)
				if inside := slices.Contains(p.Slots, key/4); inside && (p.What == 3 || p.What == 1 && tells(w.Pairs, key)) {
					want = valueOf(w.Pairs, key)
				} else if inside && p.What == 2 {
					want = 0
				}
				if valueOf(newVals, key) != want {
					t.Error("done:", tellRec(p), "key", key, newVals)
				}
			}
			for slot := range impl.MapSlots {
				want := slices.Contains(slots, slot)
				if p.What != 1 && p.Slots[0] == slot {
					want = p.What == 3
				}
				if slices.Contains(newSlots, slot) != want {
					t.Error("done:", tellRec(p), "slot", slot, newSlots)
				}
			}
		}
	})
	if done[1] < 300 || done[2] < 100 || done[3] < 100 || undone < 300 {
		t.Error("too few of a kind:", done, undone)
	}
}

func TestPromise49WhatEnded(t *testing.T) {
	hearAll(t, impl.HouseStart(0), []hearCase{
		{"who waits for it, in the order of stamps", "lock 5.1 deal 0 3 6; promise 5.1; lock 8.1 deal 0; lock 7.1 deal 3; lock 6.1 deal 6", "end 5.1",
			"house 0 up; promise 5.1 deal 0 3 6; undone 5.1; forced 1; work 6.1 deal 6; work 7.1 deal 3; work 8.1 deal 0; slot 0 held 8.1; slot 3 held 7.1; slot 6 held 6.1", "locked 6.1; locked 7.1; locked 8.1"},
		{"who waits for it, when it is done", "lock 5.1 deal 0; promise 5.1; lock 7.1 deal 0", "end 5.1 yes 1=1", "house 0 up; promise 5.1 deal 0; done 5.1 1=1; forced 1; work 7.1 deal 0; slot 0 held 7.1", "locked 7.1"},
		{"the eldest of those who wait", "lock 5.1 deal 0; promise 5.1; lock 7.1 deal 0; lock 3.1 deal 0; lock 4.1 deal 0", "end 5.1 yes",
			"house 0 up; promise 5.1 deal 0; done 5.1; forced 1; work 3.1 deal 0; work 4.1 deal 0; work 7.1 deal 0; slot 0 held 3.1 waits 4.1, 7.1", "locked 3.1"},
		{"who waits for more is not told", "lock 5.1 deal 0; promise 5.1; lock 6.1 deal 3; promise 6.1; lock 7.1 deal 0 3", "end 5.1",
			"house 0 up; promise 5.1 deal 0; promise 6.1 deal 3; undone 5.1; forced 2; work 7.1 deal 0 3; slot 0 held 7.1; slot 3 held 6.1 firm waits 7.1", ""},
		{"who waits for more is told by the last", "lock 5.1 deal 0; promise 5.1; lock 6.1 deal 3; promise 6.1; lock 7.1 deal 0 3; end 5.1", "end 6.1",
			"house 0 up; promise 5.1 deal 0; promise 6.1 deal 3; undone 5.1; undone 6.1; forced 2; work 7.1 deal 0 3; slot 0 held 7.1; slot 3 held 7.1", "locked 7.1"},
		{"who had all ahead of it is not told again", "lock 5.1 deal 0; promise 5.1; lock 6.1 deal 3; lock 7.1 deal 0", "end 5.1",
			"house 0 up; promise 5.1 deal 0; undone 5.1; forced 1; work 6.1 deal 3; work 7.1 deal 0; slot 0 held 7.1; slot 3 held 6.1", "locked 7.1"},
		{"who waits for a slot that went", "lock 5.1 out 3; promise 5.1; lock 7.1 deal 3; lock 8.1 deal 3", "end 5.1 yes",
			"house 0 up; promise 5.1 out 3; done 5.1; forced 1; work 7.1 deal 3; work 8.1 deal 3; slot 3 held 7.1 waits 8.1", "taken 7.1"},
		{"who waits for a slot that did not go", "lock 5.1 out 3; promise 5.1; lock 7.1 deal 3", "end 5.1", "house 0 up; promise 5.1 out 3; undone 5.1; forced 1; work 7.1 deal 3; slot 3 held 7.1", "locked 7.1"},
		{"who waits for a slot that came", "lock 5.1 in 1; promise 5.1; lock 7.1 deal 1 3", "end 5.1 yes 4=1", "house 0 up; promise 5.1 in 1; done 5.1 4=1; forced 1; work 7.1 deal 1 3; slot 1 held 7.1; slot 3 held 7.1", "locked 7.1"},
		{"who waits for a slot that did not come", "lock 5.1 in 1; promise 5.1; lock 7.1 deal 1 3", "end 5.1", "house 0 up; promise 5.1 in 1; undone 5.1; forced 1; work 7.1 deal 1 3; slot 1 held 7.1; slot 3 held 7.1", "taken 7.1"},
		{"a work", "lock 5.1 deal 0", "end 5.1", "house 0 up", ""},
		{"a work, done", "lock 5.1 deal 0", "end 5.1 yes 1=1", "", ""},
		{"a work, in a later try", "lock 5.1 deal 0", "end 5.3", "house 0 up", ""},
		{"a work, in a later try, done", "lock 5.1 deal 0", "end 5.3 yes", "", ""},
		{"a work, in an elder try", "lock 5.2 deal 0", "end 5.1", "", ""},
		{"a work that waits", "lock 5.1 deal 0; lock 7.1 deal 0 3", "end 7.1", "house 0 up; work 5.1 deal 0; slot 0 held 5.1", ""},
		{"a work, and who waits for it", "lock 5.1 deal 0 3; lock 8.1 deal 0; lock 7.1 deal 3; lock 9.1 deal 0", "end 5.1",
			"house 0 up; work 7.1 deal 3; work 8.1 deal 0; work 9.1 deal 0; slot 0 held 8.1 waits 9.1; slot 3 held 7.1", "locked 7.1; locked 8.1"},
		{"a work of slots that are elsewhere, and who waits for it", "lock 5.1 deal 1; lock 7.1 deal 1", "end 5.1", "house 0 up; work 7.1 deal 1; slot 1 held 7.1", "taken 7.1"},
		{"a work of another stamp stays", "lock 5.1 deal 0; lock 6.1 deal 3", "end 5.1", "house 0 up; work 6.1 deal 3; slot 3 held 6.1", ""},
		{"an elder try's promise, while a later one works", "lock 5.1 deal 0; promise 5.1; lock 5.2 deal 3", "end 5.1 yes 1=1", "house 0 up; promise 5.1 deal 0; done 5.1 1=1; forced 1; work 5.2 deal 3; slot 3 held 5.2", ""},
		{"a later try's promise, while an elder one works", "lock 5.2 deal 0; promise 5.2; lock 5.1 deal 3; lock 7.1 deal 3", "end 5.2 yes",
			"house 0 up; promise 5.2 deal 0; done 5.2; forced 1; work 7.1 deal 3; slot 3 held 7.1", "locked 7.1"},
		{"an elder try that works, while a later one is promised", "lock 5.2 deal 0; promise 5.2; lock 5.1 deal 3; lock 7.1 deal 3", "end 5.1",
			"house 0 up; promise 5.2 deal 0; forced 1; work 7.1 deal 3; slot 0 held 5.2 firm; slot 3 held 7.1", "locked 7.1"},
		{"a still later try, while one is promised, and an elder one works", "lock 5.2 deal 0; promise 5.2; lock 5.1 deal 3; lock 7.1 deal 3", "end 5.3",
			"house 0 up; promise 5.2 deal 0; forced 1; work 7.1 deal 3; slot 0 held 5.2 firm; slot 3 held 7.1", "locked 7.1"},
		{"a later try that works, while an elder one is promised: to free it would free the promise", "lock 5.1 deal 0; promise 5.1; lock 5.2 deal 3", "end 5.2", "", ""},
		{"two promises of one stamp, the later one first: to free it would free the other one", "lock 5.1 deal 0; promise 5.1; lock 5.2 deal 3; promise 5.2", "end 5.2 yes", "", ""},
		{"two promises of one stamp, the elder one first", "lock 5.1 deal 0; promise 5.1; lock 5.2 deal 3; promise 5.2", "end 5.1 yes", "house 0 up; promise 5.1 deal 0; promise 5.2 deal 3; done 5.1; forced 2; slot 3 held 5.2 firm", ""},
	})
}

// A lock that nobody holds, and one waits for, is none to which words lead; whoever is freed, he holds it then.
func TestPromise49WhoIsOfTheSameStamp(t *testing.T) {
	start := with(standing(0, promiseRec(5, 1, impl.WhatDeal, 0)), func(h *impl.House) {
		h.Works = []impl.Work{workOf(4, 1, impl.WhatDeal, 6), workOf(5, 2, impl.WhatDeal, 3), workOf(6, 1, impl.WhatDeal, 0)}
		h.Locks[3].Waits, h.Locks[6].Waits, h.Locks[0].Waits = holds(alone(5, 2)), holds(alone(4, 1)), holds(alone(6, 1))
	})
	hearAll(t, start, []hearCase{
		{"it is not told, others are", "", "end 5.1", "house 0 up; promise 5.1 deal 0; undone 5.1; forced 1; work 4.1 deal 6; work 5.2 deal 3; work 6.1 deal 0; slot 0 held 6.1; slot 3 held 5.2; slot 6 held 4.1", "locked 4.1; locked 6.1"},
	})
}

func TestPromise49NoLocksInThatTry(t *testing.T) {
	ended := 0
	eachHouse(t, 75, walkHouse, func(r *rand.Rand, h impl.House, w impl.Word) {
		for _, x := range known(h) {
			end := impl.Word{Kind: impl.WordEnd, From: impl.WordGate, To: h.Id, Stamp: x.Stamp, Try: x.Try, Yes: r.Intn(2) == 0, Pairs: makePairs(r)}
			is, _ := impl.HouseHear(h, end)
			for _, rec := range is.Log {
				if rec.Kind == impl.RecPromise {
					continue
				}
				ended++
				for _, l := range is.Locks {
					for _, hold := range slices.Concat(l.Held, l.Waits) {
						if hold.Stamp == rec.Stamp && hold.Try == rec.Try {
							t.Errorf("it ended, but has a lock: %s of %s", tellRec(rec), tellHouse(is))
						}
					}
				}
				if has, works := workByHand(is, rec.Stamp); works && has.Try == rec.Try {
					t.Errorf("it ended, but works: %s of %s", tellRec(rec), tellHouse(is))
				}
			}
		}
	})
	if ended < manyHouses {
		t.Error("only so many:", ended)
	}
}

func TestPromise44ValuesWithThePromise(t *testing.T) {
	ahead := "lock 1.1 deal 0 3 6; promise 1.1; end 1.1 yes 0=1 3=2 12=3 13=0 24=4; lock 2.1 in 7; promise 2.1; end 2.1 yes 28=5 31=-6; "
	log := "house 0 up; promise 1.1 deal 0 3 6; done 1.1 0=1 3=2 12=3 13=0 24=4; promise 2.1 in 7; done 2.1 28=5 31=-6; "
	hearAll(t, impl.HouseStart(0), []hearCase{
		{"of one slot", ahead + "lock 5.1 deal 0", "promise 5.1", log + "promise 5.1 deal 0; forced 5; slot 0 held 5.1 firm", "promised 5.1 yes 0=1 3=2"},
		{"of several slots", ahead + "lock 5.1 deal 3 6 7", "promise 5.1", log + "promise 5.1 deal 3 6 7; forced 5; slot 3 held 5.1 firm; slot 6 held 5.1 firm; slot 7 held 5.1 firm", "promised 5.1 yes 12=3 24=4 28=5 31=-6"},
		{"of all slots", ahead + "lock 5.1 deal 0 3 6 7", "promise 5.1", log + "promise 5.1 deal 0 3 6 7; forced 5; slot 0 held 5.1 firm; slot 3 held 5.1 firm; slot 6 held 5.1 firm; slot 7 held 5.1 firm", "promised 5.1 yes 0=1 3=2 12=3 24=4 28=5 31=-6"},
		{"of what goes", ahead + "lock 5.1 out 7", "promise 5.1", log + "promise 5.1 out 7; forced 5; slot 7 held 5.1 firm", "promised 5.1 yes 28=5 31=-6"},
		{"of what comes", ahead + "lock 5.1 in 2", "promise 5.1", log + "promise 5.1 in 2; forced 5; slot 2 held 5.1 firm", "promised 5.1 yes"},
		{"of what comes again", ahead + "lock 4.1 out 0; promise 4.1; end 4.1 yes 0=1 3=2; lock 5.1 in 0", "promise 5.1", log + "promise 4.1 out 0; done 4.1 0=1 3=2; promise 5.1 in 0; forced 7; slot 0 held 5.1 firm", "promised 5.1 yes"},
		{"again", ahead + "lock 5.1 deal 6; promise 5.1", "promise 5.1", "", "promised 5.1 yes 24=4"},
		{"again, when other slots have other values", ahead + "lock 5.1 deal 6; promise 5.1; lock 6.1 deal 0; promise 6.1; end 6.1 yes 0=9 1=9", "promise 5.1", "", "promised 5.1 yes 24=4"},
		{"none are told without Yes", ahead + "lock 4.1 deal 0; lock 5.1 deal 0 3", "promise 5.1", "", "promised 5.1 no"},
	})
	told := 0
	eachHouse(t, 76, eitherHouse, func(r *rand.Rand, h impl.House, w impl.Word) {
		for _, x := range append(known(h), workOf(w.Stamp, w.Try, 1, 0)) {
			ask := impl.Word{Kind: impl.WordPromise, From: impl.WordGate, To: h.Id, Stamp: x.Stamp, Try: x.Try}
			for _, y := range []impl.Word{ask, w} {
				is, words := impl.HouseHear(h, y)
				_, vals := impl.HouseKeeps(is)
				for _, one := range words {
					var want []impl.Pair
					if p, has := promiseByHand(is.Log, one.Stamp, one.Try); has && one.Kind == impl.WordPromised && one.Yes {
						want = inSlots(vals, p.Slots)
						told += min(len(want), 1)
					}
					plain := impl.Word{Kind: one.Kind, From: h.Id, To: impl.WordGate, Stamp: one.Stamp, Try: one.Try, Yes: one.Yes, Pairs: want}
					if !sameWord(one, plain) || one.Yes && one.Kind != impl.WordPromised {
						t.Errorf("it tells %#v", one)
					}
				}
			}
		}
		for _, one := range impl.HouseTend(h) {
			if !sameWord(one, impl.Word{Kind: impl.WordDoubt, From: h.Id, To: impl.WordGate, Stamp: one.Stamp, Try: one.Try}) {
				t.Errorf("it tells %#v", one)
			}
		}
	})
	if told < manyHouses/10 {
		t.Error("only so many told values:", told)
	}
}

// A house of three deals in its life: what it loses by a fall in their midst, and what it asks about then.
func TestPromise36ALifeWithFalls(t *testing.T) {
	h, _ := behind(impl.HouseStart(0), readWords(0, "lock 5.1 deal 0; promise 5.1; end 5.1 yes 1=8; lock 6.1 deal 0 3")...)
	for keep, want := range []string{
		"house 0 up; promise 5.1 deal 0; forced 1; slot 0 held 5.1 firm",
		"house 0 up; promise 5.1 deal 0; done 5.1 1=8; forced 2",
	} {
		is := impl.HouseRise(impl.HouseFall(h, keep))
		if tellHouse(is) != want {
			t.Error(strconv.Itoa(keep), tellHouse(is))
		}
	}
	// The promise forces what was written down ahead of it.
	h, words := behind(h, readWord(0, "promise 6.1"))
	is := impl.HouseRise(impl.HouseFall(h, -1))
	if tellWords(0, words) != "promised 6.1 yes 1=8" || tellHouse(is) != "house 0 up; promise 5.1 deal 0; done 5.1 1=8; promise 6.1 deal 0 3; forced 3; slot 0 held 6.1 firm; slot 3 held 6.1 firm" {
		t.Error(tellWords(0, words), tellHouse(is))
	}
	if is := tellWords(0, impl.HouseTend(is)); is != "doubt 6.1" {
		t.Error(is)
	}
}
