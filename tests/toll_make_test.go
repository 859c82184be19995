package tests

import (
	"math"
	"math/rand"
	"slices"
	"strings"
	"testing"

	"loop.example/turnpike/impl"
)

const manyWorlds = 800

func sameTollCall(a, b impl.TollCall) bool {
	return a.Call == b.Call && a.Begin == b.Begin && a.End == b.End && a.Over == b.Over && a.Code == b.Code && slices.Equal(a.Vals, b.Vals)
}

func sameWorld(a, b impl.TollWorld) bool {
	return a.Time == b.Time && sameGate(a.Gate, b.Gate) && slices.EqualFunc(a.Houses, b.Houses, sameHouse) &&
		sameWords(a.Radio, b.Radio) && slices.EqualFunc(a.Calls, b.Calls, sameTollCall)
}

func cloneTollCalls(calls []impl.TollCall) []impl.TollCall {
	calls = slices.Clone(calls)
	for i := range calls {
		calls[i].Vals = slices.Clone(calls[i].Vals)
	}
	return calls
}

func cloneWorld(w impl.TollWorld) impl.TollWorld {
	w.Gate, w.Houses, w.Radio, w.Calls = cloneGate(w.Gate), slices.Clone(w.Houses), slices.Clone(w.Radio), cloneTollCalls(w.Calls)
	for i := range w.Houses {
		w.Houses[i] = cloneHouse(w.Houses[i])
	}
	for i := range w.Radio {
		w.Radio[i] = cloneWord(w.Radio[i])
	}
	return w
}

// worldWith is the world, changed in memory of its own.
func worldWith(w impl.TollWorld, change func(w *impl.TollWorld)) impl.TollWorld {
	w = cloneWorld(w)
	change(&w)
	return w
}

// Calls of clients: one that waits, one that was given up, and one that was answered.

func waitsCall(c impl.Call, begin int) impl.TollCall {
	return impl.TollCall{Call: c, Begin: begin}
}

func overCall(c impl.Call, begin int) impl.TollCall {
	return impl.TollCall{Call: c, Begin: begin, Over: true}
}

func endedCall(c impl.Call, begin, end, code int, vals ...int) impl.TollCall {
	return impl.TollCall{Call: c, Begin: begin, End: end, Code: code, Vals: vals}
}

// someCalls are in form up to 40, and at many edges of that.
func someCalls() []impl.TollCall {
	return []impl.TollCall{
		endedCall(dealCall(0, 1, "get 1;get 2;"), 1, 4, 0, 5, -5),
		overCall(dealCall(1, 1, "put 1 5;"), 3),
		overCall(moveCall(0, 2, 3, 1), 5),
		endedCall(dealCall(2, 1, "what"), 6, 40, impl.CodeBad),
		endedCall(moveCall(0, 3, 7, 2), 7, 12, impl.CodeSame),
		endedCall(dealCall(1, 2, "get 31;"), 8, 9, 0, 0),
		waitsCall(dealCall(0, 4, "add 0 1;"), 13),
		waitsCall(dealCall(1, 3, ""), 40),
	}
}

// someWorld is ok; each case of worldsNotOk spoils one thing of it.
func someWorld() impl.TollWorld {
	w := impl.TollWorld{Time: 40, Gate: someGate(), Calls: someCalls()}
	w.Houses = []impl.House{someHouse(), impl.HouseFall(impl.HouseStart(1), 0), standing(2, promiseRec(8, 1, impl.WhatDeal, 2, 5))}
	w.Radio = []impl.Word{someWord(), askWord(dealCall(0, 4, "add 0 1;")), someWord(), houseWord(impl.WordLocked, 2, 8, 1)}
	return w
}

// manyCalls are so many, of all sessions in turn, that began one behind the other and ended soon.
func manyCalls(many int) []impl.TollCall {
	var list []impl.TollCall
	for i := range many {
		list = append(list, endedCall(dealCall(i%3, 1+i/3, "get 0;"), 1+i, 3+i, 0, 0))
	}
	return list
}

// spoiltWorld is a world that is not ok, for one reason alone.
type spoiltWorld struct {
	reason string
	world  impl.TollWorld
}

type spoilWorld func(reason string, change func(w *impl.TollWorld))

func worldsNotOk() []spoiltWorld {
	var list []spoiltWorld
	spoil := func(reason string, change func(w *impl.TollWorld)) {
		list = append(list, spoiltWorld{reason, worldWith(someWorld(), change)})
	}
	for _, time := range []int{math.MinInt, -40, -1, 100000, 100001, math.MaxInt} {
		spoil("time", func(w *impl.TollWorld) { w.Time, w.Calls = time, nil })
		list = append(list, spoiltWorld{"time", worldWith(impl.TollStart(), func(w *impl.TollWorld) { w.Time = time })})
	}
	for _, x := range gatesNotOk() {
		spoil("gate", func(w *impl.TollWorld) { w.Gate = x.gate })
	}
	partsNotOk(spoil)
	asksNotOk(spoil)
	timesNotOk(spoil)
	answersNotOk(spoil)
	return list
}

// partsNotOk spoils houses, words, and how many there are of each.
func partsNotOk(spoil spoilWorld) {
	for many := range 3 {
		spoil("houses", func(w *impl.TollWorld) { w.Houses = w.Houses[:many] })
		spoil("houses", func(w *impl.TollWorld) { w.Houses = w.Houses[3-many:] })
	}
	for id := range 3 {
		spoil("houses", func(w *impl.TollWorld) { w.Houses = append(w.Houses, w.Houses[id]) })
		spoil("houses", func(w *impl.TollWorld) { w.Houses = slices.Delete(w.Houses, id, id+1) })
		spoil("house", func(w *impl.TollWorld) { w.Houses[id] = w.Houses[(id+1)%3] })
		spoil("house", func(w *impl.TollWorld) { w.Houses[id] = w.Houses[(id+2)%3] })
		spoil("house", func(w *impl.TollWorld) { w.Houses[id] = impl.House{} })
		spoil("house", func(w *impl.TollWorld) { w.Houses[id] = impl.House{Id: id} })
		for _, forced := range []int{-1, 9} {
			spoil("house", func(w *impl.TollWorld) { w.Houses[id].Forced = forced })
		}
	}
	for _, x := range housesNotOk() {
		spoil("house", func(w *impl.TollWorld) { w.Houses[0] = x.house })
	}
	for _, places := range [][3]int{{1, 0, 2}, {0, 2, 1}, {2, 1, 0}, {1, 2, 0}, {2, 0, 1}, {0, 0, 0}} {
		spoil("house", func(w *impl.TollWorld) { w.Houses = inPlaces(w.Houses, places) })
	}
	spoil("radio", func(w *impl.TollWorld) { w.Radio = slices.Repeat([]impl.Word{someWord()}, 61) })
	spoil("radio", func(w *impl.TollWorld) { w.Radio = slices.Repeat([]impl.Word{someWord()}, 1000) })
	for i, x := range wordsNotOk() {
		spoil("word", func(w *impl.TollWorld) { w.Radio[i%4] = x.word })
	}
	spoil("word", func(w *impl.TollWorld) {
		w.Radio = slices.Repeat([]impl.Word{someWord()}, 60)
		w.Radio[59] = impl.Word{}
	})
}

func inPlaces(houses []impl.House, places [3]int) []impl.House {
	var list []impl.House
	for _, place := range places {
		list = append(list, houses[place])
	}
	return list
}

// lastOfSessions are the places in someCalls of each session's last call, which no number behind hangs on.
var lastOfSessions = []int{6, 7, 3}

// asksNotOk spoils what clients ask for.
func asksNotOk(spoil spoilWorld) {
	spoil("calls", func(w *impl.TollWorld) { w.Calls = manyCalls(19) })
	spoil("calls", func(w *impl.TollWorld) { w.Time, w.Calls = 99999, manyCalls(1000) })
	for _, session := range noSessions {
		spoil("session", func(w *impl.TollWorld) {
			w.Calls = []impl.TollCall{waitsCall(dealCall(session, 1, "get 0;"), 1)}
		})
		spoil("session", func(w *impl.TollWorld) {
			w.Calls = append(manyCalls(17), overCall(dealCall(session, 1, "get 0;"), 18))
		})
	}
	for _, place := range lastOfSessions {
		c := someCalls()[place].Call
		for _, number := range []int{math.MinInt, -1, 0, c.Number - 1, c.Number + 1, c.Number + 2, 99, 100, 9999, 10000, math.MaxInt} {
			spoil("number", func(w *impl.TollWorld) { w.Calls[place].Call.Number = number })
		}
	}
	// The number counts the calls of the session alone, not all that stand ahead.
	spoil("number", func(w *impl.TollWorld) { w.Calls[3].Call.Number = 4 })
	spoil("number", func(w *impl.TollWorld) { w.Calls[0].Call.Number, w.Calls[2].Call.Number = 2, 1 })
	for place := range someCalls() {
		for _, number := range []int{math.MinInt, -2, -1, 10000, 10001, math.MaxInt} {
			spoil("asked", func(w *impl.TollWorld) { w.Calls[place].Call.Kind = number })
			spoil("asked", func(w *impl.TollWorld) { w.Calls[place].Call.Slot = number })
			spoil("asked", func(w *impl.TollWorld) { w.Calls[place].Call.To = number })
		}
		for _, text := range []string{strings.Repeat("a", 81), strings.Repeat("\xff", 81), strings.Repeat("ü", 41), strings.Repeat("get 0;", 1000)} {
			spoil("asked", func(w *impl.TollWorld) { w.Calls[place].Call.Text = text })
		}
	}
}

// timesNotOk spoils when calls began, and which calls they meet.
func timesNotOk(spoil spoilWorld) {
	spoil("order", func(w *impl.TollWorld) { w.Calls[1].Begin = 1 })
	spoil("order", func(w *impl.TollWorld) { w.Calls[1].Begin = 5 })
	spoil("order", func(w *impl.TollWorld) { w.Calls[1].Begin = 6 })
	spoil("order", func(w *impl.TollWorld) { w.Calls[6].Begin = 40 })
	spoil("order", func(w *impl.TollWorld) {
		w.Calls = []impl.TollCall{waitsCall(dealCall(0, 1, ""), 2), waitsCall(dealCall(1, 1, ""), 1)}
	})
	for _, begin := range []int{math.MinInt, -1, 0} {
		spoil("begin", func(w *impl.TollWorld) { w.Calls[0].Begin = begin })
		spoil("begin", func(w *impl.TollWorld) { w.Calls = []impl.TollCall{waitsCall(dealCall(0, 1, ""), begin)} })
	}
	for _, begin := range []int{41, 42, 99999, math.MaxInt} {
		spoil("begin", func(w *impl.TollWorld) { w.Calls[7].Begin = begin })
		spoil("begin", func(w *impl.TollWorld) { w.Calls = []impl.TollCall{overCall(dealCall(0, 1, ""), begin)} })
	}
	spoil("begin", func(w *impl.TollWorld) { w.Time, w.Calls = 0, []impl.TollCall{waitsCall(dealCall(0, 1, ""), 1)} })
	spoil("begin", func(w *impl.TollWorld) {
		w.Time, w.Calls = 99999, []impl.TollCall{waitsCall(dealCall(0, 1, ""), 100000)}
	})
	// Session 0 had its calls from 1, 5, 7 and 13 on, session 1 from 3, 8 and 40 on.
	spoil("busy", func(w *impl.TollWorld) { w.Calls[0].End = 5 })
	spoil("busy", func(w *impl.TollWorld) { w.Calls[0].End, w.Calls[0].Code, w.Calls[0].Vals = 0, 0, nil })
	spoil("busy", func(w *impl.TollWorld) { w.Calls[1].Over = false })
	spoil("busy", func(w *impl.TollWorld) { w.Calls[2].Over = false })
	for _, end := range []int{13, 14, 40} {
		spoil("busy", func(w *impl.TollWorld) { w.Calls[4].End = end })
	}
	for _, end := range []int{40} {
		spoil("busy", func(w *impl.TollWorld) { w.Calls[5].End = end })
	}
	// The call that is in the way need not be the one just ahead of the session.
	for _, end := range []int{7, 8, 12, 39} {
		spoil("busy", func(w *impl.TollWorld) { w.Calls[2].Over, w.Calls[2].End = false, end })
	}
	for _, end := range []int{6, 20} {
		spoil("busy", func(w *impl.TollWorld) { w.Calls[0].End = end })
	}
	// Nor need any other one stand between.
	spoil("busy", func(w *impl.TollWorld) {
		w.Calls = []impl.TollCall{waitsCall(dealCall(2, 1, ""), 1), waitsCall(dealCall(2, 2, ""), 40)}
	})
	spoil("busy", func(w *impl.TollWorld) {
		w.Calls = []impl.TollCall{endedCall(dealCall(2, 1, ""), 1, 2, 9), overCall(dealCall(2, 2, ""), 2)}
	})
}

// answersNotOk spoils how calls ended, and what was answered.
func answersNotOk(spoil spoilWorld) {
	for _, end := range []int{math.MinInt, -1, 1, 5, 6, 41, 42, 99999, math.MaxInt} {
		spoil("end", func(w *impl.TollWorld) { w.Calls[3].End = end })
	}
	for _, place := range []int{6, 7} {
		for _, end := range []int{math.MinInt, -1, 1, beginOfSome(place), 41, math.MaxInt} {
			spoil("end", func(w *impl.TollWorld) { w.Calls[place].End = end })
		}
	}
	spoil("end", func(w *impl.TollWorld) { w.Calls[5].End = 8 })
	spoil("given up", func(w *impl.TollWorld) { w.Calls[1].End = 4 })
	for _, place := range []int{0, 3, 4, 5} {
		spoil("given up", func(w *impl.TollWorld) { w.Calls[place].Over = true })
		for _, code := range []int{math.MinInt, -1, 10, 11, math.MaxInt} {
			spoil("answer", func(w *impl.TollWorld) { w.Calls[place].Code = code })
		}
		for _, vals := range [][]int{make([]int, 7), make([]int, 100), {10000}, {-10000}, {0, 1, math.MinInt}, {math.MaxInt, 1}, {1, 2, 3, 4, 5, 10000}} {
			spoil("answer", func(w *impl.TollWorld) { w.Calls[place].Vals = vals })
		}
	}
	for _, place := range []int{1, 2, 6, 7} {
		for _, code := range []int{math.MinInt, -1, 1, 9, 10} {
			spoil("answer", func(w *impl.TollWorld) { w.Calls[place].Code = code })
		}
		for _, vals := range [][]int{{0}, {5}, {1, 2, 3, 4, 5, 6}, make([]int, 7), {10000}} {
			spoil("answer", func(w *impl.TollWorld) { w.Calls[place].Vals = vals })
		}
	}
}

// beginOfSome is when a call of someCalls began.
func beginOfSome(place int) int {
	return someCalls()[place].Begin
}

// makeTollCalls tells any calls that are in form up to a time, also such as no world would have answered so.
func makeTollCalls(r *rand.Rand, time int) []impl.TollCall {
	var list []impl.TollCall
	var numbers, free [3]int
	for begin := 1 + r.Intn(3); begin <= time && len(list) < r.Intn(60); begin += 1 + r.Intn(4) {
		session := r.Intn(3)
		if begin <= free[session] {
			continue
		}
		numbers[session]++
		x := impl.TollCall{Call: makeAsk(r, session, numbers[session]), Begin: begin}
		if r.Intn(8) == 0 {
			x.Call = makeWord(r).Call
			x.Call.Session, x.Call.Number = session, numbers[session]
		}
		switch r.Intn(4) {
		case 0:
			x.Over = true
		case 1:
			free[session] = math.MaxInt
		default:
			x.End = min(begin+1+r.Intn(6), time)
			if x.End <= begin {
				x.End, free[session] = 0, math.MaxInt
				break
			}
			free[session] = x.End
			said := makeSaid(r, session)
			x.Code, x.Vals = said.Code, said.Vals
		}
		list = append(list, x)
	}
	return list[:min(len(list), 18)]
}

// makeHouseOf tells any house that is ok, of this place.
func makeHouseOf(r *rand.Rand, id int) impl.House {
	for {
		if h := eitherHouse(r); h.Id == id {
			return h
		}
	}
}

// makeWorld tells any world that is ok, also such as nothing leads to: its parts have nothing to do with each other.
func makeWorld(r *rand.Rand) impl.TollWorld {
	w := impl.TollWorld{Time: []int{0, 1, 5, 20, 60, 60, 60, 1000, 99999}[r.Intn(9)], Gate: eitherGate(r)}
	for id := range 3 {
		w.Houses = append(w.Houses, makeHouseOf(r, id))
	}
	for range []int{0, 1, 2, 5, 20, 60}[r.Intn(6)] {
		w.Radio = append(w.Radio, makeWord(r))
	}
	w.Calls = makeTollCalls(r, w.Time)
	return w
}

// eachWorld asks of many worlds; what is handed in must stay.
func eachWorld(t *testing.T, seed int64, make func(r *rand.Rand) impl.TollWorld, look func(r *rand.Rand, w impl.TollWorld)) {
	t.Helper()
	r := rand.New(rand.NewSource(seed))
	for range manyWorlds {
		w := make(r)
		kept := cloneWorld(w)
		look(r, w)
		if !sameWorld(w, kept) {
			t.Error("an argument was changed")
		}
		if t.Failed() {
			t.Fatalf("world %.5000s", tellWorld(kept))
		}
	}
}
