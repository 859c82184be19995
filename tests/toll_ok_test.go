package tests

import (
	"math"
	"math/rand"
	"slices"
	"strings"
	"testing"

	"loop.example/turnpike/impl"
)

// The document's own numbers, so that a name that has another one is seen.
func TestTollNames(t *testing.T) {
	if limits := []int{impl.TollMaxRadio, impl.TollMaxCalls, impl.TollMaxTime, impl.TollMaxCalm, impl.TollMaxPlay}; !slices.Equal(limits, []int{60, 18, 99999, 40, 2000}) {
		t.Error(limits)
	}
}

func TestPromise65AtFirst(t *testing.T) {
	w := impl.TollStart()
	if w.Time != 0 || len(w.Radio)+len(w.Calls) != 0 {
		t.Error(w.Time, w.Radio, w.Calls)
	}
	if !sameGate(w.Gate, impl.Gate{Up: true, Life: 1, Next: 1}) || len(impl.GateTend(w.Gate)) != 0 {
		t.Error(tellGate(w.Gate))
	}
	if len(w.Houses) != 3 {
		t.Fatal(w.Houses)
	}
	keeps := [][]int{{0, 3, 6}, {1, 4, 7}, {2, 5}}
	for id, h := range w.Houses {
		if !sameHouse(h, impl.House{Id: id, Up: true, Locks: freeLocks()}) || len(impl.HouseTend(h))+len(impl.HouseOpen(h)) != 0 {
			t.Error(tellHouse(h))
		}
		if slots, vals := impl.HouseKeeps(h); !slices.Equal(slots, keeps[id]) || len(vals) != 0 {
			t.Error(id, slots, vals)
		}
		for slot, l := range h.Locks {
			if l.Slot != slot || len(l.Held)+len(l.Waits) != 0 {
				t.Error(id, l)
			}
		}
	}
	if !impl.TollOk(w) || !worldOkByHand(w) {
		t.Error("not ok")
	}
}

func TestPromise65WorldsNotOk(t *testing.T) {
	if w := someWorld(); !impl.TollOk(w) || !worldOkByHand(w) {
		t.Fatal("not ok:", worldFaultsByHand(w))
	}
	seen := map[string]int{}
	for i, x := range worldsNotOk() {
		seen[x.reason]++
		kept := cloneWorld(x.world)
		if impl.TollOk(x.world) {
			t.Errorf("%d: %s: ok", i, x.reason)
		}
		if faults := worldFaultsByHand(x.world); !slices.Equal(faults, faultList{x.reason}) {
			t.Errorf("%d: %s: has %v", i, x.reason, faults)
		}
		if !sameWorld(x.world, kept) {
			t.Errorf("%d: %s: an argument was changed", i, x.reason)
		}
	}
	for _, reason := range []string{"time", "gate", "houses", "house", "radio", "word", "calls", "session", "number", "asked", "order", "begin", "busy", "end", "given up", "answer"} {
		if seen[reason] == 0 {
			t.Error("none for", reason)
		}
	}
	for _, w := range []impl.TollWorld{{}, {Time: 1}, {Gate: impl.GateStart()}, {Houses: impl.TollStart().Houses}} {
		if impl.TollOk(w) {
			t.Errorf("ok %v", w)
		}
	}
}

// worldsAtEdges are ok, at all that the document bounds.
func worldsAtEdges() []impl.TollWorld {
	var list []impl.TollWorld
	add := func(change func(w *impl.TollWorld)) {
		list = append(list, worldWith(someWorld(), change))
	}
	for _, time := range []int{0, 1, 99998, 99999} {
		add(func(w *impl.TollWorld) { w.Time, w.Calls = time, nil })
		list = append(list, worldWith(impl.TollStart(), func(w *impl.TollWorld) { w.Time = time }))
	}
	add(func(w *impl.TollWorld) { w.Gate = impl.GateFall(w.Gate) })
	for id := range 3 {
		add(func(w *impl.TollWorld) { w.Houses[id] = impl.HouseStart(id) })
		add(func(w *impl.TollWorld) { w.Houses[id] = impl.HouseFall(w.Houses[id], 0) })
	}
	for _, many := range []int{0, 1, 59, 60} {
		add(func(w *impl.TollWorld) { w.Radio = slices.Repeat([]impl.Word{someWord()}, many) })
	}
	add(func(w *impl.TollWorld) { w.Radio = baseWords() })
	for _, many := range []int{1, 17, 18} {
		add(func(w *impl.TollWorld) { w.Calls = manyCalls(many) })
	}
	add(func(w *impl.TollWorld) { w.Time = 99999 })
	return append(list, callsAtEdges()...)
}

// callsAtEdges are worlds with calls that are in form.
func callsAtEdges() []impl.TollWorld {
	var list []impl.TollWorld
	calls := func(time int, calls ...impl.TollCall) {
		list = append(list, worldWith(impl.TollStart(), func(w *impl.TollWorld) { w.Time, w.Calls = time, calls }))
	}
	get := func(session, number int) impl.Call { return dealCall(session, number, "get 0;") }
	for session := range 3 {
		calls(1, waitsCall(get(session, 1), 1))
		calls(1, overCall(get(session, 1), 1))
		calls(99999, waitsCall(get(session, 1), 1))
		calls(99999, waitsCall(get(session, 1), 99999))
		calls(99999, endedCall(get(session, 1), 1, 99999, 9))
		calls(99999, endedCall(get(session, 1), 99998, 99999, 0, 9999, -9999, 0, 1, 2, 3))
		calls(2, endedCall(get(session, 1), 1, 2, 0))
		calls(3, endedCall(get(session, 1), 1, 2, 0), waitsCall(get(session, 2), 3))
		calls(3, overCall(get(session, 1), 2), overCall(get(session, 2), 3))
		calls(9, overCall(get(session, 1), 1), endedCall(get(session, 2), 2, 9, 1))
		other := (session + 1) % 3
		calls(9, waitsCall(get(other, 1), 1), endedCall(get(session, 1), 2, 5, 0), waitsCall(get(session, 2), 6))
		calls(9, endedCall(get(session, 1), 1, 5, 0), waitsCall(get(other, 1), 5), endedCall(get(session, 2), 6, 7, 0), waitsCall(get(session, 3), 8))
	}
	var six []impl.TollCall
	for i := range 18 {
		six = append(six, overCall(get(2, 1+i), 1+i))
	}
	calls(18, six...)
	// A call need not be ok.
	for _, c := range []impl.Call{{}, {Kind: 9999, Slot: 9999, To: 9999, Text: strings.Repeat("\xff", 80)}, {Kind: 3}, {Text: strings.Repeat("\n", 80)}, {Text: strings.Repeat("ü", 40), Slot: 8}, {Kind: 2, To: 3, Text: "\x00"}} {
		c.Session, c.Number = 1, 1
		calls(1, waitsCall(c, 1))
		calls(1, overCall(c, 1))
		calls(2, endedCall(c, 1, 2, 9))
	}
	for code := range 10 {
		calls(2, endedCall(get(0, 1), 1, 2, code, 1, -1))
	}
	return list
}

func TestPromise65WorldsThatAreOk(t *testing.T) {
	for i, w := range worldsAtEdges() {
		kept := cloneWorld(w)
		if !impl.TollOk(w) || !worldOkByHand(w) {
			t.Errorf("%d: %v: %s", i, worldFaultsByHand(w), tellWorld(w))
		}
		if !sameWorld(w, kept) {
			t.Error(i, "an argument was changed")
		}
	}
}

// spoilWorldOnce changes one thing of a world, in memory of its own; it may be ok still.
func spoilWorldOnce(r *rand.Rand, w impl.TollWorld) impl.TollWorld {
	w = cloneWorld(w)
	if len(w.Calls) > 0 && r.Intn(4) > 0 {
		i := r.Intn(len(w.Calls))
		spoilTollCall(r, &w.Calls[i])
		return w
	}
	switch r.Intn(8) {
	case 0:
		w.Time += r.Intn(9) - 4
	case 1:
		w.Time = []int{-1, 0, 99999, 100000}[r.Intn(4)]
	case 2:
		w.Gate = spoilGateOnce(r, w.Gate)
	case 3:
		id := r.Intn(3)
		w.Houses[id].Forced += r.Intn(5) - 2
	case 4:
		w.Houses[r.Intn(3)] = w.Houses[r.Intn(3)]
	case 5:
		w.Radio = append(w.Radio, spoilWord(r, makeWord(r)))
	case 6:
		w.Radio = append(w.Radio, makeWord(r))
	default:
		if len(w.Calls) > 0 {
			i := r.Intn(len(w.Calls))
			w.Calls = slices.Delete(w.Calls, i, i+1)
		}
	}
	return w
}

func spoilTollCall(r *rand.Rand, x *impl.TollCall) {
	number := []int{-1, 0, 1, 9, 10, 9999, 10000}[r.Intn(7)]
	switch r.Intn(10) {
	case 0:
		x.Begin += r.Intn(7) - 3
	case 1, 2:
		x.End += r.Intn(7) - 3
	case 3:
		x.End = []int{0, x.Begin, x.Begin + 1, x.Begin + 4}[r.Intn(4)]
	case 4:
		x.Over = !x.Over
	case 5:
		x.Code = number
	case 6:
		x.Vals = append(x.Vals, number)
	case 7:
		x.Call.Number += r.Intn(3) - 1
	case 8:
		x.Call.Session = r.Intn(5) - 1
	default:
		*[]*int{&x.Call.Kind, &x.Call.Slot, &x.Call.To}[r.Intn(3)] = number
	}
}

func TestPromise65AnyWorlds(t *testing.T) {
	seen, reasons := map[bool]int{}, map[string]int{}
	eachWorld(t, 121, makeWorld, func(r *rand.Rand, w impl.TollWorld) {
		if !impl.TollOk(w) || !worldOkByHand(w) {
			t.Error("not ok:", worldFaultsByHand(w))
		}
		for range 3 {
			spoilt := spoilWorldOnce(r, w)
			faults := worldFaultsByHand(spoilt)
			seen[len(faults) == 0]++
			for _, fault := range faults {
				reasons[fault]++
			}
			if impl.TollOk(spoilt) != (len(faults) == 0) {
				t.Errorf("by hand %v of %.5000s", faults, tellWorld(spoilt))
			}
		}
	})
	if seen[true] < manyWorlds/4 || seen[false] < manyWorlds/4 || len(reasons) < 13 {
		t.Error("too few of a kind:", seen, reasons)
	}
}

// What is too long, or beside all bounds at once, is answered as well.
func TestPromise65WorldsOfNobody(t *testing.T) {
	far := impl.TollCall{Call: impl.Call{Session: math.MinInt, Number: math.MaxInt, Kind: math.MinInt, Slot: math.MaxInt, To: math.MinInt}, Begin: math.MaxInt, End: math.MinInt, Code: math.MinInt, Vals: []int{math.MinInt}}
	w := impl.TollWorld{Time: math.MaxInt, Calls: []impl.TollCall{far, far, {}, far}, Houses: make([]impl.House, 3), Radio: make([]impl.Word, 60)}
	if impl.TollOk(w) {
		t.Error("ok")
	}
	w.Calls, w.Houses, w.Radio = slices.Repeat(w.Calls, 25000), slices.Repeat(w.Houses, 30000), slices.Repeat(w.Radio, 2000)
	if impl.TollOk(w) {
		t.Error("ok")
	}
}
