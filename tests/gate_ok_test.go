package tests

import (
	"math/rand"
	"slices"
	"testing"

	"loop.example/turnpike/impl"
)

// The document's own numbers, so that a name that has another one is seen.
func TestGateNames(t *testing.T) {
	if limits := []int{impl.GateWays, impl.GateMaxLife}; !slices.Equal(limits, []int{2, 99}) {
		t.Error(limits)
	}
}

func TestPromise55GateStart(t *testing.T) {
	g := impl.GateStart()
	if !sameGate(g, impl.Gate{Up: true, Life: 1, Next: 1}) || !impl.GateOk(g) {
		t.Error(g)
	}
	if len(impl.GateCalls(g))+len(impl.GateTend(g)) != 0 || !sameMap(impl.GateMap(g), impl.MapStart()) {
		t.Error(impl.GateCalls(g), impl.GateTend(g), impl.GateMap(g))
	}
}

// isNoGate says whether all functions answer nothing of a gate that is not ok.
func isNoGate(g impl.Gate) bool {
	if impl.GateOk(g) || len(impl.GateCalls(g))+len(impl.GateTend(g)) > 0 || !sameMap(impl.GateMap(g), impl.Map{}) {
		return false
	}
	if !sameGate(impl.GateFall(g), impl.Gate{}) || !sameGate(impl.GateRise(g), impl.Gate{}) {
		return false
	}
	for _, text := range []string{"ask 0.1 get 0;", "ask 1.50 get 0;", "ask 2.2 what", "locked 1 5.2", "promised 1 11.1 yes", "taken 0 5.2", "doubt 2 4.1", "doubt 0 19.1"} {
		if is, words := impl.GateHear(g, readGateWord(text)); !sameGate(is, impl.Gate{}) || len(words) > 0 {
			return false
		}
	}
	is, words := impl.GateHear(g, impl.Word{})
	return sameGate(is, impl.Gate{}) && len(words) == 0
}

func TestPromise50GatesNotOk(t *testing.T) {
	if !impl.GateOk(someGate()) || !gateOkByHand(someGate()) {
		t.Fatal("not ok:", tellGate(someGate()))
	}
	for i, x := range gatesNotOk() {
		kept := cloneGate(x.gate)
		if !isNoGate(x.gate) || gateOkByHand(x.gate) {
			t.Errorf("%d: %s: %+v", i, x.reason, kept)
		}
		if !sameGate(x.gate, kept) {
			t.Errorf("%d: %s: an argument was changed", i, x.reason)
		}
	}
}

// gatesAtEdges are ok, at all that the document bounds.
func gatesAtEdges() []impl.Gate {
	down := func(life, next int, log ...impl.Record) impl.Gate { return impl.Gate{Life: life, Next: next, Log: log} }
	up := func(life, next int, log ...impl.Record) impl.Gate {
		return impl.Gate{Up: true, Life: life, Next: next, Log: log}
	}
	rec := func(stamp, try int, c impl.Call, code int) impl.Record {
		return impl.Record{Stamp: stamp, Try: try, Call: c, Code: code}
	}
	get := dealCall(0, 1, "get 0;")
	list := []impl.Gate{
		up(1, 1), up(99, 1), up(1, 9999), down(1, 1), down(99, 9999), down(99, 1),
		up(1, 2, rec(1, 1, get, 0)), up(1, 9999, rec(9998, 9999, get, 9)), down(1, 3, rec(2, 1, get, 1), rec(1, 1, dealCall(1, 1, "get 0;"), 2)),
		up(1, 3, rec(2, 1, get, 0), rec(1, 1, dealCall(0, 99, "get 0;"), 0)), up(1, 2, rec(1, 1, dealCall(2, 99, "get 0;"), 0)),
		gateBehind(manyRecords(60)...), gateWith(gateBehind(manyRecords(60)...), func(g *impl.Gate) { g.Up = false }),
		// What was written down of a move need not be what would come of it.
		up(1, 4, rec(1, 1, moveCall(0, 1, 0, 0), 0), rec(2, 1, moveCall(0, 2, 0, 1), 3), rec(3, 1, moveCall(0, 3, 0, 1), 9)),
	}
	full := rec(1, 1, get, 0)
	full.Vals, full.Pairs = []int{9999, -9999, 0, 1, 2, 3}, everyKey(-9999)
	return append(list, up(1, 2, full), gateWith(someGate(), func(g *impl.Gate) { g.Ways = nil }), gateWith(someGate(), func(g *impl.Gate) { g.Log = nil }))
}

// livesAtEdges are ok likewise.
func livesAtEdges() []impl.Gate {
	var list []impl.Gate
	live := func(change func(l *impl.Live)) {
		l := impl.Live{Stamp: 1, Try: 1, Version: 1, Phase: 2, Call: dealCall(0, 1, "get 0;")}
		change(&l)
		list = append(list, impl.Gate{Up: true, Life: 1, Next: 9999, Lives: []impl.Live{l}})
	}
	for phase := range 3 {
		live(func(l *impl.Live) { l.Phase = phase })
		live(func(l *impl.Live) { l.Stamp, l.Try, l.Version, l.Phase = 9998, 9999, 99, phase })
	}
	live(func(l *impl.Live) { l.Call = moveCall(2, 99, 7, 2) })
	live(func(l *impl.Live) { l.Phase, l.Locked = 1, []int{0, 1, 2} })
	live(func(l *impl.Live) { l.Locked = []int{0, 1, 2} })
	live(func(l *impl.Live) {
		l.Told = []impl.Told{{House: 0, Pairs: everyKey(9999)}, {House: 1, Pairs: everyKey(0)}, {House: 2}}
	})
	three := impl.Gate{Up: true, Life: 1, Next: 4}
	for i := range 3 {
		three.Lives = append(three.Lives, impl.Live{Stamp: i + 1, Try: 1, Version: 1, Phase: 1, Call: dealCall(2-i, 1, "get 0;")})
	}
	for _, both := range [][2]int{{1, 2}, {1, 3}, {2, 3}} {
		list = append(list, gateWith(three, func(g *impl.Gate) {
			for house := range 3 {
				g.Ways = append(g.Ways, impl.Way{House: house, Stamp: both[0]}, impl.Way{House: house, Stamp: both[1]})
			}
		}))
	}
	// Lives may stand behind a full log; they are just not written down.
	return append(list, three, gateWith(gateBehind(manyRecords(60)...), func(g *impl.Gate) {
		g.Next = 62
		g.Lives = []impl.Live{{Stamp: 61, Try: 1, Version: 1, Call: dealCall(0, 21, "get 0;")}}
	}))
}

func TestPromise50GatesThatAreOk(t *testing.T) {
	for i, g := range slices.Concat(gatesAtEdges(), livesAtEdges()) {
		kept := cloneGate(g)
		if !impl.GateOk(g) || !gateOkByHand(g) {
			t.Error(i, tellGate(g))
		}
		if !sameGate(g, kept) {
			t.Error(i, "an argument was changed")
		}
	}
}

// spoilGateOnce changes one thing of a gate, in memory of its own; it may be ok still.
func spoilGateOnce(r *rand.Rand, g impl.Gate) impl.Gate {
	g = cloneGate(g)
	number := []int{-1, 0, 1, 2, 3, 9999, 10000}[r.Intn(7)]
	one := func(many int) int { return r.Intn(max(many, 1)) }
	if i := one(len(g.Log)); i < len(g.Log) && r.Intn(3) == 0 {
		return spoilRecord(r, g, i, number)
	}
	if i := one(len(g.Lives)); i < len(g.Lives) && r.Intn(2) == 0 {
		return spoilLive(r, g, i, number)
	}
	switch r.Intn(6) {
	case 0:
		g.Life = []int{0, 1, 99, 100}[r.Intn(4)]
	case 1:
		g.Next = max(g.Next-1-r.Intn(9), 0)
	case 2:
		g.Up = !g.Up
	case 3:
		g.Ways = slices.Insert(g.Ways, one(len(g.Ways)), impl.Way{House: r.Intn(5) - 1, Stamp: 1 + r.Intn(12)})
	case 4:
		slices.Reverse(g.Ways)
	default:
		slices.Reverse(g.Log)
	}
	return g
}

func spoilRecord(r *rand.Rand, g impl.Gate, i, number int) impl.Gate {
	rec := &g.Log[i]
	switch r.Intn(6) {
	case 0:
		rec.Stamp = 1 + r.Intn(g.Next+1)
	case 1:
		rec.Try = number
	case 2:
		rec.Call.Number += r.Intn(5) - 2
	case 3:
		rec.Code = number
	case 4:
		rec.Pairs = append(rec.Pairs, impl.Pair{Key: 31, Val: number})
	default:
		rec.Vals = append(rec.Vals, number)
	}
	return g
}

func spoilLive(r *rand.Rand, g impl.Gate, i, number int) impl.Gate {
	l := &g.Lives[i]
	switch r.Intn(8) {
	case 0:
		l.Stamp = 1 + r.Intn(g.Next+1)
	case 1:
		l.Try = number
	case 2:
		l.Version = number
	case 3:
		l.Phase = r.Intn(5) - 1
	case 4:
		l.Call.Number += r.Intn(5) - 2
	case 5:
		l.Call.Session = r.Intn(4)
	case 6:
		l.Locked = append(l.Locked, r.Intn(4))
	default:
		l.Told = append(l.Told, impl.Told{House: r.Intn(4)})
	}
	return g
}

func TestPromise50AnyGates(t *testing.T) {
	seen := map[bool]int{}
	eachGate(t, 91, eitherGate, func(r *rand.Rand, g impl.Gate, w impl.Word) {
		if !impl.GateOk(g) || !gateOkByHand(g) {
			t.Error("not ok")
		}
		for range 3 {
			spoilt := spoilGateOnce(r, g)
			want := gateOkByHand(spoilt)
			seen[want]++
			if impl.GateOk(spoilt) != want || !want && !isNoGate(spoilt) {
				t.Errorf("ok %v of %+v", !want, spoilt)
			}
		}
	})
	if seen[true] < manyGates/10 || seen[false] < manyGates/10 {
		t.Error("too few of a kind:", seen)
	}
}

// mapCase is what was written down, and the map by that.
type mapCase struct {
	name    string
	log     []impl.Record
	version int
	owners  []int
}

func mapCases() []mapCase {
	var list []mapCase
	number := 0
	wrote := func(code int, c impl.Call) impl.Record {
		number++
		c.Session, c.Number = 0, number
		return impl.Record{Stamp: 100 - number, Try: 1, Call: c, Code: code}
	}
	add := func(name string, version int, owners []int, log ...impl.Record) {
		list = append(list, mapCase{name, log, version, owners})
	}
	add("nothing", 1, []int{0, 1, 2, 0, 1, 2, 0, 1})
	add("a deal", 1, []int{0, 1, 2, 0, 1, 2, 0, 1}, wrote(0, dealCall(0, 0, "put 0 1;")))
	add("a move", 2, []int{0, 1, 2, 1, 1, 2, 0, 1}, wrote(0, moveCall(0, 0, 3, 1)))
	add("moves, of the first slot and the last one", 3, []int{2, 1, 2, 0, 1, 2, 0, 0}, wrote(0, moveCall(0, 0, 0, 2)), wrote(0, moveCall(0, 0, 7, 0)))
	add("a slot that moves twice", 3, []int{0, 1, 2, 2, 1, 2, 0, 1}, wrote(0, moveCall(0, 0, 3, 1)), wrote(0, moveCall(0, 0, 3, 2)))
	add("a slot that moves back", 3, []int{0, 1, 2, 0, 1, 2, 0, 1}, wrote(0, moveCall(0, 0, 3, 1)), wrote(0, dealCall(0, 0, "get 1;")), wrote(0, moveCall(0, 0, 3, 0)))
	for code := 1; code <= 9; code++ {
		add("a move with a code", 2, []int{0, 1, 2, 0, 2, 2, 0, 1}, wrote(code, moveCall(0, 0, 3, 1)), wrote(0, moveCall(0, 0, 4, 2)))
	}
	add("a move to where it is", 2, []int{0, 1, 2, 0, 2, 2, 0, 1}, wrote(0, moveCall(0, 0, 4, 2)), wrote(0, moveCall(0, 0, 4, 2)))
	var many []impl.Record
	for i := range 60 {
		many = append(many, wrote(0, moveCall(0, 0, 5, []int{1, 2}[i%2])))
		many[i].Stamp, many[i].Call.Number = i+1, i+1
	}
	add("as many moves as can be", 61, []int{0, 1, 2, 0, 1, 2, 0, 1}, many...)
	return list
}

func TestPromise57TheMap(t *testing.T) {
	for _, c := range mapCases() {
		for _, up := range []bool{true, false} {
			g := impl.Gate{Up: up, Life: 1, Next: 100, Log: c.log}
			if m := impl.GateMap(g); !sameMap(m, impl.Map{Version: c.version, Owners: c.owners}) {
				t.Error(c.name, m)
			}
			var calls []impl.Call
			for _, rec := range c.log {
				calls = append(calls, rec.Call)
			}
			if is := impl.GateCalls(g); !slices.Equal(is, calls) {
				t.Error(c.name, is)
			}
		}
	}
}

// By words alone it is the books' map, too: what was written down has the codes that the books would give.
func TestPromise57AsBooksSay(t *testing.T) {
	moved := 0
	eachGate(t, 92, eitherGate, func(r *rand.Rand, g impl.Gate, w impl.Word) {
		if m := impl.GateMap(g); !sameMap(m, mapByHand(g.Log, 0)) {
			t.Error("map", m, "asked is", mapByHand(g.Log, 0))
		}
	})
	eachGate(t, 93, walkGate, func(r *rand.Rand, g impl.Gate, w impl.Word) {
		m := impl.GateMap(g)
		if !sameMap(m, impl.BooksOf(impl.GateCalls(g)).Map) {
			t.Error("map", m, "the books have", impl.BooksOf(impl.GateCalls(g)).Map)
		}
		if m.Version > 2 {
			moved++
		}
	})
	if moved < manyGates/20 {
		t.Error("only so many have moved:", moved)
	}
}

func TestPromise56FallAndRise(t *testing.T) {
	for _, g := range slices.Concat(gatesAtEdges(), livesAtEdges(), []impl.Gate{someGate()}) {
		fallen := gateWith(g, func(g *impl.Gate) { g.Up, g.Lives, g.Ways = false, nil, nil })
		if is := impl.GateFall(g); !sameGate(is, fallen) || !impl.GateOk(is) {
			t.Error("falls:", tellGate(g), "is", tellGate(is))
		}
		if is := impl.GateFall(impl.GateFall(g)); !sameGate(is, fallen) {
			t.Error("falls twice:", tellGate(g), "is", tellGate(is))
		}
		risen := gateWith(fallen, func(g *impl.Gate) { g.Up = true; g.Life++ })
		if g.Life == 99 {
			risen = fallen
		}
		if is := impl.GateRise(fallen); !sameGate(is, risen) || !impl.GateOk(is) {
			t.Error("rises:", tellGate(fallen), "is", tellGate(is))
		}
		// Who is up does not rise, in its last life neither.
		if is := impl.GateRise(g); g.Up && !sameGate(is, g) {
			t.Error("is up:", tellGate(g), "is", tellGate(is))
		}
	}
}

func TestPromise56AllLives(t *testing.T) {
	g := gateBy(impl.GateStart(), "ask 0.1 get 0;")
	for life := 1; life <= 99; life++ {
		if !g.Up || g.Life != life || g.Next != 2 {
			t.Fatal(tellGate(g))
		}
		g = impl.GateRise(impl.GateFall(g))
	}
	if tellGate(g) != "down life 99 next 2" || !sameGate(impl.GateRise(g), g) {
		t.Error(tellGate(g))
	}
}

func TestPromise56WhatItForgets(t *testing.T) {
	lives := 0
	eachGate(t, 94, eitherGate, func(r *rand.Rand, g impl.Gate, w impl.Word) {
		fallen := impl.GateFall(g)
		if fallen.Up || len(fallen.Lives)+len(fallen.Ways) > 0 || !slices.EqualFunc(fallen.Log, g.Log, sameRecord) || fallen.Next != g.Next || fallen.Life != g.Life {
			t.Error("falls:", tellGate(fallen))
		}
		if is, words := impl.GateHear(fallen, w); !sameGate(is, fallen) || len(words) > 0 || len(impl.GateTend(fallen)) > 0 {
			t.Error("is down, and hears:", tellGate(is), tellGateWords(words))
		}
		risen := impl.GateRise(fallen)
		if risen.Up != (g.Life < 99) || risen.Up && risen.Life != g.Life+1 || len(risen.Lives)+len(risen.Ways) > 0 || !slices.EqualFunc(risen.Log, g.Log, sameRecord) || risen.Next != g.Next {
			t.Error("rises:", tellGate(risen))
		}
		if len(g.Lives) > 0 {
			lives++
		}
	})
	if lives < manyGates/4 {
		t.Error("only so many had lives:", lives)
	}
}
