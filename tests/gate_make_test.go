package tests

import (
	"math"
	"math/rand"
	"slices"
	"testing"

	"loop.example/turnpike/impl"
)

const manyGates = 1000

func sameRecord(a, b impl.Record) bool {
	return a.Stamp == b.Stamp && a.Try == b.Try && a.Call == b.Call && a.Code == b.Code && slices.Equal(a.Vals, b.Vals) && slices.Equal(a.Pairs, b.Pairs)
}

func sameTold(a, b impl.Told) bool {
	return a.House == b.House && slices.Equal(a.Pairs, b.Pairs)
}

func sameLive(a, b impl.Live) bool {
	return a.Stamp == b.Stamp && a.Try == b.Try && a.Version == b.Version && a.Phase == b.Phase && a.Call == b.Call &&
		slices.Equal(a.Locked, b.Locked) && slices.EqualFunc(a.Told, b.Told, sameTold)
}

func sameGate(a, b impl.Gate) bool {
	return a.Up == b.Up && a.Life == b.Life && a.Next == b.Next &&
		slices.EqualFunc(a.Log, b.Log, sameRecord) && slices.EqualFunc(a.Lives, b.Lives, sameLive) && slices.Equal(a.Ways, b.Ways)
}

func cloneGate(g impl.Gate) impl.Gate {
	g.Log, g.Lives, g.Ways = slices.Clone(g.Log), slices.Clone(g.Lives), slices.Clone(g.Ways)
	for i := range g.Log {
		g.Log[i].Vals, g.Log[i].Pairs = slices.Clone(g.Log[i].Vals), slices.Clone(g.Log[i].Pairs)
	}
	for i := range g.Lives {
		g.Lives[i].Locked, g.Lives[i].Told = slices.Clone(g.Lives[i].Locked), slices.Clone(g.Lives[i].Told)
		for j := range g.Lives[i].Told {
			g.Lives[i].Told[j].Pairs = slices.Clone(g.Lives[i].Told[j].Pairs)
		}
	}
	return g
}

// gateWith is the gate, changed in memory of its own.
func gateWith(g impl.Gate, change func(g *impl.Gate)) impl.Gate {
	g = cloneGate(g)
	change(&g)
	return g
}

func askWord(c impl.Call) impl.Word {
	return impl.Word{Kind: impl.WordAsk, From: impl.WordClient + c.Session, To: impl.WordGate, Call: c}
}

func houseWord(kind, house, stamp, try int) impl.Word {
	return impl.Word{Kind: kind, From: house, To: impl.WordGate, Stamp: stamp, Try: try}
}

// manyRecords are so many, of all sessions in turn, by stamps from 1 on: deals that were done, and nothing written.
func manyRecords(many int) []impl.Record {
	var log []impl.Record
	for i := range many {
		log = append(log, impl.Record{Stamp: i + 1, Try: 1, Call: dealCall(i%3, 1+i/3, "get 1;"), Vals: []int{0}})
	}
	return log
}

// gateBehind is up, with just this log, which stamps in order have.
func gateBehind(log ...impl.Record) impl.Gate {
	return impl.Gate{Up: true, Life: 1, Next: len(log) + 1, Log: log}
}

// makeHouseSays tells what a house says of a call under way, mostly what it is asked for.
func makeHouseSays(r *rand.Rand, g impl.Gate) impl.Word {
	l := g.Lives[r.Intn(len(g.Lives))]
	w := houseWord([]int{impl.WordLocked, impl.WordLocked, impl.WordPromised}[l.Phase], r.Intn(3), l.Stamp, l.Try)
	if asked := tendByHand(g); len(asked) > 0 && r.Intn(5) > 0 {
		one := asked[r.Intn(len(asked))]
		w = houseWord(one.Kind+1, one.To, one.Stamp, one.Try)
	}
	if r.Intn(16) == 0 {
		w.Kind = []int{impl.WordLocked, impl.WordTaken, impl.WordPromised, impl.WordDoubt}[r.Intn(4)]
	}
	if w.Kind == impl.WordPromised && r.Intn(8) > 0 {
		w.Yes, w.Pairs = true, makePairs(r)
		if m := mapByHand(g.Log, 0); r.Intn(3) > 0 {
			w.Pairs = slices.DeleteFunc(w.Pairs, func(p impl.Pair) bool { return p.Val == 0 || m.Owners[p.Key/4] != w.From })
		}
	}
	if r.Intn(16) == 0 {
		w.Try = min(max(w.Try-1+r.Intn(3), 1), impl.LockMaxStamp)
	}
	return w
}

// makeAskWord tells mostly a call that is new to the gate.
func makeAskWord(r *rand.Rand, g impl.Gate) impl.Word {
	session := r.Intn(3)
	number := lastByHand(g.Log, session).Call.Number
	for _, l := range g.Lives {
		if l.Call.Session == session && r.Intn(2) == 0 {
			number = l.Call.Number
		}
	}
	w := askWord(makeAsk(r, session, min(max(number+[]int{-1, 0, 1, 1, 1, 1, 2}[r.Intn(7)], 1), impl.BooksMaxCall)))
	if r.Intn(10) == 0 {
		w.Call.Text = "what"
	}
	return w
}

// makeGateWord tells a word that the gate may hear, mostly such as does something.
func makeGateWord(r *rand.Rand, g impl.Gate) impl.Word {
	w := makeAskWord(r, g)
	switch {
	case len(g.Lives) > 0 && r.Intn(4) > 0:
		w = makeHouseSays(r, g)
	case r.Intn(4) == 0:
		w = houseWord([]int{2, 3, 5, 7, 7, 7, 7}[r.Intn(7)], r.Intn(3), 1+r.Intn(min(g.Next+1, impl.LockMaxStamp)), 1+r.Intn(3))
		if len(g.Log) > 0 && r.Intn(2) == 0 {
			rec := g.Log[r.Intn(len(g.Log))]
			w.Stamp, w.Try = rec.Stamp, rec.Try
		}
	}
	if r.Intn(8) == 0 {
		// What the word need not tell changes nothing.
		more := makeWord(r)
		w.What, w.Slots, w.Code, w.Vals = more.What, more.Slots, more.Code, more.Vals
	}
	return w
}

// makeVainGateWord tells a word that the gate is not to hear, for one reason alone.
func makeVainGateWord(r *rand.Rand, g impl.Gate) impl.Word {
	w := makeGateWord(r, g)
	switch r.Intn(4) {
	case 0:
		w.To = []int{0, 1, 2, 100, 101, 102, 3, -1, 8, 10, 99, 103}[r.Intn(12)]
	case 1:
		if w.Kind == impl.WordAsk {
			w.From = []int{0, 1, 2, 9, 100 + (w.Call.Session+1)%3, 100 + (w.Call.Session+2)%3}[r.Intn(6)]
		} else {
			w.From = []int{9, 100, 101, 102}[r.Intn(4)]
		}
	case 2:
		w.Kind = []int{impl.WordLock, impl.WordPromise, impl.WordEnd, impl.WordAnswer}[r.Intn(4)]
	default:
		w = spoilWord(r, w)
	}
	return w
}

// walkGate tells a gate to which words, falls and rises lead. It is up mostly.
func walkGate(r *rand.Rand) impl.Gate {
	g := impl.GateStart()
	if r.Intn(12) == 0 {
		g = gateBehind(manyRecords(52 + r.Intn(9))...)
	}
	if r.Intn(12) == 0 {
		g.Next = impl.LockMaxStamp - r.Intn(8)
	}
	for range r.Intn(60) {
		g, _ = impl.GateHear(g, makeGateWord(r, g))
		if r.Intn(60) == 0 {
			g = impl.GateFall(g)
		}
		if r.Intn(4) > 0 {
			g = impl.GateRise(g)
		}
	}
	return g
}

// makeRecord tells any record of a call, also of such as no gate writes.
func makeRecord(r *rand.Rand, stamp int, c impl.Call) impl.Record {
	rec := impl.Record{Stamp: stamp, Try: []int{1, 1, 2, 3, impl.LockMaxStamp}[r.Intn(5)], Call: c}
	if r.Intn(4) == 0 {
		rec.Code = r.Intn(10)
	}
	for range r.Intn(3) {
		rec.Vals = append(rec.Vals, makeNum(r))
	}
	rec.Pairs = makePairs(r)
	return rec
}

func makeLive(r *rand.Rand, stamp, version int, c impl.Call) impl.Live {
	l := impl.Live{Stamp: stamp, Try: []int{1, 1, 2, 3, impl.LockMaxStamp}[r.Intn(5)], Version: version, Phase: r.Intn(3), Call: c}
	if r.Intn(2) == 0 {
		l.Version = 1 + r.Intn(version)
	}
	if r.Intn(12) == 0 {
		l.Version = 99
	}
	if l.Phase > 0 {
		l.Locked = someOf(r, []int{0, 1, 2})
	}
	if l.Phase == 2 {
		for _, house := range someOf(r, []int{0, 1, 2}) {
			l.Told = append(l.Told, impl.Told{House: house, Pairs: makePairs(r)})
		}
	}
	return l
}

// makeGate tells any gate that is ok, also such as no words lead to: what its calls need, and what they have, have little to do with each other.
func makeGate(r *rand.Rand) impl.Gate {
	g := impl.Gate{Up: r.Intn(6) > 0, Life: []int{1, 2, 98, 99}[r.Intn(4)]}
	many := r.Intn(8)
	if r.Intn(8) == 0 {
		many = 56 + r.Intn(5)
	}
	g.Next = many + 5 + r.Intn(9)
	if r.Intn(10) == 0 {
		g.Next = impl.LockMaxStamp - r.Intn(2)
	}
	stamps := r.Perm(g.Next - 1)
	for i := range many {
		session := r.Intn(3)
		g.Log = append(g.Log, makeRecord(r, stamps[i]+1, makeAsk(r, session, lastByHand(g.Log, session).Call.Number+1+r.Intn(2))))
	}
	if !g.Up {
		return g
	}
	mine := stamps[many : many+3]
	slices.Sort(mine)
	version := mapByHand(g.Log, 0).Version
	for i, session := range r.Perm(3)[:r.Intn(4)] {
		g.Lives = append(g.Lives, makeLive(r, mine[i]+1, version, makeAsk(r, session, min(lastByHand(g.Log, session).Call.Number+1+r.Intn(2), 99))))
	}
	for house := range 3 {
		for _, l := range g.Lives {
			free := len(g.Ways) < 2 || g.Ways[len(g.Ways)-2].House != house
			needs := slices.Contains(needsByHand(mapByHand(g.Log, l.Version), l.Call), house)
			if l.Phase > 0 && free && (needs && r.Intn(5) > 0 || r.Intn(5) == 0) {
				g.Ways = append(g.Ways, impl.Way{House: house, Stamp: l.Stamp})
			}
		}
	}
	return g
}

// eitherGate tells gates to which words lead, and any others.
func eitherGate(r *rand.Rand) impl.Gate {
	if r.Intn(2) == 0 {
		return makeGate(r)
	}
	return walkGate(r)
}

// eachGate asks of many gates, each with a word for it; what is handed in must stay.
func eachGate(t *testing.T, seed int64, make func(r *rand.Rand) impl.Gate, look func(r *rand.Rand, g impl.Gate, w impl.Word)) {
	t.Helper()
	r := rand.New(rand.NewSource(seed))
	for range manyGates {
		g := make(r)
		w := makeGateWord(r, g)
		kept, keptWord := cloneGate(g), cloneWord(w)
		look(r, g, w)
		if !sameGate(g, kept) || !sameWord(w, keptWord) {
			t.Error("an argument was changed")
		}
		if t.Failed() {
			t.Fatalf("gate %.3000s\nword %#v", tellGate(kept), keptWord)
		}
	}
}

// someGate is ok; each case of gatesNotOk spoils one thing of it.
func someGate() impl.Gate {
	pairs := []impl.Pair{{Key: 0, Val: 5}, {Key: 17}, {Key: 31, Val: -5}}
	return impl.Gate{
		Up: true, Life: 7, Next: 20,
		Log: []impl.Record{
			{Stamp: 4, Try: 1, Call: dealCall(0, 1, "add 0 5;get 1;"), Vals: []int{3}, Pairs: pairs},
			{Stamp: 2, Try: 3, Call: moveCall(1, 2, 3, 1), Pairs: pairs[:1]},
			{Stamp: 9, Try: 2, Call: dealCall(0, 3, "need 4 1;"), Code: impl.CodeRefused},
			{Stamp: 6, Try: 1, Call: moveCall(2, 1, 0, 0), Code: impl.CodeSame},
		},
		Lives: []impl.Live{
			{Stamp: 5, Try: 2, Version: 1, Phase: 1, Call: dealCall(2, 2, "put 0 1;put 12 1;"), Locked: []int{0, 2}},
			{Stamp: 11, Try: 1, Version: 2, Phase: 2, Call: moveCall(1, 4, 0, 1), Locked: []int{0, 1}, Told: []impl.Told{{House: 0, Pairs: pairs}, {House: 2}}},
			{Stamp: 12, Try: 4, Version: 2, Phase: 0, Call: dealCall(0, 5, "get 0;")},
		},
		Ways: []impl.Way{{House: 0, Stamp: 5}, {House: 0, Stamp: 11}, {House: 1, Stamp: 11}},
	}
}

// spoiltGate is a gate that is not ok, for one reason alone.
type spoiltGate struct {
	reason string
	gate   impl.Gate
}

type spoilGate func(reason string, change func(g *impl.Gate))

func gatesNotOk() []spoiltGate {
	list := []spoiltGate{{"nothing", impl.Gate{}}, {"nothing but that it is up", impl.Gate{Up: true}}}
	spoil := func(reason string, change func(g *impl.Gate)) {
		list = append(list, spoiltGate{reason, gateWith(someGate(), change)})
	}
	for _, life := range []int{math.MinInt, -1, 0, 100, math.MaxInt} {
		spoil("no life", func(g *impl.Gate) { g.Life = life })
		list = append(list, spoiltGate{"no life, and nothing else", impl.Gate{Up: true, Life: life, Next: 1}})
	}
	for _, next := range []int{math.MinInt, -1, 0, 10000, math.MaxInt} {
		spoil("no next stamp", func(g *impl.Gate) { g.Next = next })
		list = append(list, spoiltGate{"no next stamp, and nothing else", impl.Gate{Up: true, Life: 1, Next: next}})
	}
	spoil("no stamp for the last live", func(g *impl.Gate) { g.Next = 12 })
	spoil("down with lives", func(g *impl.Gate) { g.Up = false })
	spoil("down with lives, without ways", func(g *impl.Gate) { g.Up, g.Ways = false, nil })
	spoil("down with one live that waits", func(g *impl.Gate) { g.Up, g.Ways, g.Lives = false, nil, g.Lives[2:] })
	recordsNotOk(spoil)
	livesNotOk(spoil)
	waysNotOk(spoil)
	long := manyRecords(61)
	return append(list,
		spoiltGate{"a log that is too long", gateBehind(long...)},
		spoiltGate{"a log that is too long, and down", gateWith(gateBehind(long...), func(g *impl.Gate) { g.Up = false })})
}

// callsOfNobody are calls that are not ok, each of a session and number that would be in order, unless these are what is wrong.
func callsOfNobody(session, number int) []impl.Call {
	list := callsNotOk()
	for i, c := range list {
		if numberIn(c.Session, 0, 2) && numberIn(c.Number, 1, 99) {
			list[i].Session, list[i].Number = session, number
		}
	}
	return list
}

func recordsNotOk(spoil spoilGate) {
	for i := range 4 {
		c := someGate().Log[i].Call
		for _, stamp := range []int{math.MinInt, -1, 0, 20, 21, 9999, 10000, math.MaxInt} {
			spoil("a record's stamp", func(g *impl.Gate) { g.Log[i].Stamp = stamp })
		}
		spoil("a stamp twice", func(g *impl.Gate) { g.Log[i].Stamp = g.Log[(i+1)%4].Stamp })
		for _, try := range noStamps {
			spoil("a record's try", func(g *impl.Gate) { g.Log[i].Try = try })
		}
		for _, bad := range callsOfNobody(c.Session, c.Number) {
			spoil("a record's call", func(g *impl.Gate) { g.Log[i].Call = bad })
		}
		for _, code := range []int{math.MinInt, -1, 10, math.MaxInt} {
			spoil("a record's code", func(g *impl.Gate) { g.Log[i].Code = code })
		}
		for _, vals := range [][]int{make([]int, 7), {10000}, {0, -10000}, {math.MinInt}, {1, 2, math.MaxInt}} {
			spoil("a record's values", func(g *impl.Gate) { g.Log[i].Vals = vals })
		}
		for _, pairs := range pairsNotInForm() {
			spoil("a record's pairs", func(g *impl.Gate) { g.Log[i].Pairs = pairs })
		}
	}
	for _, number := range []int{1, 2, 3} {
		spoil("a number that is not above those ahead", func(g *impl.Gate) {
			g.Log = append(g.Log, impl.Record{Stamp: 19, Try: 1, Call: dealCall(0, number, "get 0;")})
		})
	}
	spoil("a number that is below one ahead of the last", func(g *impl.Gate) {
		g.Log[0].Call.Number, g.Log[2].Call.Number = 3, 1
	})
	spoil("a number that is the same as ahead", func(g *impl.Gate) { g.Log[2].Call.Number = 1 })
}

func livesNotOk(spoil spoilGate) {
	for i := range 3 {
		l := someGate().Lives[i]
		restamp := func(g *impl.Gate, stamp int) {
			g.Lives[i].Stamp = stamp
			g.Ways = slices.DeleteFunc(g.Ways, func(way impl.Way) bool { return way.Stamp == l.Stamp })
		}
		for _, stamp := range []int{math.MinInt, -1, 0} {
			spoil("a live's stamp below 1", func(g *impl.Gate) {
				restamp(g, stamp)
				g.Lives, g.Ways = g.Lives[i:i+1], nil
			})
		}
		for _, stamp := range []int{20, 21, 9999, 10000, math.MaxInt} {
			spoil("a live's stamp that is not below the next", func(g *impl.Gate) {
				restamp(g, stamp)
				g.Lives, g.Ways = g.Lives[i:i+1], nil
			})
		}
		for _, stamp := range []int{2, 4, 6, 9} {
			spoil("a live's stamp that was written down", func(g *impl.Gate) {
				restamp(g, stamp)
				g.Lives, g.Ways = g.Lives[i:i+1], nil
			})
		}
		for _, try := range noStamps {
			spoil("a live's try", func(g *impl.Gate) { g.Lives[i].Try = try })
		}
		for _, version := range []int{math.MinInt, -1, 0, 100, math.MaxInt} {
			spoil("a live's version", func(g *impl.Gate) { g.Lives[i].Version = version })
		}
		for _, phase := range []int{math.MinInt, -1, 3, 4, math.MaxInt} {
			spoil("a live's phase", func(g *impl.Gate) { g.Lives[i].Phase = phase })
			spoil("a live's phase, and nothing else", func(g *impl.Gate) {
				g.Lives[i] = impl.Live{Stamp: l.Stamp, Try: 1, Version: 1, Phase: phase, Call: l.Call}
				g.Lives, g.Ways = g.Lives[i:i+1], nil
			})
		}
		for _, bad := range callsOfNobody(l.Call.Session, l.Call.Number) {
			spoil("a live's call", func(g *impl.Gate) { g.Lives[i].Call = bad })
		}
		last := lastByHand(someGate().Log, l.Call.Session).Call.Number
		for number := 1; number <= last; number++ {
			spoil("a live's number, not above that of the last", func(g *impl.Gate) { g.Lives[i].Call.Number = number })
		}
		spoil("two lives of a session", func(g *impl.Gate) {
			g.Lives[i].Call.Session, g.Lives[i].Call.Number = g.Lives[(i+1)%3].Call.Session, 50
		})
		spoil("a live twice", func(g *impl.Gate) { g.Lives = slices.Insert(g.Lives, i, l) })
	}
	spoil("lives that do not ascend", func(g *impl.Gate) { g.Lives[0], g.Lives[1] = g.Lives[1], g.Lives[0] })
	spoil("lives that do not ascend, at the end", func(g *impl.Gate) { g.Lives[1], g.Lives[2] = g.Lives[2], g.Lives[1] })
	spoil("a stamp of two lives", func(g *impl.Gate) { g.Lives[2].Stamp = 11 })
	spoil("too many lives", func(g *impl.Gate) {
		g.Lives = append(g.Lives, impl.Live{Stamp: 13, Try: 1, Version: 1, Call: dealCall(1, 70, "get 0;")})
	})
	lockedNotOk(spoil)
}

func lockedNotOk(spoil spoilGate) {
	for i := range 2 {
		for _, locked := range [][]int{{1, 0}, {0, 0}, {0, 1, 1}, {2, 1}, {0, 2, 1}, {-1}, {3}, {0, 3}, {math.MinInt, 0}, {0, 1, 2, 3}, {math.MaxInt}} {
			spoil("who locked", func(g *impl.Gate) { g.Lives[i].Locked = locked })
		}
	}
	for house := range 3 {
		spoil("locked while it waits", func(g *impl.Gate) { g.Lives[2].Locked = []int{house} })
		spoil("told while it waits", func(g *impl.Gate) { g.Lives[2].Told = []impl.Told{{House: house}} })
		spoil("told while houses lock", func(g *impl.Gate) { g.Lives[0].Told = []impl.Told{{House: house}} })
	}
	for _, houses := range [][]int{{1, 0}, {0, 0}, {0, 1, 1}, {2, 1}, {-1}, {3}, {0, 3}, {math.MinInt, 0}, {math.MaxInt}} {
		spoil("who told", func(g *impl.Gate) {
			g.Lives[1].Told = nil
			for _, house := range houses {
				g.Lives[1].Told = append(g.Lives[1].Told, impl.Told{House: house})
			}
		})
	}
	for _, pairs := range pairsNotInForm() {
		for house := range 2 {
			spoil("what was told", func(g *impl.Gate) { g.Lives[1].Told[house].Pairs = pairs })
		}
	}
}

func waysNotOk(spoil spoilGate) {
	for _, ways := range [][]impl.Way{
		{{House: 0, Stamp: 11}, {House: 0, Stamp: 5}},
		{{House: 1, Stamp: 5}, {House: 0, Stamp: 11}},
		{{House: 1, Stamp: 5}, {House: 0, Stamp: 5}},
		{{House: 2, Stamp: 11}, {House: 1, Stamp: 11}, {House: 0, Stamp: 11}},
		{{House: 0, Stamp: 5}, {House: 0, Stamp: 5}},
		{{House: 0, Stamp: 5}, {House: 2, Stamp: 11}, {House: 2, Stamp: 11}},
		{{House: 0, Stamp: 4}}, {{House: 0, Stamp: 0}}, {{House: 0, Stamp: 6}}, {{House: 0, Stamp: 13}}, {{House: 0, Stamp: 20}}, {{House: 1, Stamp: math.MinInt}}, {{House: 1, Stamp: math.MaxInt}},
		{{House: 0, Stamp: 12}}, {{House: 0, Stamp: 5}, {House: 0, Stamp: 12}}, {{House: 2, Stamp: 12}},
		{{House: -1, Stamp: 5}}, {{House: 3, Stamp: 5}}, {{House: 9, Stamp: 11}}, {{House: 0, Stamp: 5}, {House: 3, Stamp: 5}}, {{House: math.MinInt, Stamp: 5}}, {{House: math.MaxInt, Stamp: 5}},
	} {
		spoil("ways", func(g *impl.Gate) { g.Ways = ways })
	}
	for house := range 3 {
		spoil("one way too many", func(g *impl.Gate) {
			g.Lives[2].Phase, g.Ways = 1, nil
			for _, stamp := range []int{5, 11, 12} {
				g.Ways = append(g.Ways, impl.Way{House: house, Stamp: stamp})
			}
		})
	}
}
