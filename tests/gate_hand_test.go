package tests

import (
	"slices"

	"loop.example/turnpike/impl"
)

// What stands here does what the document says of the gate in another way than the program: in the gate's own lists, which it searches anew each time.

// mapByHand is the first map of that version behind records, the last one if none has it.
func mapByHand(log []impl.Record, version int) impl.Map {
	m := impl.Map{Version: 1, Owners: []int{0, 1, 2, 0, 1, 2, 0, 1}}
	for _, rec := range log {
		if m.Version != version && rec.Call.Kind == 2 && rec.Code == 0 && moveCodeByHand(m, rec.Call) == 0 {
			m.Version++
			m.Owners[rec.Call.Slot] = rec.Call.To
		}
	}
	return m
}

// moveCodeByHand takes moves that are ok.
func moveCodeByHand(m impl.Map, c impl.Call) int {
	switch {
	case m.Version == 99:
		return 2
	case m.Owners[c.Slot] == c.To:
		return 3
	}
	return 0
}

// lastByHand tells Number 0, if the session has none.
func lastByHand(log []impl.Record, session int) impl.Record {
	var last impl.Record
	for _, rec := range log {
		if rec.Call.Session == session {
			last = rec
		}
	}
	return last
}

func recordByHand(log []impl.Record, stamp int) (impl.Record, bool) {
	for _, rec := range log {
		if rec.Stamp == stamp {
			return rec, true
		}
	}
	return impl.Record{}, false
}

func valsByHand(vals []int) bool {
	return len(vals) <= 6 && !slices.ContainsFunc(vals, func(val int) bool { return !magnitudeByHand(val) })
}

func pairsByHand(pairs []impl.Pair) bool {
	var keys []int
	for _, p := range pairs {
		if !numberIn(p.Key, 0, 31) || !magnitudeByHand(p.Val) {
			return false
		}
		keys = append(keys, p.Key)
	}
	return ascendingByHand(keys)
}

func housesByHand(houses []int) bool {
	return ascendingByHand(houses) && !slices.ContainsFunc(houses, func(house int) bool { return !numberIn(house, 0, 2) })
}

func recordsOkByHand(g impl.Gate) bool {
	for i, rec := range g.Log {
		_, twice := recordByHand(g.Log[:i], rec.Stamp)
		if twice || !numberIn(rec.Stamp, 1, g.Next-1) || !numberIn(rec.Try, 1, 9999) || !impl.CallOk(rec.Call) || lastByHand(g.Log[:i], rec.Call.Session).Call.Number >= rec.Call.Number {
			return false
		}
		if !numberIn(rec.Code, 0, 9) || !valsByHand(rec.Vals) || !pairsByHand(rec.Pairs) {
			return false
		}
	}
	return len(g.Log) <= 60
}

func liveOkByHand(g impl.Gate, l impl.Live) bool {
	_, ended := recordByHand(g.Log, l.Stamp)
	if ended || !numberIn(l.Stamp, 1, g.Next-1) || !numberIn(l.Try, 1, 9999) || !impl.CallOk(l.Call) || lastByHand(g.Log, l.Call.Session).Call.Number >= l.Call.Number {
		return false
	}
	var tellers []int
	for _, told := range l.Told {
		if !pairsByHand(told.Pairs) {
			return false
		}
		tellers = append(tellers, told.House)
	}
	if !numberIn(l.Version, 1, 99) || !numberIn(l.Phase, 0, 2) || !housesByHand(l.Locked) || !housesByHand(tellers) {
		return false
	}
	return !(l.Phase == 0 && len(l.Locked) > 0) && !(l.Phase != 2 && len(l.Told) > 0)
}

func livesOkByHand(g impl.Gate) bool {
	var stamps, sessions []int
	for _, l := range g.Lives {
		if !liveOkByHand(g, l) {
			return false
		}
		stamps, sessions = append(stamps, l.Stamp), append(sessions, l.Call.Session)
	}
	slices.Sort(sessions)
	return ascendingByHand(stamps) && ascendingByHand(sessions) && (g.Up || len(stamps) == 0)
}

func waysOkByHand(g impl.Gate) bool {
	var ranks []int
	many := map[int]int{}
	for _, way := range g.Ways {
		l, has := liveByHand(g, way.Stamp)
		many[way.House]++
		if !numberIn(way.House, 0, 2) || !has || l.Phase == 0 || many[way.House] > 2 {
			return false
		}
		ranks = append(ranks, way.House*10000+way.Stamp)
	}
	return ascendingByHand(ranks)
}

func gateOkByHand(g impl.Gate) bool {
	return numberIn(g.Life, 1, 99) && numberIn(g.Next, 1, 9999) && recordsOkByHand(g) && livesOkByHand(g) && waysOkByHand(g)
}

func liveByHand(g impl.Gate, stamp int) (impl.Live, bool) {
	for _, l := range g.Lives {
		if l.Stamp == stamp {
			return l, true
		}
	}
	return impl.Live{}, false
}

// needsByHand are the houses of a call by a map, ascending.
func needsByHand(m impl.Map, c impl.Call) []int {
	var list []int
	for house := range 3 {
		keeps := slices.ContainsFunc(impl.CallSlots(c), func(slot int) bool { return m.Owners[slot] == house })
		if keeps || c.Kind == 2 && c.To == house {
			list = append(list, house)
		}
	}
	return list
}

// waysByHand are the houses to which a stamp has a way.
func waysByHand(g impl.Gate, stamp int) []int {
	var list []int
	for _, way := range g.Ways {
		if way.Stamp == stamp {
			list = append(list, way.House)
		}
	}
	return list
}

func lockWordByHand(g impl.Gate, l impl.Live, house int) impl.Word {
	w := impl.Word{Kind: 1, From: 9, To: house, Stamp: l.Stamp, Try: l.Try}
	m := mapByHand(g.Log, l.Version)
	for _, slot := range impl.CallSlots(l.Call) {
		if l.Call.Kind == 2 || m.Owners[slot] == house {
			w.Slots = append(w.Slots, slot)
		}
	}
	switch {
	case l.Call.Kind == 1:
		w.What = 1
	case l.Call.To == house:
		w.What = 3
	default:
		w.What = 2
	}
	return w
}

func tendByHand(g impl.Gate) []impl.Word {
	var words []impl.Word
	for _, l := range g.Lives {
		for _, house := range waysByHand(g, l.Stamp) {
			if l.Phase == 1 && !slices.Contains(l.Locked, house) {
				words = append(words, lockWordByHand(g, l, house))
			}
			if l.Phase == 2 && !slices.ContainsFunc(l.Told, func(told impl.Told) bool { return told.House == house }) {
				words = append(words, impl.Word{Kind: 4, From: 9, To: house, Stamp: l.Stamp, Try: l.Try})
			}
		}
	}
	return words
}

// handGate is a gate that hears by hand, and what it said.
type handGate struct {
	impl.Gate
	words []impl.Word
}

func hearGateByHand(g impl.Gate, w impl.Word) (impl.Gate, []impl.Word) {
	if !gateOkByHand(g) {
		return impl.Gate{}, nil
	}
	is := &handGate{Gate: cloneGate(g)}
	if g.Up && wordOkByHand(w) && w.To == 9 {
		switch {
		case w.Kind == 8 && w.From == 100+w.Call.Session:
			is.ask(w.Call)
		case w.Kind == 7 && w.From < 3 && w.Stamp > 0 && w.Try > 0:
			is.doubt(w)
		case w.From < 3:
			is.others(w)
		}
	}
	if !gateOkByHand(is.Gate) {
		return cloneGate(g), nil
	}
	return is.Gate, is.words
}

func (g *handGate) say(w impl.Word) {
	w.From = 9
	g.words = append(g.words, cloneWord(w))
}

func (g *handGate) answer(c impl.Call, code int, vals []int) {
	g.say(impl.Word{Kind: 9, To: 100 + c.Session, Code: code, Vals: vals, Call: impl.Call{Session: c.Session, Number: c.Number}})
}

func (g *handGate) end(l impl.Live, yes bool, pairs []impl.Pair) {
	for house := range 3 {
		g.say(impl.Word{Kind: 6, To: house, Stamp: l.Stamp, Try: l.Try, Yes: yes, Pairs: pairs})
	}
}

// at is the place of a stamp among Lives.
func (g *handGate) at(stamp int) int {
	return slices.IndexFunc(g.Lives, func(l impl.Live) bool { return l.Stamp == stamp })
}

func (g *handGate) free(stamp int) {
	g.Ways = slices.DeleteFunc(g.Ways, func(way impl.Way) bool { return way.Stamp == stamp })
}

func (g *handGate) without(stamp int) {
	g.free(stamp)
	g.Lives = slices.Delete(g.Lives, g.at(stamp), g.at(stamp)+1)
}

func (g *handGate) takeWays() {
	var wanted []int
	for i := range g.Lives {
		l, m := &g.Lives[i], mapByHand(g.Log, 0)
		if l.Phase != 0 {
			continue
		}
		if l.Call.Kind == 2 && moveCodeByHand(m, l.Call) != 0 {
			g.write(*l)
			return
		}
		may := true
		for _, house := range needsByHand(m, l.Call) {
			taken := 0
			for _, way := range g.Ways {
				if way.House == house {
					taken++
				}
			}
			may = may && taken < 2 && !slices.Contains(wanted, house)
		}
		if !may {
			wanted = append(wanted, needsByHand(m, l.Call)...)
			continue
		}
		l.Phase, l.Version = 1, m.Version
		for _, house := range needsByHand(m, l.Call) {
			g.Ways = append(g.Ways, impl.Way{House: house, Stamp: l.Stamp})
			g.say(lockWordByHand(g.Gate, *l, house))
		}
		slices.SortFunc(g.Ways, func(a, b impl.Way) int { return a.House*10000 + a.Stamp - b.House*10000 - b.Stamp })
	}
}

func (g *handGate) write(l impl.Live) {
	var told []impl.Pair
	for _, x := range l.Told {
		told = impl.PairsPut(told, x.Pairs)
	}
	rec := impl.Record{Stamp: l.Stamp, Try: l.Try, Call: l.Call}
	if l.Call.Kind == 2 {
		rec.Code, rec.Pairs = moveCodeByHand(mapByHand(g.Log, 0), l.Call), told
	} else {
		deal, _ := impl.DealRead(l.Call.Text)
		rec.Code, rec.Vals, rec.Pairs = impl.DealRun(deal, told)
	}
	g.Log = append(g.Log, rec)
	g.answer(l.Call, rec.Code, rec.Vals)
	if l.Phase != 0 && rec.Code == 0 {
		g.end(l, true, rec.Pairs)
	} else if l.Phase != 0 {
		g.end(l, false, nil)
	}
	g.without(l.Stamp)
	g.takeWays()
}

func (g *handGate) giveUp(l impl.Live) {
	g.end(l, false, nil)
	g.free(l.Stamp)
	l.Try++
	l.Phase, l.Locked, l.Told = 0, nil, nil
	g.Lives[g.at(l.Stamp)] = l
	g.takeWays()
}

func (g *handGate) ask(c impl.Call) {
	last := lastByHand(g.Log, c.Session)
	if !numberIn(c.Number, 1, 99) {
		return
	}
	if !impl.CallOk(c) {
		g.answer(c, 9, nil)
		return
	}
	if last.Call.Number == c.Number {
		g.answer(c, last.Code, last.Vals)
		return
	}
	if last.Call.Number > c.Number || len(g.Log)+len(g.Lives) >= 60 || g.Next == 9999 {
		return
	}
	for _, l := range g.Lives {
		if l.Call.Session == c.Session && l.Call.Number >= c.Number {
			return
		}
	}
	for _, l := range slices.Clone(g.Lives) {
		if l.Call.Session == c.Session {
			g.end(l, false, nil)
			g.without(l.Stamp)
			g.takeWays()
		}
	}
	g.Lives = append(g.Lives, impl.Live{Stamp: g.Next, Try: 1, Version: mapByHand(g.Log, 0).Version, Call: c})
	g.Next++
	g.takeWays()
}

func (g *handGate) doubt(w impl.Word) {
	said := impl.Word{Kind: 6, To: w.From, Stamp: w.Stamp, Try: w.Try}
	if rec, has := recordByHand(g.Log, w.Stamp); has {
		if rec.Try == w.Try && rec.Code == 0 {
			said.Yes, said.Pairs = true, rec.Pairs
		}
	} else if l, lives := liveByHand(g.Gate, w.Stamp); lives && l.Try <= w.Try {
		return
	}
	g.say(said)
}

func (g *handGate) others(w impl.Word) {
	l, has := liveByHand(g.Gate, w.Stamp)
	if !has || l.Try != w.Try {
		return
	}
	ways := waysByHand(g.Gate, l.Stamp)
	hasWay := slices.Contains(ways, w.From)
	switch {
	case w.Kind == 3 && l.Phase != 0 && l.Try < 9999:
		g.giveUp(l)
	case w.Kind == 2 && l.Phase == 1 && hasWay:
		g.locked(l, w.From, ways)
	case w.Kind == 5 && l.Phase == 2 && hasWay && !w.Yes:
		g.giveUp(l)
	case w.Kind == 5 && l.Phase == 2 && hasWay:
		g.promised(l, w, ways)
	}
}

func (g *handGate) locked(l impl.Live, house int, ways []int) {
	if !slices.Contains(l.Locked, house) {
		l.Locked = append(l.Locked, house)
		slices.Sort(l.Locked)
	}
	all := true
	for _, way := range ways {
		all = all && slices.Contains(l.Locked, way)
	}
	if all {
		l.Phase = 2
	}
	g.Lives[g.at(l.Stamp)] = l
	if all {
		for _, way := range ways {
			g.say(impl.Word{Kind: 4, To: way, Stamp: l.Stamp, Try: l.Try})
		}
	}
}

func (g *handGate) promised(l impl.Live, w impl.Word, ways []int) {
	var told []impl.Told
	many := 0
	for house := range 3 {
		has := slices.IndexFunc(l.Told, func(x impl.Told) bool { return x.House == house })
		switch {
		case house == w.From:
			told = append(told, impl.Told{House: house, Pairs: slices.Clone(w.Pairs)})
		case has >= 0:
			told = append(told, l.Told[has])
		default:
			continue
		}
		if slices.Contains(ways, house) {
			many++
		}
	}
	l.Told = told
	g.Lives[g.at(l.Stamp)] = l
	switch {
	case many < len(ways):
		return
	case l.Version != mapByHand(g.Log, 0).Version:
		g.giveUp(l)
	default:
		g.write(l)
	}
}
