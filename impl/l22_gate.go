package impl

import "slices"

// Limits of the gate.
const (
	GateWays    = 2
	GateMaxLife = 99
)

// Record is what the gate writes down: a call, what came of it, and what is written by it.
type Record struct {
	Stamp int
	Try   int
	Call  Call
	Code  int
	Vals  []int
	Pairs []Pair
}

// Told is what a house told of its values with its promise.
type Told struct {
	House int
	Pairs []Pair
}

// Live is a call that is under way: 0 it waits for ways, 1 houses lock, 2 houses promise.
type Live struct {
	Stamp   int
	Try     int
	Version int
	Phase   int
	Call    Call
	Locked  []int
	Told    []Told
}

// Way is a way to a house that a call has.
type Way struct {
	House int
	Stamp int
}

// Gate keeps its Log, Next (the next stamp) and Life; all else it forgets.
type Gate struct {
	Up    bool
	Life  int
	Next  int
	Log   []Record
	Lives []Live
	Ways  []Way
}

// GateStart is the gate at first.
func GateStart() Gate {
	return Gate{Up: true, Life: 1, Next: 1}
}

// GateOk says whether a gate is ok.
func GateOk(g Gate) bool {
	_, ok := wardenOf(g)
	return ok
}

// GateCalls is the calls that were written down, in order.
func GateCalls(g Gate) []Call {
	k, ok := wardenOf(g)
	if !ok {
		return nil
	}
	var list []Call
	for _, r := range k.log {
		list = append(list, r.Call)
	}
	return list
}

// GateMap is the map by what was written down.
func GateMap(g Gate) Map {
	k, ok := wardenOf(g)
	if !ok {
		return Map{}
	}
	return k.mapNow()
}

// GateFall is a gate that falls.
func GateFall(g Gate) Gate {
	k, ok := wardenOf(g)
	if !ok {
		return Gate{}
	}
	k.up, k.calls, k.ways = false, nil, nil
	return k.gate()
}

// GateRise is a gate that rises, in its next life.
func GateRise(g Gate) Gate {
	k, ok := wardenOf(g)
	if !ok {
		return Gate{}
	}
	if !k.up && k.life < GateMaxLife {
		k.up = true
		k.life++
	}
	return k.gate()
}

// GateHear is what the gate does with a word.
func GateHear(g Gate, w Word) (Gate, []Word) {
	k, ok := wardenOf(g)
	if !ok {
		return Gate{}, nil
	}
	var words []Word
	if k.up && WordOk(w) && w.To == WordGate {
		k.hear(w, func(said Word) { words = append(words, said.ofGate()) })
	}
	next := k.gate()
	if !GateOk(next) {
		return copyGate(g), nil
	}
	return next, words
}

// GateTend is what the gate says again from time to time.
func GateTend(g Gate) []Word {
	k, ok := wardenOf(g)
	if !ok {
		return nil
	}
	var words []Word
	for _, call := range k.calls {
		k.ask(call, func(said Word) { words = append(words, said.ofGate()) })
	}
	return words
}

// sender gathers what is sent; it is handed on to all that may say something.
type sender func(said Word)

// ofGate is a word in memory of its own: several may tell the same pairs.
func (w Word) ofGate() Word {
	w.From = WordGate
	w.Slots = append([]int(nil), w.Slots...)
	w.Pairs = append([]Pair(nil), w.Pairs...)
	w.Vals = append([]int(nil), w.Vals...)
	return w
}

func endWord(house int, name tryName, yes bool, pairs []Pair) Word {
	w := Word{Kind: WordEnd, To: house, Stamp: name.stamp, Try: name.try, Yes: yes}
	if yes {
		w.Pairs = pairs
	}
	return w
}

// answerWord tells of the call its session and number alone: by these its client knows it.
func answerWord(c Call, code int, vals []int) Word {
	known := Call{Session: c.Session, Number: c.Number}
	return Word{Kind: WordAnswer, To: WordClient + c.Session, Code: code, Vals: vals, Call: known}
}

// Phases of a call under way.
const (
	phaseWaits    = 0
	phaseLocks    = 1
	phasePromises = 2
)

// underWay is a call under way, in one of its phases. What brings a phase on is a method of its own, which tells the next one, or the same one further on; of a call in another phase that method tells nil, as nothing comes of it then. Ways are the houses to which the call has one.
type underWay interface {
	live() Live
	setOff(version int) underWay
	locked(house int, ways []int) underWay
	promised(told Told, ways []int) underWay
	// lacks tells whether the phase waits for a house, and asks is what it says to it.
	lacks(house int) bool
	asks(house int, houses Map) Word
}

// waiting has no ways yet.
type waiting struct{ Live }

// locking waits until all its houses have locked.
type locking struct{ Live }

// promising waits until all its houses have promised.
type promising struct{ Live }

// settled has all that it needs to be written down.
type settled struct{ promising }

// phaseOf tells false, if the live tells what one in its phase may not.
func phaseOf(l Live) (underWay, bool) {
	switch l.Phase {
	case phaseWaits:
		return waiting{l}, len(l.Locked) == 0 && len(l.Told) == 0
	case phaseLocks:
		return locking{l}, len(l.Told) == 0
	case phasePromises:
		return promising{l}, true
	}
	return nil, false
}

func (l Live) live() Live { return l }

// What follows is nothing, but where a phase has its own.

func (l Live) setOff(int) underWay           { return nil }
func (l Live) locked(int, []int) underWay    { return nil }
func (l Live) promised(Told, []int) underWay { return nil }
func (l Live) lacks(int) bool                { return false }
func (l Live) asks(int, Map) Word            { return Word{} }

func (c waiting) setOff(version int) underWay {
	c.Phase, c.Version = phaseLocks, version
	return locking{c.Live}
}

func (c locking) locked(house int, ways []int) underWay {
	others, _ := parted(c.Locked, func(other int) bool { return other == house })
	c.Locked = putInOrder(others, house, func(house int) int { return house })
	if slices.ContainsFunc(ways, c.lacks) {
		return c
	}
	c.Phase = phasePromises
	return promising{c.Live}
}

func (c locking) lacks(house int) bool {
	return !slices.Contains(c.Locked, house)
}

func (c locking) asks(house int, houses Map) Word {
	what, slots := c.deed(house, houses)
	return Word{Kind: WordLock, To: house, Stamp: c.Stamp, Try: c.Try, What: what, Slots: slots}
}

func (c promising) promised(told Told, ways []int) underWay {
	others, _ := parted(c.Told, func(other Told) bool { return other.House == told.House })
	c.Told = putInOrder(others, told, houseOfTold)
	if slices.ContainsFunc(ways, c.lacks) {
		return c
	}
	return settled{c}
}

func (c promising) lacks(house int) bool {
	return !slices.ContainsFunc(c.Told, func(t Told) bool { return t.House == house })
}

func (c promising) asks(house int, _ Map) Word {
	return Word{Kind: WordPromise, To: house, Stamp: c.Stamp, Try: c.Try}
}

func (l Live) name() tryName {
	return tryName{l.Stamp, l.Try}
}

// deed is what a house is to do for a call, by a map.
func (l Live) deed(house int, houses Map) (what int, slots []int) {
	slots = CallSlots(l.Call)
	if l.Call.Kind == AskDeal {
		at, _ := housesOf(houses)
		own, _ := parted(slots, func(slot int) bool { return at.house(slot) != house })
		return WhatDeal, own
	}
	if house == l.Call.To {
		return WhatIn, slots
	}
	return WhatOut, slots
}

// isVain tells of a move that nothing would come of, so that it needs no ways.
func (l Live) isVain(houses Map) bool {
	if l.Call.Kind != AskMove {
		return false
	}
	_, code := MapMove(houses, l.Call.Slot, l.Call.To)
	return code != CodeDone
}

// record is what comes of a call by a map, and by what its houses told.
func (l Live) record(houses Map) Record {
	r := Record{Stamp: l.Stamp, Try: l.Try, Call: l.Call}
	var told []Pair
	for _, t := range l.Told {
		told = PairsPut(told, t.Pairs)
	}
	if l.Call.Kind == AskMove {
		_, r.Code = MapMove(houses, l.Call.Slot, l.Call.To)
		r.Pairs = told
		return r
	}
	deal, _ := DealRead(l.Call.Text)
	r.Code, r.Vals, r.Pairs = DealRun(deal, told)
	return r
}

func (l Live) inForm() bool {
	if l.Version < 1 || l.Version > MapMaxVersion || !housesInForm(l.Locked) || !ascends(l.Told, houseOfTold) {
		return false
	}
	for _, t := range l.Told {
		if !isHouse(t.House) || !pairsInForm(t.Pairs) {
			return false
		}
	}
	return true
}

// copy is asked when a live is told: inside all of them share what was handed in, and nothing is written there.
func (l Live) copy() Live {
	l.Locked = append([]int(nil), l.Locked...)
	told := l.Told
	l.Told = nil
	for _, t := range told {
		l.Told = append(l.Told, Told{House: t.House, Pairs: append([]Pair(nil), t.Pairs...)})
	}
	return l
}

func (r Record) copy() Record {
	r.Vals = append([]int(nil), r.Vals...)
	r.Pairs = append([]Pair(nil), r.Pairs...)
	return r
}

func stampOfLive(l Live) int {
	return l.Stamp
}

func houseOfTold(t Told) int {
	return t.House
}

func housesInForm(houses []int) bool {
	return allAre(isHouse, houses...) && ascends(houses, func(house int) int { return house })
}

// housesOfCall takes calls and maps that are ok. It may tell a house several times.
func housesOfCall(c Call, houses Map) []int {
	at, _ := housesOf(houses)
	var list []int
	for _, slot := range CallSlots(c) {
		list = append(list, at.house(slot))
	}
	if c.Kind == AskMove {
		list = append(list, c.To)
	}
	return list
}

// houseAndStamp is by what a way is known.
type houseAndStamp [2]int

// warden is a gate while something is done in it. Its lists are its own, so that they can be changed in place; calls are the eldest first.
type warden struct {
	up    bool
	life  int
	next  int
	log   []Record
	calls []underWay
	ways  map[houseAndStamp]struct{}
}

// wardenOf tells false, if the gate is not ok.
func wardenOf(g Gate) (*warden, bool) {
	k := &warden{up: g.Up, life: g.Life, next: g.Next, ways: map[houseAndStamp]struct{}{}}
	if g.Life < 1 || g.Life > GateMaxLife || !isStamp(g.Next) || !g.Up && len(g.Lives) > 0 {
		return nil, false
	}
	if !k.readLog(g.Log) || !k.readLives(g.Lives) || !k.readWays(g.Ways) {
		return nil, false
	}
	return k, true
}

func (k *warden) readLog(list []Record) bool {
	if len(list) > BooksMaxRecs {
		return false
	}
	for _, r := range list {
		if !k.mayCome(r.Stamp, r.Try, r.Call) || !isCode(r.Code) || !valsOk(r.Vals) || !pairsInForm(r.Pairs) {
			return false
		}
		k.log = append(k.log, r)
	}
	return true
}

// readLives does not count them: with one of each session they are never too many.
func (k *warden) readLives(list []Live) bool {
	if !ascends(list, stampOfLive) {
		return false
	}
	for _, l := range list {
		call, ok := phaseOf(l)
		if !ok || !l.inForm() || !k.mayCome(l.Stamp, l.Try, l.Call) {
			return false
		}
		if _, twice := k.callOfSession(l.Call.Session); twice {
			return false
		}
		k.calls = append(k.calls, call)
	}
	return true
}

func (k *warden) readWays(list []Way) bool {
	for i, w := range list {
		if i > 0 && !list[i-1].isAheadOf(w) {
			return false
		}
		l, has := k.callOfStamp(w.Stamp)
		if !isHouse(w.House) || !has || l.Phase == phaseWaits || !k.hasFreeWay(w.House) {
			return false
		}
		k.ways[houseAndStamp{w.House, w.Stamp}] = struct{}{}
	}
	return true
}

func (w Way) isAheadOf(other Way) bool {
	return w.House < other.House || w.House == other.House && w.Stamp < other.Stamp
}

// mayCome tells whether a call may stand behind all that was written down.
func (k *warden) mayCome(stamp, try int, c Call) bool {
	_, ended := k.recordOf(stamp)
	return stamp >= 1 && stamp < k.next && !ended && isStamp(try) && CallOk(c) && k.lastOf(c.Session).Call.Number < c.Number
}

// gate is in memory of its own: the warden shares records and lives with others.
func (k *warden) gate() Gate {
	g := Gate{Up: k.up, Life: k.life, Next: k.next}
	for _, r := range k.log {
		g.Log = append(g.Log, r.copy())
	}
	for _, call := range k.calls {
		g.Lives = append(g.Lives, call.live().copy())
	}
	for house := range MapHouses {
		for _, call := range k.calls {
			if stamp := call.live().Stamp; k.hasWay(house, stamp) {
				g.Ways = append(g.Ways, Way{House: house, Stamp: stamp})
			}
		}
	}
	return g
}

// copyGate takes gates that are ok.
func copyGate(g Gate) Gate {
	k, _ := wardenOf(g)
	return k.gate()
}

func (k *warden) recordOf(stamp int) (Record, bool) {
	i := slices.IndexFunc(k.log, func(r Record) bool { return r.Stamp == stamp })
	if i < 0 {
		return Record{}, false
	}
	return k.log[i], true
}

// lastOf tells nothing, with Number 0, of a session without one.
func (k *warden) lastOf(session int) Record {
	for _, r := range slices.Backward(k.log) {
		if r.Call.Session == session {
			return r
		}
	}
	return Record{}
}

func (k *warden) callOfStamp(stamp int) (Live, bool) {
	return k.callWith(func(l Live) bool { return l.Stamp == stamp })
}

func (k *warden) callOfSession(session int) (Live, bool) {
	return k.callWith(func(l Live) bool { return l.Call.Session == session })
}

func (k *warden) callWith(is func(l Live) bool) (Live, bool) {
	for _, call := range k.calls {
		if l := call.live(); is(l) {
			return l, true
		}
	}
	return Live{}, false
}

func (k *warden) mapNow() Map {
	m := MapStart()
	for _, r := range k.log {
		m = r.mapBehind(m)
	}
	return m
}

// mapOfVersion is the last map, if none has that version.
func (k *warden) mapOfVersion(version int) Map {
	m := MapStart()
	for _, r := range k.log {
		if m.Version == version {
			break
		}
		m = r.mapBehind(m)
	}
	return m
}

// mapBehind stays the same, if the move has a code by it, whatever was written down of it.
func (r Record) mapBehind(m Map) Map {
	if r.Call.Kind == AskMove && r.Code == CodeDone {
		m, _ = MapMove(m, r.Call.Slot, r.Call.To)
	}
	return m
}

func (k *warden) hasWay(house, stamp int) bool {
	_, has := k.ways[houseAndStamp{house, stamp}]
	return has
}

// waysOf are the houses, ascending, to which a call has a way.
func (k *warden) waysOf(stamp int) []int {
	var list []int
	for house := range MapHouses {
		if k.hasWay(house, stamp) {
			list = append(list, house)
		}
	}
	return list
}

func (k *warden) hasFreeWay(house int) bool {
	taken := 0
	for way := range k.ways {
		if way[0] == house {
			taken++
		}
	}
	return taken < GateWays
}

func (k *warden) freeWays(stamp int) {
	for house := range MapHouses {
		delete(k.ways, houseAndStamp{house, stamp})
	}
}

// takeWays begins anew when a call is written down, as that takes ways itself.
func (k *warden) takeWays(send sender) {
	houses := k.mapNow()
	var wanted [MapHouses]bool
	for _, call := range k.calls {
		l := call.live()
		if l.Phase != phaseWaits {
			continue
		}
		if l.isVain(houses) {
			k.writeDown(l, send)
			return
		}
		needs := housesOfCall(l.Call, houses)
		if slices.ContainsFunc(needs, func(house int) bool { return wanted[house] || !k.hasFreeWay(house) }) {
			for _, house := range needs {
				wanted[house] = true
			}
			continue
		}
		for _, house := range needs {
			k.ways[houseAndStamp{house, l.Stamp}] = struct{}{}
		}
		k.goOn(call.setOff(houses.Version), send)
	}
}

// goOn puts a call that has come into its next phase in place of what it was, and asks its houses for what the phase lacks.
func (k *warden) goOn(next underWay, send sender) {
	k.put(next)
	k.ask(next, send)
}

func (k *warden) put(next underWay) {
	for i, call := range k.calls {
		if call.live().Stamp == next.live().Stamp {
			k.calls[i] = next
		}
	}
}

func (k *warden) ask(call underWay, send sender) {
	l := call.live()
	houses := k.mapOfVersion(l.Version)
	for _, house := range k.waysOf(l.Stamp) {
		if call.lacks(house) {
			send(call.asks(house, houses))
		}
	}
}

func (k *warden) sendEnd(name tryName, yes bool, pairs []Pair, send sender) {
	for house := range MapHouses {
		send(endWord(house, name, yes, pairs))
	}
}

func (k *warden) writeDown(l Live, send sender) {
	r := l.record(k.mapNow())
	k.log = append(k.log, r)
	send(answerWord(r.Call, r.Code, r.Vals))
	if l.Phase != phaseWaits {
		k.sendEnd(l.name(), r.Code == CodeDone, r.Pairs, send)
	}
	k.leave(l, send)
}

func (k *warden) giveUp(l Live, send sender) {
	k.sendEnd(l.name(), false, nil, send)
	k.freeWays(l.Stamp)
	k.put(waiting{Live{Stamp: l.Stamp, Try: l.Try + 1, Version: l.Version, Call: l.Call}})
	k.takeWays(send)
}

// drop says the end even of a call that waits: elder tries of it may have come far.
func (k *warden) drop(l Live, send sender) {
	k.sendEnd(l.name(), false, nil, send)
	k.leave(l, send)
}

func (k *warden) leave(l Live, send sender) {
	k.freeWays(l.Stamp)
	k.calls = slices.DeleteFunc(k.calls, func(call underWay) bool { return call.live().Stamp == l.Stamp })
	k.takeWays(send)
}

func (k *warden) hear(w Word, send sender) {
	switch {
	case w.Kind == WordAsk:
		k.hearAsk(w, send)
	case !isHouse(w.From):
		return
	case w.Kind == WordDoubt:
		k.hearDoubt(w, send)
	default:
		k.hearOfTry(w, send)
	}
}

func (k *warden) hearAsk(w Word, send sender) {
	c := w.Call
	if w.From != WordClient+c.Session || !isCallNumber(c.Number) {
		return
	}
	last := k.lastOf(c.Session)
	switch {
	case !CallOk(c):
		send(answerWord(c, CodeBad, nil))
	case last.Call.Number == c.Number:
		send(answerWord(c, last.Code, last.Vals))
	case last.Call.Number < c.Number && k.hasRoom():
		k.begin(c, send)
	}
}

func (k *warden) hasRoom() bool {
	return len(k.log)+len(k.calls) < BooksMaxRecs && k.next < LockMaxStamp
}

// begin leaves a call alone that is under way, if it is the same one, or a later one of the session.
func (k *warden) begin(c Call, send sender) {
	elder, has := k.callOfSession(c.Session)
	if has && elder.Call.Number >= c.Number {
		return
	}
	if has {
		k.drop(elder, send)
	}
	k.calls = append(k.calls, waiting{Live{Stamp: k.next, Try: 1, Version: k.mapNow().Version, Call: c}})
	k.next++
	k.takeWays(send)
}

func (k *warden) hearDoubt(w Word, send sender) {
	name := tryName{w.Stamp, w.Try}
	if !name.inForm() {
		return
	}
	r, ended := k.recordOf(w.Stamp)
	l, lives := k.callOfStamp(w.Stamp)
	switch {
	case ended:
		send(endWord(w.From, name, r.Try == w.Try && r.Code == CodeDone, r.Pairs))
	case !lives || l.Try > w.Try:
		send(endWord(w.From, name, false, nil))
	}
}

func (k *warden) hearOfTry(w Word, send sender) {
	i := slices.IndexFunc(k.calls, func(call underWay) bool { return call.live().name() == tryName{w.Stamp, w.Try} })
	if i < 0 {
		return
	}
	call, hasWay := k.calls[i], k.hasWay(w.From, w.Stamp)
	switch {
	case w.Kind == WordTaken:
		k.hearTaken(call, send)
	case w.Kind == WordLocked && hasWay:
		k.hearLocked(call, w, send)
	case w.Kind == WordPromised && hasWay:
		k.hearPromised(call, w, send)
	}
}

func (k *warden) hearTaken(call underWay, send sender) {
	if l := call.live(); l.Phase != phaseWaits && l.Try < LockMaxStamp {
		k.giveUp(l, send)
	}
}

func (k *warden) hearLocked(call underWay, w Word, send sender) {
	switch next := call.locked(w.From, k.waysOf(w.Stamp)).(type) {
	case locking:
		k.put(next)
	case promising:
		k.goOn(next, send)
	}
}

// hearPromised writes nothing down of a call that began by another map than that now: its houses may not keep its slots any more.
func (k *warden) hearPromised(call underWay, w Word, send sender) {
	next := call.promised(Told{House: w.From, Pairs: w.Pairs}, k.waysOf(w.Stamp))
	done, all := next.(settled)
	switch {
	case next == nil:
		return
	case !w.Yes || all && done.Version != k.mapNow().Version:
		k.giveUp(call.live(), send)
	case all:
		k.writeDown(done.Live, send)
	default:
		k.put(next)
	}
}
