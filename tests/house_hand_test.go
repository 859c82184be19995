package tests

import (
	"slices"
	"strconv"
	"strings"

	"loop.example/turnpike/impl"
)

// What stands here does what the document says of houses in another way than the program: it asks the log anew each time, and locks by hand.

func promiseByHand(log []impl.Rec, stamp, try int) (impl.Rec, bool) {
	for _, rec := range log {
		if rec.Kind == 1 && rec.Stamp == stamp && rec.Try == try {
			return rec, true
		}
	}
	return impl.Rec{}, false
}

func endedByHand(log []impl.Rec, stamp, try int) bool {
	return slices.ContainsFunc(log, func(rec impl.Rec) bool { return rec.Kind != 1 && rec.Stamp == stamp && rec.Try == try })
}

func openByHand(h impl.House) []impl.Rec {
	var list []impl.Rec
	for _, rec := range h.Log {
		if rec.Kind == 1 && !endedByHand(h.Log, rec.Stamp, rec.Try) {
			list = append(list, rec)
		}
	}
	return list
}

// inSlots are the pairs whose keys are in slots, four keys each.
func inSlots(pairs []impl.Pair, slots []int) []impl.Pair {
	return slices.DeleteFunc(slices.Clone(pairs), func(p impl.Pair) bool { return !slices.Contains(slots, p.Key/4) })
}

func outOfSlot(pairs []impl.Pair, slot int) []impl.Pair {
	return slices.DeleteFunc(slices.Clone(pairs), func(p impl.Pair) bool { return p.Key/4 == slot })
}

func keepsByHand(h impl.House) ([]int, []impl.Pair) {
	keeps := slices.Clone([][]int{{0, 3, 6}, {1, 4, 7}, {2, 5}}[h.Id])
	var vals []impl.Pair
	for _, rec := range h.Log {
		if rec.Kind != 2 {
			continue
		}
		p, _ := promiseByHand(h.Log, rec.Stamp, rec.Try)
		if p.What == 1 {
			vals = impl.PairsPut(vals, rec.Pairs)
			continue
		}
		keeps = slices.DeleteFunc(keeps, func(slot int) bool { return slot == p.Slots[0] })
		vals = outOfSlot(vals, p.Slots[0])
		if p.What == 3 {
			keeps = append(keeps, p.Slots[0])
			slices.Sort(keeps)
			vals = impl.PairsPut(vals, rec.Pairs)
		}
	}
	return keeps, vals
}

func numberIn(number, least, most int) bool {
	return least <= number && number <= most
}

func deedByHand(stamp, try, what int, slots []int) bool {
	for _, slot := range slots {
		if !numberIn(slot, 0, 7) {
			return false
		}
	}
	most := map[int]int{1: 8, 2: 1, 3: 1}[what]
	return numberIn(stamp, 1, 9999) && numberIn(try, 1, 9999) && numberIn(len(slots), 1, most) && ascendingByHand(slots)
}

func recOkByHand(ahead []impl.Rec, rec impl.Rec) bool {
	p, promised := promiseByHand(ahead, rec.Stamp, rec.Try)
	if rec.Kind == 1 {
		return !promised && len(rec.Pairs) == 0 && deedByHand(rec.Stamp, rec.Try, rec.What, rec.Slots)
	}
	if !numberIn(rec.Kind, 2, 3) || !promised || endedByHand(ahead, rec.Stamp, rec.Try) || rec.What != 0 || len(rec.Slots) > 0 {
		return false
	}
	if rec.Kind == 3 && len(rec.Pairs) > 0 || len(inSlots(rec.Pairs, p.Slots)) < len(rec.Pairs) {
		return false
	}
	var keys []int
	for _, x := range rec.Pairs {
		if !numberIn(x.Key, 0, 31) || !magnitudeByHand(x.Val) {
			return false
		}
		keys = append(keys, x.Key)
	}
	return ascendingByHand(keys)
}

func houseOkByHand(h impl.House) bool {
	if !numberIn(h.Id, 0, 2) || len(h.Log) > 400 || !numberIn(h.Forced, 0, len(h.Log)) || len(h.Works) > 12 || len(h.Locks) != 8 {
		return false
	}
	for i, rec := range h.Log {
		if !recOkByHand(h.Log[:i], rec) {
			return false
		}
	}
	var stamps []int
	for _, w := range h.Works {
		if !deedByHand(w.Stamp, w.Try, w.What, w.Slots) {
			return false
		}
		stamps = append(stamps, w.Stamp)
	}
	for slot, l := range h.Locks {
		if l.Slot != slot || !okByHand(l) || !h.Up && len(l.Held)+len(l.Waits) > 0 {
			return false
		}
	}
	if !ascendingByHand(stamps) || !h.Up && len(stamps) > 0 {
		return false
	}
	for _, p := range openByHand(h) {
		for _, slot := range p.Slots {
			if x := ofStamp(h.Locks[slot].Held, p.Stamp); h.Up && (x.Try != p.Try || !x.Firm) {
				return false
			}
		}
	}
	return true
}

// handHouse is a house that hears by hand, and what it said.
type handHouse struct {
	impl.House
	words []impl.Word
}

func hearByHand(h impl.House, w impl.Word) (impl.House, []impl.Word) {
	if !houseOkByHand(h) {
		return impl.House{}, nil
	}
	is := &handHouse{House: cloneHouse(h)}
	if h.Up && wordOkByHand(w) && w.To == h.Id && w.From == 9 && w.Stamp > 0 && w.Try > 0 {
		switch w.Kind {
		case 1:
			is.lock(w)
		case 4:
			is.promise(w)
		case 6:
			is.end(w)
		}
	}
	if !houseOkByHand(is.House) {
		return cloneHouse(h), nil
	}
	return is.House, is.words
}

func (h *handHouse) say(kind, stamp, try int) {
	h.words = append(h.words, impl.Word{Kind: kind, From: h.Id, To: 9, Stamp: stamp, Try: try})
}

func (h *handHouse) yes(p impl.Rec) {
	_, vals := keepsByHand(h.House)
	h.words = append(h.words, impl.Word{Kind: 5, From: h.Id, To: 9, Stamp: p.Stamp, Try: p.Try, Yes: true, Pairs: inSlots(vals, p.Slots)})
}

// work tells nothing, Stamp 0, if there is none of that stamp.
func (h *handHouse) work(stamp int) impl.Work {
	for _, w := range h.Works {
		if w.Stamp == stamp {
			return w
		}
	}
	return impl.Work{}
}

func (h *handHouse) without(stamp int) {
	h.Works = slices.DeleteFunc(h.Works, func(w impl.Work) bool { return w.Stamp == stamp })
}

func hasAllByHand(h impl.House, w impl.Work) bool {
	for _, slot := range w.Slots {
		if x := ofStamp(h.Locks[slot].Held, w.Stamp); x.Stamp == 0 || x.Try != w.Try {
			return false
		}
	}
	return true
}

func suitsByHand(h impl.House, w impl.Work) bool {
	keeps, _ := keepsByHand(h)
	for _, slot := range w.Slots {
		if slices.Contains(keeps, slot) != (w.What != 3) {
			return false
		}
	}
	return true
}

func (h *handHouse) tell(w impl.Work) {
	if suitsByHand(h.House, w) {
		h.say(2, w.Stamp, w.Try)
	} else {
		h.say(3, w.Stamp, w.Try)
	}
}

func (h *handHouse) free(stamp, try int) {
	had := map[int]bool{}
	for _, w := range h.Works {
		had[w.Stamp] = hasAllByHand(h.House, w)
	}
	for slot, l := range h.Locks {
		h.Locks[slot] = freeByHand(l, stamp, try).lock
	}
	for _, w := range h.Works {
		if w.Stamp != stamp && !had[w.Stamp] && hasAllByHand(h.House, w) {
			h.tell(w)
		}
	}
}

func (h *handHouse) lock(w impl.Word) {
	mine := workOf(w.Stamp, w.Try, w.What, slices.Clone(w.Slots)...)
	has := h.work(w.Stamp)
	if _, twice := promiseByHand(h.Log, w.Stamp, w.Try); twice || !deedByHand(w.Stamp, w.Try, w.What, w.Slots) || has.Try > w.Try || has.Stamp == 0 && len(h.Works) == 12 {
		return
	}
	if has.Try == w.Try {
		mine = has
	}
	if has.Try == w.Try && hasAllByHand(h.House, has) {
		h.tell(has)
		return
	}
	if has.Stamp > 0 && has.Try < w.Try {
		h.without(w.Stamp)
		h.free(w.Stamp, has.Try)
	}
	h.without(w.Stamp)
	h.Works = append(h.Works, mine)
	slices.SortFunc(h.Works, func(a, b impl.Work) int { return a.Stamp - b.Stamp })
	var taken []int
	for _, slot := range mine.Slots {
		is := askByHand(h.Locks[slot], alone(w.Stamp, w.Try))
		h.Locks[slot] = is.lock
		for _, x := range is.taken {
			taken = append(taken, x.Stamp)
		}
	}
	for _, stamp := range taken {
		if x := h.work(stamp); x.Stamp > 0 {
			h.without(stamp)
			h.say(3, x.Stamp, x.Try)
			h.free(stamp, x.Try)
		}
	}
	if hasAllByHand(h.House, mine) {
		h.tell(mine)
	}
}

func (h *handHouse) promise(w impl.Word) {
	if p, has := promiseByHand(h.Log, w.Stamp, w.Try); has {
		if !endedByHand(h.Log, w.Stamp, w.Try) {
			h.yes(p)
		}
		return
	}
	has := h.work(w.Stamp)
	room := 400 - len(h.Log) - len(openByHand(h.House))
	if has.Stamp == 0 || has.Try != w.Try || !hasAllByHand(h.House, has) || !suitsByHand(h.House, has) || room < 2 {
		h.say(5, w.Stamp, w.Try)
		return
	}
	for _, slot := range has.Slots {
		for i, x := range h.Locks[slot].Held {
			h.Locks[slot].Held[i].Firm = x.Firm || x.Stamp == w.Stamp
		}
	}
	h.Log = append(h.Log, promiseRec(w.Stamp, w.Try, has.What, has.Slots...))
	h.Forced = len(h.Log)
	h.without(w.Stamp)
	h.yes(h.Log[len(h.Log)-1])
}

func (h *handHouse) end(w impl.Word) {
	has := h.work(w.Stamp)
	goes := has.Stamp > 0 && has.Try <= w.Try
	p, promised := promiseByHand(h.Log, w.Stamp, w.Try)
	if promised && !endedByHand(h.Log, w.Stamp, w.Try) {
		if w.Yes {
			h.Log = append(h.Log, doneRec(w.Stamp, w.Try, inSlots(w.Pairs, p.Slots)...))
		} else {
			h.Log = append(h.Log, undoneRec(w.Stamp, w.Try))
		}
		if goes {
			h.without(w.Stamp)
		}
		h.free(w.Stamp, w.Try)
	} else if goes && !w.Yes {
		h.without(w.Stamp)
		h.free(w.Stamp, has.Try)
	}
}

// What follows tells houses and words in short, and reads words, so that tests can be read.

var (
	whatNames = []string{"nothing", "deal", "out", "in"}
	kindNames = []string{"none", "lock", "locked", "taken", "promise", "promised", "end", "doubt", "ask", "answer"}
	recNames  = []string{"none", "promise", "done", "undone"}
)

func tellName(stamp, try int) string {
	return " " + strconv.Itoa(stamp) + "." + strconv.Itoa(try)
}

func tellDeed(stamp, try, what int, slots []int) string {
	text := tellName(stamp, try) + " " + whatNames[what]
	for _, slot := range slots {
		text += " " + strconv.Itoa(slot)
	}
	return text
}

func tellPairs(pairs []impl.Pair) string {
	text := ""
	for _, p := range pairs {
		text += " " + strconv.Itoa(p.Key) + "=" + strconv.Itoa(p.Val)
	}
	return text
}

func tellRec(rec impl.Rec) string {
	if rec.Kind == impl.RecPromise {
		return recNames[rec.Kind] + tellDeed(rec.Stamp, rec.Try, rec.What, rec.Slots) + tellPairs(rec.Pairs)
	}
	return recNames[rec.Kind] + tellName(rec.Stamp, rec.Try) + tellPairs(rec.Pairs)
}

func tellHolds(name string, list []impl.Hold) string {
	text := ""
	for i, h := range list {
		if i == 0 {
			text += name
		} else {
			text += ","
		}
		text += tellName(h.Stamp, h.Try)
		if h.Share {
			text += " share"
		}
		if h.Firm {
			text += " firm"
		}
	}
	return text
}

// tellHouse tells all of a house that is ok; what is nothing it leaves out, and of endedPairs it tells how many they are.
func tellHouse(h impl.House) string {
	parts := []string{"house " + strconv.Itoa(h.Id) + " down"}
	if h.Up {
		parts[0] = "house " + strconv.Itoa(h.Id) + " up"
	}
	log, ended := h.Log, 0
	for len(log) > 1 && sameRec(log[1], undoneRec(5000+ended, 1)) {
		log, ended = log[2:], ended+1
	}
	if ended > 0 {
		parts = append(parts, strconv.Itoa(ended)+" ended")
	}
	for _, rec := range log {
		parts = append(parts, tellRec(rec))
	}
	if h.Forced > 0 {
		parts = append(parts, "forced "+strconv.Itoa(h.Forced))
	}
	for _, w := range h.Works {
		parts = append(parts, "work"+tellDeed(w.Stamp, w.Try, w.What, w.Slots))
	}
	for _, l := range h.Locks {
		if len(l.Held)+len(l.Waits) > 0 {
			parts = append(parts, "slot "+strconv.Itoa(l.Slot)+tellHolds(" held", l.Held)+tellHolds(" waits", l.Waits))
		}
	}
	return strings.Join(parts, "; ")
}

// tellWords tells all that a house may say; of a word that says anything else it says so.
func tellWords(id int, words []impl.Word) string {
	var parts []string
	for _, w := range words {
		text := kindNames[w.Kind] + tellName(w.Stamp, w.Try)
		if w.Yes {
			text += " yes"
		} else if w.Kind == impl.WordPromised {
			text += " no"
		}
		plain := impl.Word{Kind: w.Kind, From: id, To: impl.WordGate, Stamp: w.Stamp, Try: w.Try, Yes: w.Yes, Pairs: w.Pairs}
		if !sameWord(w, plain) {
			text += " and more"
		}
		parts = append(parts, text+tellPairs(w.Pairs))
	}
	return strings.Join(parts, "; ")
}

// readWord reads what is said to a house in short: lock 5.1 deal 0 3, promise 5.1, end 5.1 yes 1=8, end 5.1.
func readWord(id int, text string) impl.Word {
	parts := strings.Fields(text)
	stamp, try, _ := strings.Cut(parts[1], ".")
	w := impl.Word{Kind: slices.Index(kindNames, parts[0]), From: impl.WordGate, To: id, Stamp: readNumber(stamp), Try: readNumber(try)}
	for _, part := range parts[2:] {
		key, val, isPair := strings.Cut(part, "=")
		switch what := slices.Index(whatNames, part); {
		case what >= 0:
			w.What = what
		case part == "yes":
			w.Yes = true
		case isPair:
			w.Pairs = append(w.Pairs, impl.Pair{Key: readNumber(key), Val: readNumber(val)})
		default:
			w.Slots = append(w.Slots, readNumber(part))
		}
	}
	return w
}

func readNumber(text string) int {
	number, err := strconv.Atoi(text)
	if err != nil {
		panic("no number: " + text)
	}
	return number
}

// readWords reads several, with a semicolon between.
func readWords(id int, text string) []impl.Word {
	var list []impl.Word
	for _, part := range strings.Split(text, ";") {
		if strings.TrimSpace(part) != "" {
			list = append(list, readWord(id, part))
		}
	}
	return list
}
