package tests

import (
	"slices"
	"strconv"
	"strings"
	"testing"

	"loop.example/turnpike/impl"
)

// What stands here tells gates and their words in short, and reads what the gate hears, so that tests can be read.

func tellNumbers(list []int) string {
	text := ""
	for _, number := range list {
		text += " " + strconv.Itoa(number)
	}
	return text
}

func tellCall(c impl.Call) string {
	text := " " + strconv.Itoa(c.Session) + "." + strconv.Itoa(c.Number)
	if c.Kind == impl.AskMove {
		return text + " move" + tellNumbers([]int{c.Slot, c.To})
	}
	return text + " " + c.Text
}

func tellRecord(rec impl.Record) string {
	return "wrote" + tellName(rec.Stamp, rec.Try) + " of" + tellCall(rec.Call) + " code" + tellNumbers(append([]int{rec.Code}, rec.Vals...)) + tellPairs(rec.Pairs)
}

func tellLive(l impl.Live) string {
	text := []string{"waits", "locks", "promises"}[l.Phase] + tellName(l.Stamp, l.Try) + " by " + strconv.Itoa(l.Version) + " of" + tellCall(l.Call)
	if len(l.Locked) > 0 {
		text += " locked" + tellNumbers(l.Locked)
	}
	for _, told := range l.Told {
		text += " told " + strconv.Itoa(told.House) + ":" + tellPairs(told.Pairs)
	}
	return text
}

// tellGate tells all of a gate that is ok, but that it is up, and in its first life; of manyRecords it tells how many they are.
func tellGate(g impl.Gate) string {
	parts := []string{"next " + strconv.Itoa(g.Next)}
	if g.Life != 1 {
		parts[0] = "life " + strconv.Itoa(g.Life) + " " + parts[0]
	}
	if !g.Up {
		parts[0] = "down " + parts[0]
	}
	many := len(g.Log)
	for many > 0 && (many < 6 || !slices.EqualFunc(g.Log[:many], manyRecords(many), sameRecord)) {
		many--
	}
	if many > 0 {
		parts = append(parts, strconv.Itoa(many)+" wrote")
	}
	for _, rec := range g.Log[many:] {
		parts = append(parts, tellRecord(rec))
	}
	for _, l := range g.Lives {
		parts = append(parts, tellLive(l))
	}
	for house := range 3 {
		text := ""
		for _, way := range g.Ways {
			if way.House == house {
				text += " " + strconv.Itoa(way.Stamp)
			}
		}
		if text != "" {
			parts = append(parts, "ways "+strconv.Itoa(house)+":"+text)
		}
	}
	return strings.Join(parts, " | ")
}

// tellGateWord tells all that the gate may say; of a word that says anything else it says so.
func tellGateWord(w impl.Word) string {
	text, plain := "", impl.Word{}
	switch w.Kind {
	case impl.WordAnswer:
		text = " " + strconv.Itoa(w.Call.Session) + "." + strconv.Itoa(w.Call.Number) + tellNumbers(append([]int{w.Code}, w.Vals...))
		plain = impl.Word{To: 100 + w.Call.Session, Code: w.Code, Vals: w.Vals, Call: impl.Call{Session: w.Call.Session, Number: w.Call.Number}}
	case impl.WordLock:
		text = " " + strconv.Itoa(w.To) + tellDeed(w.Stamp, w.Try, w.What, w.Slots)
		plain = impl.Word{To: w.To, Stamp: w.Stamp, Try: w.Try, What: w.What, Slots: w.Slots}
	default:
		text = " " + strconv.Itoa(w.To) + tellName(w.Stamp, w.Try)
		if w.Yes {
			text += " yes"
		}
		text += tellPairs(w.Pairs)
		plain = impl.Word{To: w.To, Stamp: w.Stamp, Try: w.Try, Yes: w.Yes, Pairs: w.Pairs}
	}
	plain.Kind, plain.From = w.Kind, impl.WordGate
	if !sameWord(w, plain) {
		text += " and more"
	}
	return kindNames[w.Kind] + text
}

// isEndToAll says whether a list begins with one end that is said to all houses, in order.
func isEndToAll(words []impl.Word) bool {
	if len(words) < 3 {
		return false
	}
	for house, w := range words[:3] {
		is := words[0]
		is.To = house
		if w.Kind != impl.WordEnd || !sameWord(w, is) {
			return false
		}
	}
	return true
}

func tellGateWords(words []impl.Word) string {
	var parts []string
	for len(words) > 0 {
		text := tellGateWord(words[0])
		if isEndToAll(words) {
			text = "end all" + strings.TrimPrefix(text, "end 0")
			words = words[2:]
		}
		parts, words = append(parts, text), words[1:]
	}
	return strings.Join(parts, " | ")
}

// readCall reads 0.1 add 0 5;get 0; or 0.1 move 3 0.
func readCall(text string) impl.Call {
	name, rest, _ := strings.Cut(text, " ")
	session, number, _ := strings.Cut(name, ".")
	c := dealCall(readNumber(session), readNumber(number), rest)
	if where, isMove := strings.CutPrefix(rest, "move "); isMove {
		slot, to, _ := strings.Cut(where, " ")
		c = moveCall(c.Session, c.Number, readNumber(slot), readNumber(to))
	}
	return c
}

// readGateWord reads what is said to the gate in short: ask and a call, locked 0 1.1, taken 0 1.1, promised 0 1.1 yes 1=8, promised 0 1.1, doubt 0 1.1.
func readGateWord(text string) impl.Word {
	kind, rest, _ := strings.Cut(strings.TrimSpace(text), " ")
	if kind == "ask" {
		return askWord(readCall(rest))
	}
	from, rest, _ := strings.Cut(rest, " ")
	w := readWord(impl.WordGate, kind+" "+rest)
	w.From = readNumber(from)
	return w
}

// readNumbers reads what stands there up to what is none, and tells the rest.
func readNumbers(text string) (list []int, rest []string) {
	rest = strings.Fields(text)
	for len(rest) > 0 && !strings.Contains(rest[0], "=") {
		list, rest = append(list, readNumber(rest[0])), rest[1:]
	}
	return list, rest
}

func readPairs(list []string) []impl.Pair {
	var pairs []impl.Pair
	for _, text := range list {
		key, val, _ := strings.Cut(text, "=")
		pairs = append(pairs, impl.Pair{Key: readNumber(key), Val: readNumber(val)})
	}
	return pairs
}

func readName(text string) (stamp, try int) {
	first, second, _ := strings.Cut(text, ".")
	return readNumber(first), readNumber(second)
}

// readRecord reads 1.1 of 0.1 get 0; code 0 5 0=7.
func readRecord(text string) impl.Record {
	name, rest, _ := strings.Cut(text, " of ")
	call, rest, _ := strings.Cut(rest, " code ")
	numbers, pairs := readNumbers(rest)
	rec := impl.Record{Call: readCall(call), Code: numbers[0], Vals: numbers[1:], Pairs: readPairs(pairs)}
	rec.Stamp, rec.Try = readName(name)
	return rec
}

// readLive reads 1.1 by 2 of 0.1 get 0; locked 0 1 told 0: 0=7 told 1:.
func readLive(phase int, text string) impl.Live {
	text, told, _ := strings.Cut(text, " told ")
	text, locked, _ := strings.Cut(text, " locked ")
	name, text, _ := strings.Cut(text, " by ")
	version, call, _ := strings.Cut(text, " of ")
	l := impl.Live{Phase: phase, Version: readNumber(version), Call: readCall(call)}
	l.Stamp, l.Try = readName(name)
	l.Locked, _ = readNumbers(locked)
	for _, one := range strings.Split(told, " told ") {
		if house, pairs, has := strings.Cut(one, ":"); has {
			l.Told = append(l.Told, impl.Told{House: readNumber(house), Pairs: readPairs(strings.Fields(pairs))})
		}
	}
	return l
}

// readGate reads what tellGate tells of a gate that is up.
func readGate(text string) impl.Gate {
	g := impl.Gate{Up: true, Life: 1}
	for _, part := range strings.Split(text, " | ") {
		kind, rest, _ := strings.Cut(part, " ")
		switch kind {
		case "next":
			g.Next = readNumber(rest)
		case "wrote":
			g.Log = append(g.Log, readRecord(rest))
		case "waits", "locks", "promises":
			g.Lives = append(g.Lives, readLive(slices.Index([]string{"waits", "locks", "promises"}, kind), rest))
		case "ways":
			house, stamps, _ := strings.Cut(rest, ":")
			for _, stamp := range strings.Fields(stamps) {
				g.Ways = append(g.Ways, impl.Way{House: readNumber(house), Stamp: readNumber(stamp)})
			}
		default:
			g.Log = append(g.Log, manyRecords(readNumber(kind))...)
		}
	}
	if tellGate(g) != text {
		panic("read otherwise: " + text + " is " + tellGate(g))
	}
	return g
}

// gateBy is a gate behind what happens to it, with a bar between: words, falls and rises.
func gateBy(g impl.Gate, text string) impl.Gate {
	for _, part := range strings.Split(text, " | ") {
		switch part {
		case "":
		case "fall":
			g = impl.GateFall(g)
		case "rise":
			g = impl.GateRise(g)
		default:
			g, _ = impl.GateHear(g, readGateWord(part))
		}
	}
	return g
}

func fromStart(text string) impl.Gate {
	return gateBy(impl.GateStart(), text)
}

// gateCase is what a gate hears, and what it is then; nothing, if it stays.
type gateCase struct {
	name, gate, hears, then, says string
}

// hearAllOfGate asks the program, and the other way of doing it as well; of says how a case tells its gate.
func hearAllOfGate(t *testing.T, of func(text string) impl.Gate, list []gateCase) {
	t.Helper()
	for _, c := range list {
		g, w := of(c.gate), readGateWord(c.hears)
		if !gateOkByHand(g) || !wordOkByHand(w) {
			t.Error(c.name, "no gate, or no word:", c.gate, c.hears)
		}
		kept, keptWord := cloneGate(g), cloneWord(w)
		want := c.then
		if want == "" {
			want = tellGate(g)
		}
		is, words := impl.GateHear(g, w)
		if tellGate(is) != want || tellGateWords(words) != c.says {
			t.Errorf("%s:\nis    %s\nasked %s\nsays  %s\nasked %s", c.name, tellGate(is), want, tellGateWords(words), c.says)
		}
		byHand, wordsByHand := hearGateByHand(g, w)
		if !sameGate(is, byHand) || !sameWords(words, wordsByHand) {
			t.Errorf("%s: by hand\nis    %s\nsays  %s", c.name, tellGate(byHand), tellGateWords(wordsByHand))
		}
		if !sameGate(g, kept) || !sameWord(w, keptWord) {
			t.Error(c.name, "an argument was changed")
		}
	}
}
