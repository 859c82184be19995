package tests

import (
	"math/rand"
	"slices"
	"testing"

	"loop.example/turnpike/impl"
)

func TestPromise50AsByHand(t *testing.T) {
	said := map[int]int{}
	some := 0
	eachGate(t, 121, eitherGate, func(r *rand.Rand, g impl.Gate, w impl.Word) {
		for _, x := range []impl.Word{w, makeGateWord(r, g), makeGateWord(r, g), makeVainGateWord(r, g)} {
			is, words := impl.GateHear(g, x)
			byHand, wordsByHand := hearGateByHand(g, x)
			if !sameGate(is, byHand) || !sameWords(words, wordsByHand) {
				t.Errorf("word %#v\nis    %.3000s\nsays  %s\nasked %.3000s\nsays  %s", x, tellGate(is), tellGateWords(words), tellGate(byHand), tellGateWords(wordsByHand))
			}
			for _, one := range words {
				said[one.Kind]++
			}
			if len(words) > 5 {
				some++
			}
		}
	})
	for _, kind := range []int{impl.WordLock, impl.WordPromise, impl.WordEnd, impl.WordAnswer} {
		if said[kind] < 300 || some < 50 {
			t.Error("too few of a kind:", said, some)
		}
	}
}

func TestPromise50NothingSpoilsIt(t *testing.T) {
	wrote := 0
	eachGate(t, 122, eitherGate, func(r *rand.Rand, g impl.Gate, w impl.Word) {
		any := makeWord(r)
		any.To = impl.WordGate
		for _, x := range []impl.Word{w, makeWord(r), any} {
			is, words := impl.GateHear(g, x)
			if !impl.GateOk(is) || !gateOkByHand(is) {
				t.Error("not ok:", tellGate(is))
			}
			for _, one := range words {
				if !impl.WordOk(one) || !wordOkByHand(one) || one.From != impl.WordGate {
					t.Errorf("says %#v", one)
				}
			}
			if len(is.Log) < len(g.Log) || !slices.EqualFunc(is.Log[:len(g.Log)], g.Log, sameRecord) {
				t.Error("what was written down is", tellGate(is))
			}
			if is.Life != g.Life || is.Up != g.Up || is.Next < g.Next {
				t.Error("it is", tellGate(is))
			}
			if len(is.Log) > len(g.Log) {
				wrote++
			}
		}
		for _, one := range impl.GateTend(g) {
			if !impl.WordOk(one) || one.From != impl.WordGate {
				t.Errorf("says again %#v", one)
			}
		}
	})
	if wrote < manyGates/20 {
		t.Error("only so many wrote:", wrote)
	}
}

func TestPromise50WhatIsNotForIt(t *testing.T) {
	would := 0
	eachGate(t, 123, eitherGate, func(r *rand.Rand, g impl.Gate, w impl.Word) {
		for range 4 {
			x := makeVainGateWord(r, g)
			if is, words := impl.GateHear(g, x); !sameGate(is, g) || len(words) > 0 {
				t.Errorf("hears %#v: %s\nsays %s", x, tellGate(is), tellGateWords(words))
			}
		}
		down := impl.GateFall(g)
		if is, words := impl.GateHear(down, w); !sameGate(is, down) || len(words) > 0 {
			t.Error("is down, and hears:", tellGate(is), tellGateWords(words))
		}
		if _, words := impl.GateHear(g, w); len(words) > 0 {
			would++
		}
	})
	if would < manyGates/3 {
		t.Error("only so many words did something:", would)
	}
}

// Words that would do something do nothing from another place, to another one, or of another kind.
func TestPromise50EachPlaceAndKind(t *testing.T) {
	g := fromStart("ask 0.1 get 0;get 4; | ask 1.1 get 8; | locked 2 2.1 | ask 2.1 move 3 0")
	hears := map[string][]int{
		"locked 0 1.1": {0, 1}, "taken 0 1.1": {0, 1, 2}, "promised 2 2.1 yes": {2}, "promised 2 2.1": {2}, "doubt 0 3.1": {0, 1, 2}, "doubt 0 9.9": {0, 1, 2},
		"ask 0.2 get 0;": {100}, "ask 1.1 what": {101}, "ask 2.1 move 3 0": {102},
	}
	for text, places := range hears {
		w := readGateWord(text)
		for _, place := range append([]int{-1, 3, 8, 10, 99, 103}, everyPlace...) {
			w.From = place
			is, words := impl.GateHear(g, w)
			if does := !sameGate(is, g) || len(words) > 0; does != slices.Contains(places, place) {
				t.Errorf("%s from %d: %s says %s", text, place, tellGate(is), tellGateWords(words))
			}
		}
		w.From = places[0]
		for _, place := range append([]int{-1, 3, 8, 10, 99, 103}, everyPlace...) {
			w.To = place
			if is, words := impl.GateHear(g, w); place != impl.WordGate && (!sameGate(is, g) || len(words) > 0) {
				t.Errorf("%s to %d: %s says %s", text, place, tellGate(is), tellGateWords(words))
			}
		}
		w.To = impl.WordGate
		for _, kind := range []int{-1, 0, impl.WordLock, impl.WordPromise, impl.WordEnd, impl.WordAnswer, 10} {
			w.Kind = kind
			if is, words := impl.GateHear(g, w); !sameGate(is, g) || len(words) > 0 {
				t.Errorf("%s of kind %d: %s says %s", text, kind, tellGate(is), tellGateWords(words))
			}
		}
	}
}

// What a word of its kind need not tell changes nothing.
func TestPromise50WhatAWordNeedNotTell(t *testing.T) {
	does := map[int]int{}
	eachGate(t, 124, eitherGate, func(r *rand.Rand, g impl.Gate, w impl.Word) {
		more := makeWord(r)
		bare := impl.Word{Kind: w.Kind, From: w.From, To: w.To, Stamp: w.Stamp, Try: w.Try}
		more.Kind, more.From, more.To, more.Stamp, more.Try = bare.Kind, bare.From, bare.To, bare.Stamp, bare.Try
		switch w.Kind {
		case impl.WordAsk:
			bare.Stamp, bare.Try, more.Stamp, more.Try = 0, 0, 9999, r.Intn(3)
			bare.Call, more.Call = w.Call, w.Call
		case impl.WordPromised:
			bare.Yes, bare.Pairs, more.Yes, more.Pairs = w.Yes, w.Pairs, w.Yes, w.Pairs
		}
		is, words := impl.GateHear(g, bare)
		if other, others := impl.GateHear(g, more); !sameGate(is, other) || !sameWords(words, others) {
			t.Errorf("with more, %#v:\nis %s\nsays %s\nis %s\nsays %s", more, tellGate(is), tellGateWords(words), tellGate(other), tellGateWords(others))
		}
		if len(words) > 0 {
			does[w.Kind]++
		}
	})
	for _, kind := range []int{impl.WordAsk, impl.WordLocked, impl.WordPromised, impl.WordDoubt} {
		if does[kind] < 50 {
			t.Error("too few of a kind:", does)
		}
	}
}

func TestPromise51NothingIsDoneTwice(t *testing.T) {
	again, below := 0, 0
	eachGate(t, 125, eitherGate, func(r *rand.Rand, g impl.Gate, w impl.Word) {
		for session := range 3 {
			last := lastByHand(g.Log, session)
			for number := 1; g.Up && number <= last.Call.Number; number++ {
				var want []impl.Word
				if number == last.Call.Number {
					want = []impl.Word{{Kind: impl.WordAnswer, From: impl.WordGate, To: 100 + session, Code: last.Code, Vals: last.Vals, Call: impl.Call{Session: session, Number: number}}}
					again++
				} else {
					below++
				}
				if is, words := impl.GateHear(g, askWord(makeAsk(r, session, number))); !sameGate(is, g) || !sameWords(words, want) {
					t.Error(session, number, "is", tellGate(is), "says", tellGateWords(words))
				}
			}
		}
	})
	if again < manyGates/2 || below < manyGates/2 {
		t.Error("only so many:", again, below)
	}
}

// No two records are of one call, however often it comes.
func TestPromise51OnceEach(t *testing.T) {
	many := 0
	eachGate(t, 126, walkGate, func(r *rand.Rand, g impl.Gate, w impl.Word) {
		g, _ = impl.GateHear(g, w)
		seen := map[[2]int]int{}
		for _, c := range impl.GateCalls(g) {
			seen[[2]int{c.Session, c.Number}]++
			many++
		}
		for call, times := range seen {
			if times > 1 {
				t.Error(call, "was written down so often:", times)
			}
		}
	})
	if many < manyGates {
		t.Error("only so many calls:", many)
	}
}

func TestPromise52Answers(t *testing.T) {
	seen := map[string]int{}
	eachGate(t, 127, eitherGate, func(r *rand.Rand, g impl.Gate, w impl.Word) {
		for _, x := range []impl.Word{w, makeGateWord(r, g), makeAskWord(r, g)} {
			is, words := impl.GateHear(g, x)
			for _, one := range words {
				if one.Kind != impl.WordAnswer {
					continue
				}
				last := lastByHand(is.Log, one.Call.Session)
				wrote := last.Call.Number == one.Call.Number && last.Code == one.Code && slices.Equal(last.Vals, one.Vals)
				none := x.Kind == impl.WordAsk && !impl.CallOk(x.Call) && one.Code == impl.CodeBad && len(one.Vals) == 0 && x.Call.Session == one.Call.Session && x.Call.Number == one.Call.Number
				switch {
				case wrote && len(is.Log) > len(g.Log):
					seen["new"]++
				case wrote:
					seen["again"]++
				case none:
					seen["none"]++
				default:
					t.Errorf("%#v\nanswers %#v", x, one)
				}
				if one.To != 100+one.Call.Session || one.Call != (impl.Call{Session: one.Call.Session, Number: one.Call.Number}) {
					t.Errorf("answers %#v", one)
				}
			}
			if answers := len(slices.DeleteFunc(words, func(one impl.Word) bool { return one.Kind != impl.WordAnswer })); answers < len(is.Log)-len(g.Log) {
				t.Error("writes down so many, and answers so many:", len(is.Log)-len(g.Log), answers)
			}
		}
	})
	if seen["new"] < 100 || seen["again"] < 100 || seen["none"] < 50 {
		t.Error("too few of a kind:", seen)
	}
}

func TestPromise53Ways(t *testing.T) {
	full, waits := 0, 0
	eachGate(t, 128, eitherGate, func(r *rand.Rand, g impl.Gate, w impl.Word) {
		is, _ := impl.GateHear(g, w)
		many := map[int]int{}
		for i, way := range is.Ways {
			l, has := liveByHand(is, way.Stamp)
			if many[way.House]++; many[way.House] > 2 || !has || l.Phase == 0 || slices.Contains(is.Ways[:i], way) {
				t.Error("ways:", tellGate(is))
			}
			if many[way.House] == 2 {
				full++
			}
		}
		for _, l := range is.Lives {
			if l.Phase == 0 {
				waits++
			}
		}
	})
	if full < manyGates/10 || waits < manyGates/10 {
		t.Error("only so many were full, or waited:", full, waits)
	}
}

// By words alone a call that does not wait has ways to just its houses, by the map by which it began.
func TestPromise53ToAllItsHouses(t *testing.T) {
	some := 0
	eachGate(t, 129, walkGate, func(r *rand.Rand, g impl.Gate, w impl.Word) {
		for _, l := range g.Lives {
			var needs []int
			if l.Phase > 0 {
				needs = needsByHand(mapByHand(g.Log, l.Version), l.Call)
				some++
			}
			if !slices.Equal(waysByHand(g, l.Stamp), needs) {
				t.Error(tellLive(l), "needs", needs)
			}
		}
	})
	if some < manyGates/4 {
		t.Error("only so many:", some)
	}
}

func TestPromise54HowItEnded(t *testing.T) {
	seen := map[string]int{}
	eachGate(t, 130, eitherGate, func(r *rand.Rand, g impl.Gate, _ impl.Word) {
		for stamp := 1; g.Up && stamp <= min(g.Next+1, 12); stamp++ {
			for try := 1; try <= 4; try++ {
				w := houseWord(impl.WordDoubt, r.Intn(3), stamp, try)
				want := []impl.Word{{Kind: impl.WordEnd, From: impl.WordGate, To: w.From, Stamp: stamp, Try: try}}
				rec, wrote := recordByHand(g.Log, stamp)
				l, lives := liveByHand(g, stamp)
				switch {
				case wrote && rec.Try == try && rec.Code == impl.CodeDone:
					want[0].Yes, want[0].Pairs = true, rec.Pairs
					seen["done"]++
				case lives && try >= l.Try:
					want = nil
					seen["under way"]++
				default:
					seen["not"]++
				}
				if is, words := impl.GateHear(g, w); !sameGate(is, g) || !sameWords(words, want) {
					t.Error(stamp, try, "is", tellGate(is), "says", tellGateWords(words))
				}
			}
		}
	})
	if seen["done"] < 300 || seen["under way"] < 300 || seen["not"] < 300 {
		t.Error("too few of a kind:", seen)
	}
}

// A life, word by word: what is a stamp's own stays so, and what was told of an end is never told otherwise.
func TestPromise55StampsOfALife(t *testing.T) {
	r := rand.New(rand.NewSource(131))
	given, told := 0, 0
	for range manyGates / 20 {
		g := impl.GateStart()
		calls, ends := map[int]impl.Call{}, map[[2]int]bool{}
		for range 120 {
			w := makeGateWord(r, g)
			next, words := impl.GateHear(g, w)
			if r.Intn(40) == 0 {
				next = impl.GateRise(impl.GateFall(next))
			}
			if next.Next < g.Next {
				t.Error("the next stamp falls")
			}
			var all []impl.Live
			for _, rec := range next.Log {
				all = append(all, impl.Live{Stamp: rec.Stamp, Call: rec.Call})
			}
			for _, l := range slices.Concat(all, next.Lives) {
				c, known := calls[l.Stamp]
				if known && c != l.Call || l.Stamp >= next.Next || !known && l.Stamp < g.Next {
					t.Error("the stamp", l.Stamp, "was of", c, "and is of", l.Call)
				}
				calls[l.Stamp] = l.Call
				given++
			}
			for _, x := range words {
				// What is none yet did not end so far.
				if x.Kind == impl.WordEnd && x.Stamp < g.Next {
					yes, known := ends[[2]int{x.Stamp, x.Try}]
					if known && yes != x.Yes {
						t.Error("it ended in two ways:", x)
					}
					ends[[2]int{x.Stamp, x.Try}] = x.Yes
					told++
				}
			}
			if t.Failed() {
				t.Fatalf("gate %.3000s\nword %#v", tellGate(g), w)
			}
			g = next
		}
	}
	if given < 1000 || told < 1000 {
		t.Error("only so many:", given, told)
	}
}

func TestPromise58EldersCountForNothing(t *testing.T) {
	elder, later := 0, 0
	eachGate(t, 132, eitherGate, func(r *rand.Rand, g impl.Gate, _ impl.Word) {
		for _, l := range g.Lives {
			for _, try := range []int{1, l.Try - 1, l.Try + 1, 9999} {
				for _, kind := range []int{impl.WordLocked, impl.WordTaken, impl.WordPromised} {
					w := houseWord(kind, r.Intn(3), l.Stamp, try)
					w.Yes = r.Intn(2) == 0
					if is, words := impl.GateHear(g, w); try != l.Try && (!sameGate(is, g) || len(words) > 0) {
						t.Error(try, "is", tellGate(is), "says", tellGateWords(words))
					}
				}
				if w := houseWord(impl.WordDoubt, r.Intn(3), l.Stamp, try); try > 0 && try < l.Try {
					is, words := impl.GateHear(g, w)
					if !sameGate(is, g) || len(words) != 1 || words[0].Kind != impl.WordEnd || words[0].Yes || words[0].Try != try {
						t.Error("doubt", try, "is", tellGate(is), "says", tellGateWords(words))
					}
					elder++
				}
			}
			later++
		}
	})
	if elder < manyGates/10 || later < manyGates/2 {
		t.Error("only so many:", elder, later)
	}
}

func TestPromise59NothingByAnElderMap(t *testing.T) {
	wrote, gaveUp := 0, 0
	eachGate(t, 133, eitherGate, func(r *rand.Rand, g impl.Gate, w impl.Word) {
		for _, l := range g.Lives {
			is := g
			for _, house := range waysByHand(g, l.Stamp) {
				x := houseWord(impl.WordPromised, house, l.Stamp, l.Try)
				x.Yes, x.Pairs = true, makePairs(r)
				is, _ = impl.GateHear(is, x)
			}
			if l.Phase < 2 || sameGate(is, g) || len(waysByHand(g, l.Stamp)) == 0 {
				continue
			}
			rec, writes := recordByHand(is.Log, l.Stamp)
			now, lives := liveByHand(is, l.Stamp)
			elder := l.Version != impl.GateMap(g).Version
			switch {
			case writes && rec.Try == l.Try && !elder:
				wrote++
			case elder && (writes && rec.Try == l.Try+1 || lives && now.Try == l.Try+1):
				gaveUp++
			case l.Try == 9999 && lives && now.Try == 9999 || len(g.Log) >= 60 && !writes:
				// What can neither be given up nor written down stays.
			default:
				t.Error(tellLive(l), "is", tellGate(is))
			}
		}
	})
	if wrote < 100 || gaveUp < 50 {
		t.Error("only so many:", wrote, gaveUp)
	}
}

func TestPromise60WhatIsMissing(t *testing.T) {
	said := map[int]int{}
	eachGate(t, 134, eitherGate, func(r *rand.Rand, g impl.Gate, w impl.Word) {
		words := impl.GateTend(g)
		if !sameWords(words, tendByHand(g)) {
			t.Error("says", tellGateWords(words), "asked is", tellGateWords(tendByHand(g)))
		}
		for _, one := range words {
			l, lives := liveByHand(g, one.Stamp)
			if !lives || l.Try != one.Try || !slices.Contains(g.Ways, impl.Way{House: one.To, Stamp: one.Stamp}) {
				t.Errorf("says %#v", one)
			}
			said[one.Kind]++
		}
		if down := impl.GateFall(g); len(impl.GateTend(down)) > 0 {
			t.Error("is down, and says", tellGateWords(impl.GateTend(down)))
		}
	})
	if len(said) != 2 || said[impl.WordLock] < manyGates/10 || said[impl.WordPromise] < manyGates/10 {
		t.Error("too few of a kind:", said)
	}
}

// Who is answered all that it says again comes to its end: so nothing is missing of what it says.
func TestPromise60ItComesToAnEnd(t *testing.T) {
	lives := 0
	eachGate(t, 135, walkGate, func(r *rand.Rand, g impl.Gate, w impl.Word) {
		if len(g.Log)+len(g.Lives) > 60 || slices.ContainsFunc(g.Lives, func(l impl.Live) bool { return l.Try > 9000 }) {
			return
		}
		lives += len(g.Lives)
		for range 20 {
			for _, asked := range impl.GateTend(g) {
				answer := houseWord(asked.Kind+1, asked.To, asked.Stamp, asked.Try)
				answer.Yes = true
				g, _ = impl.GateHear(g, answer)
			}
		}
		if len(g.Lives)+len(g.Ways) > 0 {
			t.Error("under way still:", tellGate(g))
		}
	})
	if lives < manyGates/2 {
		t.Error("only so many:", lives)
	}
}

func TestPromise61WhatHousesAreAsked(t *testing.T) {
	deals, moves := 0, 0
	eachGate(t, 136, eitherGate, func(r *rand.Rand, g impl.Gate, w impl.Word) {
		is, words := impl.GateHear(g, w)
		asked := map[int][]int{}
		for _, one := range words {
			l, lives := liveByHand(is, one.Stamp)
			if one.Kind != impl.WordLock || !lives {
				continue
			}
			if l.Try != one.Try || l.Version != impl.GateMap(is).Version || !slices.Contains(is.Ways, impl.Way{House: one.To, Stamp: one.Stamp}) {
				t.Errorf("asks %#v of %s", one, tellGate(is))
			}
			keeps := func(slot int) bool { return mapByHand(is.Log, l.Version).Owners[slot] == one.To }
			for _, slot := range one.Slots {
				if one.What != impl.WhatIn && !keeps(slot) || one.What == impl.WhatIn && one.To != l.Call.To {
					t.Errorf("asks %#v of %s", one, tellGate(is))
				}
			}
			if (one.What == impl.WhatDeal) != (l.Call.Kind == impl.AskDeal) {
				t.Errorf("asks %#v of %s", one, tellGate(is))
			}
			asked[one.Stamp] = append(asked[one.Stamp], one.Slots...)
		}
		for stamp, slots := range asked {
			l, _ := liveByHand(is, stamp)
			slices.Sort(slots)
			want := impl.CallSlots(l.Call)
			if l.Call.Kind == impl.AskMove {
				want = []int{l.Call.Slot, l.Call.Slot}
				moves++
			} else {
				deals++
			}
			if !slices.Equal(slots, want) {
				t.Error("asks for", slots, "in place of", want)
			}
		}
	})
	if deals < manyGates/10 || moves < manyGates/40 {
		t.Error("only so many:", deals, moves)
	}
}

func TestPromise62TheNextStamp(t *testing.T) {
	seen := map[string]int{}
	eachGate(t, 137, eitherGate, func(r *rand.Rand, g impl.Gate, _ impl.Word) {
		for range 3 {
			w := makeAskWord(r, g)
			is, words := impl.GateHear(g, w)
			l, lives := liveByHand(is, g.Next)
			rec, wrote := recordByHand(is.Log, g.Next)
			switch {
			case lives && l.Call == w.Call && l.Try == 1 && is.Next == g.Next+1:
				seen["under way"]++
			case wrote && rec.Call == w.Call && rec.Try == 1 && rec.Code == impl.CodeSame && is.Next == g.Next+1:
				seen["written down"]++
			case lives || wrote || !sameGate(is, g):
				t.Errorf("asks %#v\nis %s", w, tellGate(is))
			case len(words) == 0 && impl.CallOk(w.Call):
				seen["nothing"]++
			default:
				seen["an answer"]++
			}
		}
	})
	for _, kind := range []string{"under way", "written down", "nothing", "an answer"} {
		if seen[kind] < 100 {
			t.Error("too few of a kind:", seen)
		}
	}
}

func TestPromise63NotUnderWay(t *testing.T) {
	many := 0
	eachGate(t, 138, eitherGate, func(r *rand.Rand, g impl.Gate, _ impl.Word) {
		stamps := []int{0, g.Next, min(g.Next+1, 9999), 9999}
		for stamp := 1; stamp < min(g.Next, 10); stamp++ {
			stamps = append(stamps, stamp)
		}
		for _, stamp := range stamps {
			if _, lives := liveByHand(g, stamp); lives {
				continue
			}
			for _, kind := range []int{impl.WordLocked, impl.WordTaken, impl.WordPromised, impl.WordDoubt} {
				w := houseWord(kind, r.Intn(3), stamp, 1+r.Intn(3))
				w.Yes, w.Pairs = r.Intn(2) == 0, makePairs(r)
				if is, words := impl.GateHear(g, w); !sameGate(is, g) || kind != impl.WordDoubt && len(words) > 0 {
					t.Errorf("hears %#v: %s\nsays %s", w, tellGate(is), tellGateWords(words))
				}
				many++
			}
		}
	})
	if many < manyGates {
		t.Error("only so many:", many)
	}
}

func TestPromise64NoneFromElders(t *testing.T) {
	took, waits := 0, 0
	eachGate(t, 139, eitherGate, func(r *rand.Rand, g impl.Gate, w impl.Word) {
		is, _ := impl.GateHear(g, w)
		for _, way := range is.Ways {
			if slices.Contains(g.Ways, way) {
				continue
			}
			took++
			for _, l := range is.Lives {
				if l.Phase == 0 && l.Stamp < way.Stamp && slices.Contains(needsByHand(impl.GateMap(is), l.Call), way.House) {
					t.Error("is", tellGate(is))
				}
			}
		}
	})
	// By words alone who waits has to: a house of it has no way left, or an elder one that waits needs it.
	eachGate(t, 140, walkGate, func(r *rand.Rand, g impl.Gate, w impl.Word) {
		var taken [3]int
		for _, way := range g.Ways {
			taken[way.House]++
		}
		for _, l := range g.Lives {
			if l.Phase > 0 {
				continue
			}
			waits++
			needs := needsByHand(impl.GateMap(g), l.Call)
			if !slices.ContainsFunc(needs, func(house int) bool { return taken[house] >= 2 }) {
				t.Error("waits for nobody:", tellLive(l))
			}
			for _, house := range needs {
				taken[house] = 2
			}
		}
	})
	if took < manyGates/10 || waits < manyGates/20 {
		t.Error("only so many:", took, waits)
	}
}
