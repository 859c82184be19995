package tests

import (
	"math/rand"
	"slices"
	"testing"

	"loop.example/turnpike/impl"
)

// town is a gate with all houses, the words between them, and what each client asks for last; it waits as long as that has a number.
type town struct {
	gate     impl.Gate
	houses   []impl.House
	words    []impl.Word
	asks     [3]impl.Call
	answered int
}

func newTown() *town {
	w := &town{gate: impl.GateStart()}
	for id := range 3 {
		w.houses = append(w.houses, impl.HouseStart(id))
	}
	return w
}

// bring takes a word away, unless it comes once more.
func (w *town) bring(t *testing.T, at int, again bool) {
	word := w.words[at]
	if !again {
		w.words = slices.Delete(slices.Clone(w.words), at, at+1)
	}
	var said []impl.Word
	switch {
	case word.To == impl.WordGate:
		w.gate, said = impl.GateHear(w.gate, word)
	case word.To < 3:
		w.houses[word.To], said = impl.HouseHear(w.houses[word.To], word)
	case word.Call.Number == w.asks[word.Call.Session].Number:
		w.asks[word.Call.Session] = impl.Call{}
		w.answered++
		last := lastByHand(w.gate.Log, word.Call.Session)
		if last.Call.Number != word.Call.Number || last.Code != word.Code || !slices.Equal(last.Vals, word.Vals) {
			t.Errorf("was answered %#v", word)
		}
	}
	w.words = append(w.words, said...)
}

func (w *town) tend(who int) {
	if who == 3 {
		w.words = append(w.words, impl.GateTend(w.gate)...)
		return
	}
	w.words = append(w.words, impl.HouseTend(w.houses[who])...)
}

func (w *town) fall(r *rand.Rand, who int) {
	if who == 3 {
		w.gate = impl.GateFall(w.gate)
		return
	}
	w.houses[who] = impl.HouseFall(w.houses[who], r.Intn(3))
}

// happens lets one thing happen: mostly a word is brought, some are lost or come twice, and anybody may fall, or ask again.
func (w *town) happens(t *testing.T, r *rand.Rand, numbers *[3]int) {
	session, who := r.Intn(3), r.Intn(4)
	switch x := r.Intn(40); {
	case x < 2 && w.asks[session].Number == 0:
		numbers[session]++
		w.asks[session] = makeAsk(r, session, numbers[session])
	case x < 5 && w.asks[session].Number > 0:
		w.words = append(w.words, askWord(w.asks[session]))
	case x < 6 && r.Intn(3) == 0:
		w.fall(r, who)
	case x < 9:
		w.gate = impl.GateRise(w.gate)
		w.houses[session] = impl.HouseRise(w.houses[session])
	case x < 12:
		w.tend(who)
	case len(w.words) > 60:
		w.words = w.words[1:]
	case len(w.words) > 0:
		w.bring(t, r.Intn(len(w.words))*r.Intn(2), r.Intn(16) == 0)
	}
}

func (w *town) bringAll(t *testing.T) {
	for many := 0; len(w.words) > 0 && many < 1000; many++ {
		w.bring(t, 0, false)
	}
}

// calm lets all rise, and all that is missing be said, several times.
func (w *town) calm(t *testing.T) {
	for range 5 {
		w.gate = impl.GateRise(w.gate)
		for id := range w.houses {
			w.houses[id] = impl.HouseRise(w.houses[id])
		}
		w.bringAll(t)
		for _, c := range w.asks {
			if c.Number > 0 {
				w.words = append(w.words, askWord(c))
				w.bringAll(t)
			}
		}
		for who := range 4 {
			w.tend(who)
			w.bringAll(t)
		}
	}
}

// as asks that the houses have what the books would have by all that was written down, and that nothing is under way.
func (w *town) as(t *testing.T, b impl.Books) {
	if !w.gate.Up || len(w.gate.Lives)+len(w.gate.Ways) > 0 || !sameMap(impl.GateMap(w.gate), b.Map) {
		t.Error("is", tellGate(w.gate), "the books have", b.Map)
	}
	for _, h := range w.houses {
		slots, vals := impl.HouseKeeps(h)
		var want []int
		for slot, house := range b.Map.Owners {
			if house == h.Id {
				want = append(want, slot)
			}
		}
		if !slices.Equal(slots, want) || !slices.Equal(vals, inSlots(b.Store, want)) || len(impl.HouseOpen(h))+len(h.Works) > 0 {
			t.Error("is", tellHouse(h), "the books have", want, inSlots(b.Store, want))
		}
	}
}

// What houses and the gate do together is what one machine would do, in the order in which it was written down.
func TestPromise57WithHouses(t *testing.T) {
	answered, moved := 0, 0
	for seed := range int64(150) {
		r := rand.New(rand.NewSource(seed))
		w, numbers := newTown(), [3]int{}
		for range 100 + r.Intn(500) {
			if len(w.gate.Log) < 50 {
				w.happens(t, r, &numbers)
			}
		}
		w.calm(t)
		calls := impl.GateCalls(w.gate)
		w.as(t, impl.BooksOf(calls))
		for i, rec := range w.gate.Log {
			if s := saidOf(impl.BooksOf(calls[:i+1]), rec.Call.Session); s.Number != rec.Call.Number || s.Code != rec.Code || !slices.Equal(s.Vals, rec.Vals) {
				t.Error(tellRecord(rec), "the books say", s)
			}
		}
		for _, c := range w.asks {
			if c.Number > 0 {
				t.Error("waits:", tellCall(c))
			}
		}
		answered, moved = answered+w.answered, moved+impl.GateMap(w.gate).Version-1
		if t.Failed() {
			t.Fatal("seed", seed)
		}
	}
	if answered < 500 || moved < 100 {
		t.Error("only so many:", answered, moved)
	}
}
