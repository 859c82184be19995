package tests

import (
	"math/rand"
	"reflect"
	"testing"

	"loop.example/turnpike/impl"
)

// houseAnswers tells what each function answers of a house, and of a word that it hears.
func houseAnswers(h impl.House, w impl.Word) map[string][]any {
	slots, vals := impl.HouseKeeps(h)
	next, words := impl.HouseHear(h, w)
	return map[string][]any{
		"HouseKeeps": {slots, vals},
		"HouseOpen":  {impl.HouseOpen(h)},
		"HouseFall":  {impl.HouseFall(h, 2), impl.HouseFall(h, -1), impl.HouseFall(h, 500)},
		"HouseRise":  {impl.HouseRise(h), impl.HouseRise(h)},
		"HouseHear":  {next, words},
		"HouseTend":  {impl.HouseTend(h)},
	}
}

// lookAtMemory hands in lists with room behind their ends, and asks that nothing is written there, and nothing shared.
func lookAtMemory(t *testing.T, h impl.House, w impl.Word) {
	t.Helper()
	h, w = roomy(h), roomy(w)
	kept := wholeOf(h, w)
	answers := houseAnswers(h, w)
	for name, answer := range answers {
		apart(t, name, answer, []any{h, w})
	}
	if !reflect.DeepEqual(wholeOf(h, w), kept) {
		t.Error("something was written into what was handed in")
	}
	// What is written into an answer, later on, changes none that comes then.
	again := houseAnswers(h, w)
	for _, answer := range answers {
		for _, one := range answer {
			spoilAll(reflect.ValueOf(one))
		}
	}
	if !reflect.DeepEqual(wholeOf(h, w), kept) || !reflect.DeepEqual(houseAnswers(h, w), again) {
		t.Error("an answer that is spoilt changes others")
	}
}

func spoilAll(v reflect.Value) {
	switch v.Kind() {
	case reflect.Slice:
		for i := range v.Cap() {
			one := v.Slice(0, v.Cap()).Index(i)
			spoilAll(one)
			fillWithNone(one)
		}
	case reflect.Struct:
		for i := range v.NumField() {
			spoilAll(v.Field(i))
		}
	}
}

func TestHousesShareNoMemory(t *testing.T) {
	r := rand.New(rand.NewSource(81))
	for range manyHouses / 5 {
		h := eitherHouse(r)
		lookAtMemory(t, h, makeHouseWord(r, h))
		lookAtMemory(t, h, makeOtherWord(r, h))
		for _, x := range known(h)[:min(len(known(h)), 3)] {
			w := impl.Word{Kind: impl.WordPromise, From: impl.WordGate, To: h.Id, Stamp: x.Stamp, Try: x.Try}
			lookAtMemory(t, h, w)
			w.Kind, w.Yes, w.Pairs = impl.WordEnd, true, makePairs(r)
			lookAtMemory(t, h, w)
		}
		if t.Failed() {
			t.Fatalf("house %.2000s", tellHouse(h))
		}
	}
	for id := range impl.MapHouses {
		apart(t, "HouseStart", []any{impl.HouseStart(id), impl.HouseStart(id)}, nil)
	}
}

func TestHousesNotOkShareNoMemory(t *testing.T) {
	for _, x := range housesNotOk() {
		lookAtMemory(t, x.house, readWord(0, "lock 5.1 deal 0 3"))
		if t.Failed() {
			t.Fatal(x.reason)
		}
	}
	// One that stays, as what would come of it is not ok: by a word, and by rising.
	stays, _ := behind(impl.HouseStart(0), readWords(0, "lock 5.1 deal 0; promise 5.1; lock 5.2 deal 3")...)
	lookAtMemory(t, stays, readWord(0, "end 5.2"))
	down := impl.House{Log: []impl.Rec{promiseRec(5, 1, 1, 0), promiseRec(6, 1, 1, 0)}, Locks: freeLocks()}
	lookAtMemory(t, down, readWord(0, "end 5.1"))
}

// What was asked of one house changes nothing of what another one answers, nor of what the same one answers later.
func TestHousesKeepNothing(t *testing.T) {
	r := rand.New(rand.NewSource(82))
	for range manyHouses / 10 {
		a, b := eitherHouse(r), eitherHouse(r)
		w, x := makeHouseWord(r, a), makeHouseWord(r, b)
		first := houseAnswers(a, w)
		houseAnswers(b, x)
		if !reflect.DeepEqual(houseAnswers(a, w), first) {
			t.Fatalf("house %.2000s", tellHouse(a))
		}
	}
}
