package tests

import (
	"math/rand"
	"reflect"
	"testing"

	"loop.example/turnpike/impl"
)

// gateAnswers tells what each function answers of a gate, and of a word that it hears.
func gateAnswers(g impl.Gate, w impl.Word) map[string][]any {
	next, words := impl.GateHear(g, w)
	return map[string][]any{
		"GateCalls": {impl.GateCalls(g)},
		"GateMap":   {impl.GateMap(g), impl.GateMap(g)},
		"GateFall":  {impl.GateFall(g), impl.GateFall(g)},
		"GateRise":  {impl.GateRise(g), impl.GateRise(g)},
		"GateHear":  {next, words},
		"GateTend":  {impl.GateTend(g), impl.GateTend(g)},
	}
}

// lookAtGateMemory hands in lists with room behind their ends, and asks that nothing is written there, and nothing shared.
func lookAtGateMemory(t *testing.T, g impl.Gate, w impl.Word) {
	t.Helper()
	g, w = roomy(g), roomy(w)
	kept := wholeOf(g, w)
	answers := gateAnswers(g, w)
	for name, answer := range answers {
		apart(t, name, answer, []any{g, w})
	}
	if !reflect.DeepEqual(wholeOf(g, w), kept) {
		t.Error("something was written into what was handed in")
	}
	// What is written into an answer, later on, changes none that comes then.
	again := gateAnswers(g, w)
	for _, answer := range answers {
		for _, one := range answer {
			spoilAll(reflect.ValueOf(one))
		}
	}
	if !reflect.DeepEqual(wholeOf(g, w), kept) || !reflect.DeepEqual(gateAnswers(g, w), again) {
		t.Error("an answer that is spoilt changes others")
	}
}

func TestGatesShareNoMemory(t *testing.T) {
	r := rand.New(rand.NewSource(111))
	for range manyGates / 5 {
		g := eitherGate(r)
		lookAtGateMemory(t, g, makeGateWord(r, g))
		lookAtGateMemory(t, g, makeVainGateWord(r, g))
		for _, l := range g.Lives {
			for _, kind := range []int{impl.WordTaken, impl.WordLocked, impl.WordPromised} {
				w := houseWord(kind, r.Intn(3), l.Stamp, l.Try)
				w.Yes, w.Pairs = true, makePairs(r)
				lookAtGateMemory(t, g, w)
			}
		}
		for _, rec := range g.Log[:min(len(g.Log), 3)] {
			lookAtGateMemory(t, g, houseWord(impl.WordDoubt, r.Intn(3), rec.Stamp, rec.Try))
			lookAtGateMemory(t, g, askWord(lastByHand(g.Log, rec.Call.Session).Call))
		}
		if t.Failed() {
			t.Fatalf("gate %.3000s", tellGate(g))
		}
	}
	apart(t, "GateStart", []any{impl.GateStart(), impl.GateStart()}, nil)
}

func TestGatesNotOkShareNoMemory(t *testing.T) {
	for _, x := range gatesNotOk() {
		lookAtGateMemory(t, x.gate, readGateWord("promised 1 11.1 yes 4=5"))
		if t.Failed() {
			t.Fatal(x.reason)
		}
	}
}

// What was asked of one gate changes nothing of what another one answers, nor of what the same one answers later.
func TestGatesKeepNothing(t *testing.T) {
	r := rand.New(rand.NewSource(112))
	for range manyGates / 10 {
		a, b := eitherGate(r), eitherGate(r)
		w, x := makeGateWord(r, a), makeGateWord(r, b)
		first := gateAnswers(a, w)
		gateAnswers(b, x)
		if !reflect.DeepEqual(gateAnswers(a, w), first) {
			t.Fatalf("gate %.3000s", tellGate(a))
		}
	}
}
