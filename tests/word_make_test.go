package tests

import (
	"math"
	"math/rand"
	"slices"
	"strings"
	"testing"

	"loop.example/turnpike/impl"
)

const manyWords = 20000

// everyPlace is written out as the document counts places: houses, the gate, clients.
var everyPlace = []int{0, 1, 2, 9, 100, 101, 102}

// numberOfWord is one number of a word, and all that it may be, from least to most, span by span.
type numberOfWord struct {
	name  string
	of    func(w *impl.Word) *int
	spans [][2]int
}

func numbersOfWord() []numberOfWord {
	places := [][2]int{{0, 2}, {9, 9}, {100, 102}}
	upToStamp := [][2]int{{0, 9999}}
	return []numberOfWord{
		{"Kind", func(w *impl.Word) *int { return &w.Kind }, [][2]int{{1, 9}}},
		{"From", func(w *impl.Word) *int { return &w.From }, places},
		{"To", func(w *impl.Word) *int { return &w.To }, places},
		{"Stamp", func(w *impl.Word) *int { return &w.Stamp }, upToStamp},
		{"Try", func(w *impl.Word) *int { return &w.Try }, upToStamp},
		{"What", func(w *impl.Word) *int { return &w.What }, [][2]int{{0, 3}}},
		{"Code", func(w *impl.Word) *int { return &w.Code }, [][2]int{{0, 9}}},
		{"Call.Session", func(w *impl.Word) *int { return &w.Call.Session }, upToStamp},
		{"Call.Number", func(w *impl.Word) *int { return &w.Call.Number }, upToStamp},
		{"Call.Kind", func(w *impl.Word) *int { return &w.Call.Kind }, upToStamp},
		{"Call.Slot", func(w *impl.Word) *int { return &w.Call.Slot }, upToStamp},
		{"Call.To", func(w *impl.Word) *int { return &w.Call.To }, upToStamp},
	}
}

func (f numberOfWord) may(number int) bool {
	return slices.ContainsFunc(f.spans, func(span [2]int) bool { return span[0] <= number && number <= span[1] })
}

// with is the word with another number there; the word itself stays.
func (f numberOfWord) with(w impl.Word, number int) impl.Word {
	*f.of(&w) = number
	return w
}

// edges are the ends of all spans, and one more on each side of each.
func (f numberOfWord) edges() []int {
	var list []int
	for _, span := range f.spans {
		list = append(list, span[0]-1, span[0], span[1], span[1]+1)
	}
	return list
}

func (f numberOfWord) make(r *rand.Rand) int {
	span := f.spans[r.Intn(len(f.spans))]
	if r.Intn(3) == 0 {
		return span[r.Intn(2)]
	}
	return span[0] + r.Intn(span[1]-span[0]+1)
}

// someWord has something of all that a word may tell, and is ok.
func someWord() impl.Word {
	return impl.Word{
		Kind: impl.WordPromised, From: 1, To: impl.WordGate, Stamp: 12, Try: 3, What: impl.WhatOut, Yes: true,
		Slots: []int{1, 4, 6}, Pairs: []impl.Pair{{Key: 0, Val: 5}, {Key: 17}, {Key: 31, Val: -5}},
		Code: impl.CodeSame, Vals: []int{7, 0, -7},
		Call: impl.Call{Session: 2, Number: 8, Kind: impl.AskDeal, Text: "add 1 2;get 1;", Slot: 3, To: 1},
	}
}

// baseWords are words that are ok, of each kind, from the barest to one that has as much of all as there may be.
func baseWords() []impl.Word {
	most := impl.Word{
		Kind: impl.WordAnswer, From: 102, To: 102, Stamp: 9999, Try: 9999, What: impl.WhatIn, Yes: true,
		Slots: []int{0, 1, 2, 3, 4, 5, 6, 7}, Pairs: everyKey(-9999), Code: 9, Vals: []int{9999, -9999, 9999, -9999, 9999, -9999},
		Call: impl.Call{Session: 9999, Number: 9999, Kind: 9999, Text: strings.Repeat("\xff", 80), Slot: 9999, To: 9999},
	}
	list := []impl.Word{someWord(), most}
	for kind := 1; kind <= 9; kind++ {
		list = append(list, impl.Word{Kind: kind})
	}
	return list
}

func sameWord(a, b impl.Word) bool {
	return slices.Equal(a.Slots, b.Slots) && slices.Equal(a.Pairs, b.Pairs) && slices.Equal(a.Vals, b.Vals) && sameBareWord(a, b)
}

// sameBareWord looks at all but the lists.
func sameBareWord(a, b impl.Word) bool {
	for _, f := range numbersOfWord() {
		if *f.of(&a) != *f.of(&b) {
			return false
		}
	}
	return a.Yes == b.Yes && a.Call == b.Call
}

func cloneWord(w impl.Word) impl.Word {
	w.Slots, w.Pairs, w.Vals = slices.Clone(w.Slots), slices.Clone(w.Pairs), slices.Clone(w.Vals)
	return w
}

// ascendingByHand sorts, and drops what stands twice: nothing may be another then.
func ascendingByHand(list []int) bool {
	other := slices.Clone(list)
	slices.Sort(other)
	return slices.Equal(slices.Compact(other), list)
}

func magnitudeByHand(val int) bool {
	return val != math.MinInt && max(val, -val) <= 9999
}

func wordOkByHand(w impl.Word) bool {
	for _, f := range numbersOfWord() {
		if !f.may(*f.of(&w)) {
			return false
		}
	}
	for _, slot := range w.Slots {
		if slot < 0 || slot > 7 {
			return false
		}
	}
	var keys []int
	for _, p := range w.Pairs {
		if p.Key < 0 || p.Key > 31 || !magnitudeByHand(p.Val) {
			return false
		}
		keys = append(keys, p.Key)
	}
	for _, val := range w.Vals {
		if !magnitudeByHand(val) {
			return false
		}
	}
	return ascendingByHand(w.Slots) && ascendingByHand(keys) && len(w.Vals) <= 6 && len(w.Call.Text) <= 80
}

func makeBytes(r *rand.Rand, size int) string {
	list := make([]byte, size)
	for i := range list {
		list[i] = byte(r.Intn(256))
	}
	return string(list)
}

// makeWord tells any word that is ok, also such as nobody sends.
func makeWord(r *rand.Rand) impl.Word {
	w := impl.Word{Yes: r.Intn(2) == 0, Pairs: makePairs(r)}
	for _, f := range numbersOfWord() {
		w = f.with(w, f.make(r))
	}
	for slot := range impl.MapSlots {
		if r.Intn(2) == 0 {
			w.Slots = append(w.Slots, slot)
		}
	}
	for range r.Intn(impl.DealMaxOps + 1) {
		w.Vals = append(w.Vals, makeNum(r))
	}
	w.Call.Text = makeBytes(r, []int{0, 1, 40, impl.DealMaxText - 1, impl.DealMaxText}[r.Intn(5)])
	return w
}

// eachWord asks of many words that are ok; what is handed in must stay.
func eachWord(t *testing.T, seed int64, look func(r *rand.Rand, w impl.Word)) {
	t.Helper()
	r := rand.New(rand.NewSource(seed))
	for range manyWords {
		w := makeWord(r)
		kept := cloneWord(w)
		look(r, w)
		if !sameWord(w, kept) {
			t.Error("an argument was changed")
		}
		if t.Failed() {
			t.Fatalf("word %#v", kept)
		}
	}
}

// someOf leaves out about half of a list.
func someOf[T any](r *rand.Rand, list []T) []T {
	var some []T
	for _, one := range list {
		if r.Intn(2) == 0 {
			some = append(some, one)
		}
	}
	return some
}
