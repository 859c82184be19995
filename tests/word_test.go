package tests

import (
	"math"
	"math/rand"
	"slices"
	"strings"
	"testing"

	"loop.example/turnpike/impl"
)

// eachBase changes one thing of words that are ok otherwise, and asks whether they are ok then.
func eachBase(t *testing.T, name string, want bool, change func(w *impl.Word)) {
	t.Helper()
	for _, w := range baseWords() {
		change(&w)
		kept := cloneWord(w)
		if is := impl.WordOk(w); is != want {
			t.Errorf("%s: ok %v of %#v", name, is, w)
		}
		if !sameWord(w, kept) {
			t.Errorf("%s: an argument was changed: %#v", name, w)
		}
	}
}

func TestPromise32WordsThatAreOk(t *testing.T) {
	eachBase(t, "as they are", true, func(w *impl.Word) {})
	eachBase(t, "with Yes", true, func(w *impl.Word) { w.Yes = true })
	eachBase(t, "without Yes", true, func(w *impl.Word) { w.Yes = false })
	if impl.WordOk(impl.Word{}) {
		t.Error("nothing is a word")
	}
}

// The document's own numbers, so that a name that has another one is seen.
func TestPromise32NamesOfKindsAndPlaces(t *testing.T) {
	kinds := []int{impl.WordLock, impl.WordLocked, impl.WordTaken, impl.WordPromise, impl.WordPromised, impl.WordEnd, impl.WordDoubt, impl.WordAsk, impl.WordAnswer}
	if !slices.Equal(kinds, []int{1, 2, 3, 4, 5, 6, 7, 8, 9}) {
		t.Error("kinds:", kinds)
	}
	if whats := []int{impl.WhatDeal, impl.WhatOut, impl.WhatIn}; !slices.Equal(whats, []int{1, 2, 3}) {
		t.Error("deeds:", whats)
	}
	if places := []int{impl.WordGate, impl.WordClient}; !slices.Equal(places, []int{9, 100}) {
		t.Error("places:", places)
	}
}

func TestPromise32EdgesOfNumbers(t *testing.T) {
	for _, f := range numbersOfWord() {
		for _, number := range append(f.edges(), math.MinInt, math.MinInt+100, math.MinInt+101, math.MaxInt, math.MaxInt-1) {
			eachBase(t, f.name, f.may(number), func(w *impl.Word) { *f.of(w) = number })
		}
	}
}

func TestPromise32EveryNumber(t *testing.T) {
	for _, f := range numbersOfWord() {
		for number := -11000; number <= 11000; number++ {
			if w := f.with(someWord(), number); impl.WordOk(w) != f.may(number) {
				t.Fatal(f.name, number)
			}
		}
	}
}

func TestPromise32EveryTwoPlaces(t *testing.T) {
	for from := -3; from <= 120; from++ {
		for to := -3; to <= 120; to++ {
			w := someWord()
			w.From, w.To = from, to
			if want := slices.Contains(everyPlace, from) && slices.Contains(everyPlace, to); impl.WordOk(w) != want {
				t.Error(from, to, !want)
			}
		}
	}
}

// eachShortList tells all lists of at most three numbers from least to most.
func eachShortList(least, most int, tell func(list []int)) {
	tell(nil)
	for a := least; a <= most; a++ {
		tell([]int{a})
		for b := least; b <= most; b++ {
			tell([]int{a, b})
			for c := least; c <= most; c++ {
				tell([]int{a, b, c})
			}
		}
	}
}

func TestPromise32SlotsOfWords(t *testing.T) {
	for _, slots := range [][]int{nil, {}, {0}, {7}, {0, 7}, {3, 4}, {0, 1, 2, 3, 4, 5, 6, 7}} {
		eachBase(t, "slots in order", true, func(w *impl.Word) { w.Slots = slots })
	}
	for _, slots := range [][]int{
		{0, 0}, {7, 7}, {1, 4, 4}, {1, 1, 4}, {7, 0}, {4, 3}, {1, 6, 4}, {0, 1, 2, 3, 4, 5, 7, 6},
		{0, 1, 2, 3, 4, 5, 6, 7, 7}, {0, 1, 2, 3, 4, 5, 6, 7, 8}, {0, 1, 2, 3, 4, 5, 6, 7, 0}, {-1, 0, 1, 2, 3, 4, 5, 6, 7}, make([]int, 100000),
	} {
		eachBase(t, "slots out of order", false, func(w *impl.Word) { w.Slots = slots })
	}
	for _, none := range noSlots {
		for _, slots := range [][]int{{none}, {none, 7}, {0, none}, {0, none, 7}} {
			eachBase(t, "one that is none", false, func(w *impl.Word) { w.Slots = slots })
		}
	}
	eachShortList(-1, 8, func(list []int) {
		w := someWord()
		w.Slots = list
		if impl.WordOk(w) != wordOkByHand(w) {
			t.Error("slots:", list)
		}
	})
}

func TestPromise32PairsOfWords(t *testing.T) {
	for _, pairs := range [][]impl.Pair{
		nil, {}, {{Key: 0}}, {{Key: 31}}, {{Key: 0, Val: 9999}, {Key: 31, Val: -9999}}, {{Key: 3, Val: 1}, {Key: 4}, {Key: 5, Val: 1}},
		everyKey(0), everyKey(1), everyKey(9999), everyKey(-9999),
	} {
		eachBase(t, "pairs in form", true, func(w *impl.Word) { w.Pairs = pairs })
	}
	for _, pairs := range append(pairsNotInForm(), append(everyKey(0), everyKey(0)...), make([]impl.Pair, 100000)) {
		eachBase(t, "pairs not in form", false, func(w *impl.Word) { w.Pairs = pairs })
	}
	eachShortList(-1, 33, func(keys []int) {
		w := someWord()
		w.Pairs = nil
		for _, key := range keys {
			w.Pairs = append(w.Pairs, impl.Pair{Key: key})
		}
		if impl.WordOk(w) != wordOkByHand(w) {
			t.Error("keys:", keys)
		}
	})
}

func TestPromise32ValsOfWords(t *testing.T) {
	for many := range 10 {
		eachBase(t, "so many", many <= 6, func(w *impl.Word) { w.Vals = make([]int, many) })
	}
	for at := range 6 {
		for _, val := range []int{-9999, -9998, -1, 0, 1, 9998, 9999} {
			eachBase(t, "a value", true, func(w *impl.Word) { w.Vals = make([]int, 6); w.Vals[at] = val })
		}
		for _, val := range []int{math.MinInt, -10000, 10000, math.MaxInt} {
			eachBase(t, "no value", false, func(w *impl.Word) { w.Vals = make([]int, at+1); w.Vals[at] = val })
		}
	}
	// Vals have no order of their own, and may stand twice.
	for _, vals := range [][]int{nil, {}, {5, 5}, {5, -5, 0}, {9999, 9999, 9999, -9999, -9999, -9999}} {
		eachBase(t, "in any order", true, func(w *impl.Word) { w.Vals = vals })
	}
}

// A text of a word is any bytes, of which their number alone counts, not that of the letters that they are.
func TestPromise32TextsOfWords(t *testing.T) {
	for size := range 200 {
		text := strings.Repeat("x", size)
		eachBase(t, "so many bytes", size <= 80, func(w *impl.Word) { w.Call.Text = text })
	}
	for b := range 256 {
		one := string([]byte{byte(b)})
		eachBase(t, "80 of any byte", true, func(w *impl.Word) { w.Call.Text = strings.Repeat(one, 80) })
		eachBase(t, "81 of any byte", false, func(w *impl.Word) { w.Call.Text = strings.Repeat(one, 81) })
	}
	for _, text := range []string{"", "no deal at all", "get 1", "get 32;", "\x00", strings.Repeat("\u00e4", 40), strings.Repeat("\u20ac", 26)} {
		eachBase(t, "any text", true, func(w *impl.Word) { w.Call.Text = text })
	}
	for _, text := range []string{strings.Repeat("\u00e4", 41), strings.Repeat("\u20ac", 27), strings.Repeat("get 1;", 14), strings.Repeat("\x00", 100000)} {
		eachBase(t, "too many bytes", false, func(w *impl.Word) { w.Call.Text = text })
	}
}

// A word carries calls that are none as well, as long as their numbers are within bounds; who hears it answers them.
func TestPromise32CallsOfWords(t *testing.T) {
	calls := append(callsNotOk(), dealCall(0, 1, "get 1;"), moveCall(2, impl.BooksMaxCall, 7, 2), moveCall(9999, 9999, 9999, 9999))
	seen := map[bool]int{}
	for _, c := range calls {
		w := impl.Word{Kind: impl.WordAsk, From: impl.WordClient, To: impl.WordGate, Call: c}
		want := wordOkByHand(w)
		seen[want]++
		eachBase(t, "call", want, func(w *impl.Word) { w.Call = c })
	}
	if seen[true] < 20 || seen[false] < 10 {
		t.Error("too few of a kind:", seen)
	}
}

func TestPromise32FewerSlotsAndPairs(t *testing.T) {
	eachWord(t, 32, func(r *rand.Rand, w impl.Word) {
		if !impl.WordOk(w) || !wordOkByHand(w) {
			t.Error("not ok")
		}
		less := w
		less.Slots, less.Pairs = someOf(r, w.Slots), someOf(r, w.Pairs)
		if !impl.WordOk(less) {
			t.Errorf("with fewer: %#v", less)
		}
		less.Slots, less.Pairs = w.Slots[:r.Intn(len(w.Slots)+1)], w.Pairs[:r.Intn(len(w.Pairs)+1)]
		if !impl.WordOk(less) {
			t.Errorf("with the first: %#v", less)
		}
		less.Slots, less.Pairs = nil, nil
		if !impl.WordOk(less) {
			t.Errorf("with none: %#v", less)
		}
	})
}

// Less are also lesser numbers, down to 0, fewer values, and a shorter text; a kind, or a place, has no lesser ones.
func TestPromise32LessOfTheRest(t *testing.T) {
	eachWord(t, 33, func(r *rand.Rand, w impl.Word) {
		less := w
		for _, f := range numbersOfWord() {
			if f.name != "Kind" && f.name != "From" && f.name != "To" {
				less = f.with(less, r.Intn(*f.of(&w)+1))
			}
		}
		less.Vals = someOf(r, w.Vals)
		less.Call.Text = w.Call.Text[:r.Intn(len(w.Call.Text)+1)]
		if !impl.WordOk(less) {
			t.Errorf("less: %#v", less)
		}
		if bare := (impl.Word{Kind: w.Kind, From: w.From, To: w.To}); !impl.WordOk(bare) {
			t.Errorf("nothing else: %#v", bare)
		}
	})
}

func TestPromise32PlacesThatNobodyHas(t *testing.T) {
	eachWord(t, 34, func(r *rand.Rand, w impl.Word) {
		for _, place := range []int{math.MinInt, -102, -100, -1, 3, 8, 10, 99, 103, 109, 200, math.MaxInt, 3 + r.Intn(6), 10 + r.Intn(90), 103 + r.Intn(99999), -1 - r.Intn(99999)} {
			to, from := w, w
			to.To, from.From = place, place
			if impl.WordOk(to) || impl.WordOk(from) {
				t.Error("a place that nobody has:", place)
			}
		}
		for _, place := range everyPlace {
			to, from := w, w
			to.To, from.From = place, place
			if !impl.WordOk(to) || !impl.WordOk(from) {
				t.Error("a place that somebody has:", place)
			}
		}
	})
}

// spoilAnyOf changes one thing of a word, in memory of its own; it may be ok still.
func spoilAnyOf(r *rand.Rand, w impl.Word) impl.Word {
	w = cloneWord(w)
	numbers := numbersOfWord()
	switch r.Intn(5) {
	case 0:
		w.Slots = slices.Insert(w.Slots, r.Intn(len(w.Slots)+1), r.Intn(impl.MapSlots+2)-1)
	case 1:
		w.Pairs = slices.Insert(w.Pairs, r.Intn(len(w.Pairs)+1), impl.Pair{Key: r.Intn(impl.DealKeys+2) - 1, Val: makeNum(r)})
	case 2:
		w.Vals = slices.Insert(w.Vals, r.Intn(len(w.Vals)+1), r.Intn(30000)-15000)
	case 3:
		w.Call.Text += makeBytes(r, r.Intn(3))
	default:
		f := numbers[r.Intn(len(numbers))]
		edges := f.edges()
		w = f.with(w, edges[r.Intn(len(edges))])
	}
	return w
}

func TestPromise32AnyWords(t *testing.T) {
	seen := map[bool]int{}
	eachWord(t, 35, func(r *rand.Rand, w impl.Word) {
		spoilt := spoilAnyOf(r, w)
		want := wordOkByHand(spoilt)
		seen[want]++
		if impl.WordOk(spoilt) != want {
			t.Errorf("ok %v of %#v", !want, spoilt)
		}
	})
	if seen[true] < manyWords/10 || seen[false] < manyWords/10 {
		t.Error("too few of a kind:", seen)
	}
}
