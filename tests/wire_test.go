package tests

import (
	"bytes"
	"math"
	"math/rand"
	"slices"
	"strings"
	"testing"

	"loop.example/turnpike/impl"
)

func times(many int, list ...byte) []byte {
	return bytes.Repeat(list, many)
}

// readBack asks that a word has just that row, and is read back from it.
func readBack(t *testing.T, w impl.Word, want []byte) {
	t.Helper()
	kept := cloneWord(w)
	row := impl.WordPack(w)
	if !bytes.Equal(row, want) {
		t.Errorf("row %v, not %v, of %#v", row, want, w)
	}
	is, ok := impl.WordUnpack(row)
	if !ok || !sameWord(is, w) {
		t.Errorf("read back %v %#v, not %#v", ok, is, w)
	}
	if !sameWord(w, kept) || !bytes.Equal(row, want) {
		t.Errorf("an argument was changed: %#v", kept)
	}
}

// noWord asks that a row is that of no word: nothing and false, not even a part of what it tells.
func noWord(t *testing.T, reason string, row []byte) {
	t.Helper()
	kept := slices.Clone(row)
	if w, ok := impl.WordUnpack(row); ok || !sameWord(w, impl.Word{}) {
		t.Errorf("%s: %v %#v of %v", reason, ok, w, kept)
	}
	if !bytes.Equal(row, kept) {
		t.Errorf("%s: an argument was changed: %v", reason, kept)
	}
}

// likeByHand asks that a row is read as by hand, and, if it is that of a word, is written as just that.
func likeByHand(t *testing.T, row []byte) bool {
	t.Helper()
	want, wanted := unpackByHand(row)
	kept := slices.Clone(row)
	is, ok := impl.WordUnpack(row)
	if ok != wanted || !sameWord(is, want) {
		t.Errorf("%v %#v, not %v %#v, of %v", ok, is, wanted, want, row)
	}
	if again := impl.WordPack(is); ok && !bytes.Equal(again, row) {
		t.Errorf("written as %v, read of %v", again, row)
	}
	if !bytes.Equal(row, kept) {
		t.Errorf("an argument was changed: %v", kept)
	}
	return ok
}

func TestPromise33RowsWrittenOut(t *testing.T) {
	for kind := 1; kind <= 9; kind++ {
		readBack(t, impl.Word{Kind: kind}, slices.Concat(times(1, byte(2*kind)), times(16, 0)))
	}
	// Each number another one, so that two that changed places are seen.
	readBack(t, impl.Word{
		Kind: 4, From: 2, To: 9, Stamp: 5, Try: 6, What: 3, Yes: true, Code: 8,
		Call:  impl.Call{Session: 10, Number: 11, Kind: 12, Slot: 13, To: 14, Text: "a\x00\xff"},
		Slots: []int{0, 7}, Vals: []int{20, -20, 0, 20}, Pairs: []impl.Pair{{Key: 1, Val: -30}, {Key: 31, Val: 64}},
	}, []byte{8, 4, 18, 10, 12, 6, 2, 16, 20, 22, 24, 26, 28, 6, 'a', 0, 255, 4, 0, 14, 8, 40, 39, 0, 40, 4, 2, 59, 62, 128, 1})
	readBack(t, impl.Word{Kind: impl.WordAsk, From: 102, To: 9, Call: impl.Call{Session: 2, Number: 99, Kind: impl.AskDeal, Text: "get 1;"}},
		[]byte{16, 204, 1, 18, 0, 0, 0, 0, 0, 4, 198, 1, 2, 0, 0, 12, 'g', 'e', 't', ' ', '1', ';', 0, 0, 0})
}

func TestPromise33TheFullestRow(t *testing.T) {
	w := impl.Word{
		Kind: 9, From: 102, To: 102, Stamp: 9999, Try: 9999, What: 3, Yes: true, Code: 9,
		Slots: []int{0, 1, 2, 3, 4, 5, 6, 7}, Vals: []int{9999, -9999, 9999, -9999, 9999, -9999}, Pairs: everyKey(-9999),
		Call: impl.Call{Session: 9999, Number: 9999, Kind: 9999, Slot: 9999, To: 9999, Text: strings.Repeat("\xfe", 80)},
	}
	var pairs []byte
	for key := range 32 {
		pairs = append(pairs, byte(2*key), 157, 156, 1)
	}
	readBack(t, w, slices.Concat(
		[]byte{18}, times(2, 204, 1), times(2, 158, 156, 1), []byte{6, 2, 18}, times(5, 158, 156, 1),
		[]byte{160, 1}, times(80, 254), []byte{16, 0, 2, 4, 6, 8, 10, 12, 14},
		[]byte{12}, times(3, 158, 156, 1, 157, 156, 1), []byte{64}, pairs))
}

func TestPromise33BytesOfValues(t *testing.T) {
	for _, is := range []struct {
		val  int
		want []byte
	}{
		{0, []byte{0}}, {-1, []byte{1}}, {1, []byte{2}}, {-2, []byte{3}}, {2, []byte{4}},
		{63, []byte{126}}, {-64, []byte{127}}, {64, []byte{128, 1}}, {-65, []byte{129, 1}}, {-128, []byte{255, 1}}, {128, []byte{128, 2}},
		{8191, []byte{254, 127}}, {-8192, []byte{255, 127}}, {8192, []byte{128, 128, 1}}, {-8193, []byte{129, 128, 1}},
		{9998, []byte{156, 156, 1}}, {9999, []byte{158, 156, 1}}, {-9998, []byte{155, 156, 1}}, {-9999, []byte{157, 156, 1}},
	} {
		first := slices.Concat([]byte{2}, times(14, 0))
		readBack(t, impl.Word{Kind: 1, Vals: []int{is.val}}, slices.Concat(first, []byte{2}, is.want, []byte{0}))
		readBack(t, impl.Word{Kind: 1, Vals: slices.Repeat([]int{is.val}, 6)}, slices.Concat(first, []byte{12}, times(6, is.want...), []byte{0}))
		readBack(t, impl.Word{Kind: 1, Pairs: []impl.Pair{{Key: 5, Val: is.val}}}, slices.Concat(first, []byte{0, 2, 10}, is.want))
	}
}

func TestPromise33EveryValue(t *testing.T) {
	for val := -9999; val <= 9999; val++ {
		w := someWord()
		w.Vals, w.Pairs = []int{val, -val, val}, []impl.Pair{{Key: 3, Val: val}, {Key: 30, Val: -val}}
		readBack(t, w, rowByHand(w))
	}
}

func TestPromise33EveryNumber(t *testing.T) {
	for _, f := range numbersOfWord() {
		for _, span := range f.spans {
			for number := span[0]; number <= span[1]; number++ {
				w := f.with(someWord(), number)
				readBack(t, w, rowByHand(w))
			}
		}
	}
}

func TestPromise33EveryTwoOfLists(t *testing.T) {
	for set := range 256 {
		w := someWord()
		w.Slots = nil
		for slot := range 8 {
			if set>>slot&1 == 1 {
				w.Slots = append(w.Slots, slot)
			}
		}
		readBack(t, w, rowByHand(w))
	}
	for many := range 33 {
		for vals := range 7 {
			w := someWord()
			w.Vals, w.Pairs = make([]int, vals), everyKey(-64)[:many]
			readBack(t, w, rowByHand(w))
		}
	}
}

// A text is any bytes: also such as are no letters, or would be a number that goes on.
func TestPromise33TextsOfAnyBytes(t *testing.T) {
	for b := range 256 {
		one := string([]byte{byte(b)})
		for _, text := range []string{one, one + one, "x" + one, one + "x", strings.Repeat(one, 63), strings.Repeat(one, 64), strings.Repeat(one, 79), strings.Repeat(one, 80)} {
			for _, w := range baseWords() {
				w.Call.Text = text
				readBack(t, w, rowByHand(w))
			}
		}
	}
	r := rand.New(rand.NewSource(330))
	for size := range 81 {
		for _, text := range []string{makeBytes(r, size), strings.Repeat("\x00\x7f\x80\xff", 20)[:size], strings.Repeat("\u20ac", 27)[:size]} {
			w := someWord()
			w.Call.Text = text
			readBack(t, w, rowByHand(w))
		}
	}
}

func TestPromise33WordsReadBack(t *testing.T) {
	for _, w := range baseWords() {
		readBack(t, w, rowByHand(w))
	}
	eachWord(t, 33, func(r *rand.Rand, w impl.Word) {
		readBack(t, w, rowByHand(w))
	})
}

// Two words that are not the same have two rows.
func TestPromise33AnotherWordHasAnotherRow(t *testing.T) {
	eachWord(t, 331, func(r *rand.Rand, w impl.Word) {
		other := spoilAnyOf(r, w)
		if wordOkByHand(other) && bytes.Equal(impl.WordPack(other), impl.WordPack(w)) != sameWord(other, w) {
			t.Errorf("other %#v", other)
		}
		other = w
		other.Yes = !w.Yes
		if bytes.Equal(impl.WordPack(other), impl.WordPack(w)) {
			t.Error("Yes is not told")
		}
	})
}

func TestPromise33EmptyListsAreNone(t *testing.T) {
	bare, empty := impl.Word{Kind: 3}, impl.Word{Kind: 3, Slots: []int{}, Vals: []int{}, Pairs: []impl.Pair{}}
	if !bytes.Equal(impl.WordPack(bare), impl.WordPack(empty)) {
		t.Error("an empty list has other bytes than none")
	}
}

func TestPromise34WordsThatAreNotOk(t *testing.T) {
	seen := map[string]bool{}
	for _, not := range wordsNotOk() {
		seen[not.reason] = true
		kept := cloneWord(not.word)
		if row := impl.WordPack(not.word); len(row) != 0 {
			t.Errorf("%s: %v of %#v", not.reason, row, not.word)
		}
		if !sameWord(not.word, kept) {
			t.Errorf("%s: an argument was changed: %#v", not.reason, not.word)
		}
		// Its row is in order in all else.
		noWord(t, not.reason, rowByHand(not.word))
	}
	if len(seen) != 17 {
		t.Error("reasons:", seen)
	}
}

func TestPromise34NoBytesAtAll(t *testing.T) {
	noWord(t, "nil", nil)
	noWord(t, "empty", []byte{})
	noWord(t, "empty, with room", impl.WordPack(someWord())[:0])
}

// eachWholeRow tells rows of words: from the barest to the fullest one, and some others.
func eachWholeRow(tell func(parts []partOfRow)) {
	r := rand.New(rand.NewSource(34))
	words := baseWords()
	for range 20 {
		words = append(words, makeWord(r))
	}
	for _, w := range words {
		tell(partsByHand(w))
	}
}

func TestPromise34RowsCutShort(t *testing.T) {
	eachWholeRow(func(parts []partOfRow) {
		row := rowOfParts(parts)
		for size := range row {
			noWord(t, "cut, the rest behind it", row[:size])
			noWord(t, "cut", slices.Clip(slices.Clone(row[:size])))
			likeByHand(t, row[size+1:])
		}
	})
}

func TestPromise34BytesBehindTheEnd(t *testing.T) {
	eachWholeRow(func(parts []partOfRow) {
		row := rowOfParts(parts)
		for b := range 256 {
			noWord(t, "a byte behind", append(row[:len(row):len(row)], byte(b)))
		}
		noWord(t, "many bytes behind", slices.Concat(row, make([]byte, 1000)))
		noWord(t, "twice", slices.Concat(row, row))
	})
}

func TestPromise34NumbersInMoreBytesThanTheyNeed(t *testing.T) {
	eachWholeRow(func(parts []partOfRow) {
		eachNumberOf(parts, func(at int) {
			for more := 1; more <= 30; more++ {
				noWord(t, "looser: "+parts[at].name, rowWith(parts, at, looser(parts[at].bytes, more)))
			}
		})
	})
}

func TestPromise34NumbersTooGreatForAnInt(t *testing.T) {
	eachWholeRow(func(parts []partOfRow) {
		eachNumberOf(parts, func(at int) {
			for _, great := range tooGreat(parts[at].bytes) {
				noWord(t, "too great: "+parts[at].name, rowWith(parts, at, great))
			}
		})
	})
	for _, parts := range [][]partOfRow{partsByHand(someWord()), partsByHand(impl.Word{Kind: 1})} {
		eachNumberOf(parts, func(at int) {
			for _, great := range plainlyGreat() {
				noWord(t, "plainly too great: "+parts[at].name, rowWith(parts, at, great))
			}
		})
	}
}

// All of an int can be told, though no number of a word is so great.
func TestPromise34NumbersAsGreatAsAnInt(t *testing.T) {
	eachWholeRow(func(parts []partOfRow) {
		eachNumberOf(parts, func(at int) {
			for _, number := range []int{math.MinInt, math.MinInt + 1, math.MaxInt, math.MaxInt - 1, 1 << 62, 1 << 32, -1 << 32, 1 << 31, 1 << 16} {
				noWord(t, "great: "+parts[at].name, rowWith(parts, at, numberByHand(number)))
			}
		})
	})
}

func TestPromise34CountsThatAreNone(t *testing.T) {
	eachWholeRow(func(parts []partOfRow) {
		for at, left := range countsOf(parts) {
			for below := 1; below <= 70; below++ {
				noWord(t, "below 0: "+parts[at].name, rowWith(parts, at, numberByHand(-below)))
				noWord(t, "more than comes: "+parts[at].name, rowWith(parts, at, numberByHand(left+below)))
			}
			for many := range left + 1 {
				likeByHand(t, rowWith(parts, at, numberByHand(many)))
			}
		}
	})
}

// A list of pairs that ends in the midst of a pair is none.
func TestPromise34HalfAPair(t *testing.T) {
	w := impl.Word{Kind: 1, Pairs: []impl.Pair{{Key: 1, Val: 1}}}
	row := impl.WordPack(w)
	noWord(t, "half a pair behind", append(row, 4))
	row[len(row)-3] = 4
	noWord(t, "half a pair counted", append(row, 4))
	if !likeByHand(t, append(row, 4, 1)) {
		t.Error("a whole pair is none")
	}
}

func TestPromise34YesIsOneOrNone(t *testing.T) {
	eachWholeRow(func(parts []partOfRow) {
		at := slices.IndexFunc(parts, func(part partOfRow) bool { return part.name == "Yes" })
		for number := -300; number <= 300; number++ {
			row := rowWith(parts, at, numberByHand(number))
			if number != 0 && number != 1 {
				noWord(t, "Yes", row)
			} else if w, ok := impl.WordUnpack(row); !ok || w.Yes != (number == 1) {
				t.Error("Yes:", number, ok, w.Yes)
			}
		}
		for _, number := range []int{math.MinInt, math.MinInt + 1, math.MaxInt, 1 << 32, 1<<32 + 1, 1<<16 + 1} {
			noWord(t, "Yes", rowWith(parts, at, numberByHand(number)))
		}
	})
}

func TestPromise34EveryByteChanged(t *testing.T) {
	seen := map[bool]int{}
	for _, w := range baseWords() {
		row := rowByHand(w)
		for at := range row {
			for b := range 256 {
				changed := slices.Clone(row)
				changed[at] = byte(b)
				seen[likeByHand(t, changed)]++
				seen[likeByHand(t, slices.Insert(slices.Clone(row), at, byte(b)))]++
			}
			seen[likeByHand(t, slices.Delete(slices.Clone(row), at, at+1))]++
		}
	}
	if seen[true] < 10000 || seen[false] < 10000 {
		t.Error("too few of a kind:", seen)
	}
}

func TestPromise34AnyRows(t *testing.T) {
	r := rand.New(rand.NewSource(341))
	seen := map[bool]int{}
	for range 100000 {
		seen[likeByHand(t, makeRow(r))]++
		likeByHand(t, []byte(makeBytes(r, r.Intn(60))))
		if t.Failed() {
			return
		}
	}
	if seen[true] < 10000 || seen[false] < 10000 {
		t.Error("too few of a kind:", seen)
	}
}

// smallRow has bytes that are often those of a word: nearly all of its numbers are small.
func smallRow(r *rand.Rand) []byte {
	row := []byte{byte(2 + 2*r.Intn(9))}
	for range 16 + r.Intn(4) {
		row = append(row, []byte{0, 0, 0, 0, 2, 2, 4, 1}[r.Intn(8)])
	}
	return row
}

func TestPromise34SmallRows(t *testing.T) {
	r := rand.New(rand.NewSource(342))
	seen := map[bool]int{}
	for range 200000 {
		seen[likeByHand(t, smallRow(r))]++
		if t.Failed() {
			return
		}
	}
	if seen[true] < 1000 || seen[false] < 1000 {
		t.Error("too few of a kind:", seen)
	}
}

// Rows that are long, or say so, are answered all the same.
func TestPromise34LongRows(t *testing.T) {
	for _, b := range []byte{0, 1, 2, 127, 128, 129, 255} {
		for _, size := range []int{17, 1000, 1000000} {
			noWord(t, "long", times(size, b))
			noWord(t, "long behind its begin", slices.Concat([]byte{2}, times(16, 0), times(size, b)))
		}
	}
	for at := range countsOf(partsByHand(impl.Word{Kind: 1})) {
		for _, many := range []int{1000, 499999, 500000, 999999, 1000000, 1 << 40} {
			row := rowWith(partsByHand(impl.Word{Kind: 1}), at, numberByHand(many))
			noWord(t, "a long list", slices.Concat(row, make([]byte, 1000000)))
		}
	}
}

func TestPackedWordsShareNoMemory(t *testing.T) {
	for _, w := range baseWords() {
		want := rowByHand(w)
		mine := cloneWord(w)
		row, other := impl.WordPack(mine), impl.WordPack(mine)
		overwrite(mine.Slots, -7)
		overwrite(mine.Vals, -7)
		overwrite(mine.Pairs, impl.Pair{Key: -7, Val: -7})
		if !bytes.Equal(row, want) {
			t.Errorf("a row shares memory with its word: %v, not %v", row, want)
		}
		overwrite(row, 7)
		if !bytes.Equal(other, want) {
			t.Errorf("two rows share memory: %v, not %v", other, want)
		}
	}
}

// Bytes behind a row, in the same memory, are neither read nor written.
func TestUnpackedWordsShareNoMemory(t *testing.T) {
	for _, w := range baseWords() {
		room := append(rowByHand(w), times(40, 9)...)
		kept := slices.Clone(room)
		row := room[:len(room)-40]
		is, ok := impl.WordUnpack(row)
		other, _ := impl.WordUnpack(row)
		if !ok || !sameWord(is, w) || !sameWord(other, w) || !bytes.Equal(room, kept) {
			t.Errorf("%v %#v, not %#v; behind the row: %v", ok, is, w, room[len(row):])
		}
		overwrite(row, 7)
		if !sameWord(is, w) {
			t.Errorf("a word shares memory with its row: %#v, not %#v", is, w)
		}
		overwrite(is.Slots, -7)
		if !slices.Equal(is.Vals, w.Vals) || !slices.Equal(is.Pairs, w.Pairs) {
			t.Errorf("lists share memory with Slots: %#v", is)
		}
		overwrite(is.Vals, -8)
		if !slices.Equal(is.Pairs, w.Pairs) || slices.Contains(is.Slots, -8) {
			t.Errorf("lists share memory with Vals: %#v", is)
		}
		overwrite(is.Pairs, impl.Pair{Key: -9, Val: -9})
		if slices.Contains(is.Slots, -9) || slices.Contains(is.Vals, -9) || !sameWord(other, w) {
			t.Errorf("lists share memory with Pairs, or two words: %#v", is)
		}
	}
}

// What comes between two calls changes no answer.
func TestPromise33NothingIsKept(t *testing.T) {
	r := rand.New(rand.NewSource(332))
	for range 2000 {
		one, two := makeWord(r), makeWord(r)
		first := impl.WordPack(one)
		impl.WordPack(two)
		impl.WordUnpack([]byte(makeBytes(r, 30)))
		impl.WordPack(impl.Word{})
		if again := impl.WordPack(one); !bytes.Equal(again, first) {
			t.Fatalf("%v, then %v, of %#v", first, again, one)
		}
		readBack(t, two, rowByHand(two))
	}
}
