package tests

import (
	"bytes"
	"encoding/binary"
	"math"
	"math/rand"
	"slices"
	"strings"

	"loop.example/turnpike/impl"
)

const nameOfText = "Text"

// partOfRow is what stands together in a row: the bytes of a number, or those of the text.
type partOfRow struct {
	name  string
	bytes []byte
}

// numberByHand leans on the library, whose rule for numbers below 0 is the document's.
func numberByHand(number int) []byte {
	return binary.AppendVarint(nil, int64(number))
}

// partsByHand looks at no bounds: it tells rows of words as well that are not ok.
func partsByHand(w impl.Word) []partOfRow {
	var parts []partOfRow
	tell := func(name string, numbers ...int) {
		for _, number := range numbers {
			parts = append(parts, partOfRow{name, numberByHand(number)})
		}
	}
	for _, f := range numbersOfWord() {
		if f.name == "Code" {
			tell("Yes", map[bool]int{true: 1}[w.Yes])
		}
		tell(f.name, *f.of(&w))
	}
	tell("size of Text", len(w.Call.Text))
	parts = append(parts, partOfRow{nameOfText, []byte(w.Call.Text)})
	tell("count of Slots", len(w.Slots))
	tell("Slots", w.Slots...)
	tell("count of Vals", len(w.Vals))
	tell("Vals", w.Vals...)
	tell("count of Pairs", len(w.Pairs))
	for _, p := range w.Pairs {
		tell("Pairs", p.Key, p.Val)
	}
	return parts
}

// rowOfParts is new memory without room behind its end.
func rowOfParts(parts []partOfRow) []byte {
	var row []byte
	for _, part := range parts {
		row = append(row, part.bytes...)
	}
	return slices.Clip(row)
}

func rowByHand(w impl.Word) []byte {
	return rowOfParts(partsByHand(w))
}

// rowWith is the row of parts with other bytes in place of one of them.
func rowWith(parts []partOfRow, at int, other []byte) []byte {
	parts = slices.Clone(parts)
	parts[at].bytes = other
	return rowOfParts(parts)
}

// handReader reads any row, however loose its numbers are.
type handReader struct {
	*bytes.Reader
	failed bool
}

func (r *handReader) number() int {
	number, err := binary.ReadVarint(r.Reader)
	r.failed = r.failed || err != nil
	return int(number)
}

func (r *handReader) count() int {
	many := r.number()
	r.failed = r.failed || many < 0 || many > r.Len()
	if r.failed {
		return 0
	}
	return many
}

func (r *handReader) list() []int {
	list := make([]int, r.count())
	for i := range list {
		list[i] = r.number()
	}
	return list
}

// unpackByHand reads what it can, and asks then whether the word's own bytes are just these.
func unpackByHand(row []byte) (impl.Word, bool) {
	r := &handReader{Reader: bytes.NewReader(row)}
	var w impl.Word
	for _, f := range numbersOfWord() {
		if f.name == "Code" {
			w.Yes = r.number() == 1
		}
		*f.of(&w) = r.number()
	}
	text := make([]byte, r.count())
	r.Read(text)
	w.Call.Text = string(text)
	w.Slots, w.Vals = r.list(), r.list()
	w.Pairs = make([]impl.Pair, r.count())
	for i := range w.Pairs {
		w.Pairs[i].Key = r.number()
		w.Pairs[i].Val = r.number()
	}
	if r.failed || !wordOkByHand(w) || !bytes.Equal(rowByHand(w), row) {
		return impl.Word{}, false
	}
	return w, true
}

// spoiltWord is a word that is not ok, for one reason alone.
type spoiltWord struct {
	reason string
	word   impl.Word
}

// wordsNotOk are all base words, each spoilt in one thing alone.
func wordsNotOk() []spoiltWord {
	list := []spoiltWord{{"nothing", impl.Word{}}}
	spoil := func(reason string, change func(w *impl.Word)) {
		for _, w := range baseWords() {
			change(&w)
			list = append(list, spoiltWord{reason, w})
		}
	}
	for _, f := range numbersOfWord() {
		for _, number := range append(f.edges(), math.MinInt, math.MinInt+1, math.MaxInt, 1<<32, 1<<32+1, -100) {
			if !f.may(number) {
				spoil(f.name, func(w *impl.Word) { *f.of(w) = number })
			}
		}
	}
	for _, slots := range [][]int{{-1}, {8}, {0, 0}, {4, 3}, {math.MaxInt}, {math.MinInt}, {0, 1, 2, 3, 4, 5, 6, 7, 8}} {
		spoil("Slots", func(w *impl.Word) { w.Slots = slots })
	}
	for _, vals := range [][]int{{10000}, {-10000}, {0, math.MinInt}, {math.MaxInt, 0}, make([]int, 7), make([]int, 64)} {
		spoil("Vals", func(w *impl.Word) { w.Vals = vals })
	}
	for _, pairs := range pairsNotInForm() {
		spoil("Pairs", func(w *impl.Word) { w.Pairs = pairs })
	}
	for _, size := range []int{81, 82, 128, 1000} {
		spoil("Text", func(w *impl.Word) { w.Call.Text = strings.Repeat("\x00", size) })
	}
	return list
}

// looser is the same number in so many bytes more, the last of which is 0.
func looser(number []byte, more int) []byte {
	list := slices.Clone(number)
	for range more {
		list[len(list)-1] |= 128
		list = append(list, 0)
	}
	return list
}

// tooGreat are numbers that no int is, though all that an int has room for is that number itself.
func tooGreat(number []byte) [][]byte {
	var list [][]byte
	for size := 10; size <= 30; size++ {
		for _, last := range []byte{2, 4, 64, 126} {
			great := looser(number, size-len(number))
			great[size-1] = last
			list = append(list, great)
		}
	}
	return list
}

// plainlyGreat are numbers that no int is, in nine bytes and more that are all full, or all empty but the last.
func plainlyGreat() [][]byte {
	var list [][]byte
	for size := 9; size <= 40; size++ {
		for _, each := range []byte{128, 255} {
			for _, last := range []byte{2, 3, 127} {
				list = append(list, append(bytes.Repeat([]byte{each}, size), last))
			}
		}
	}
	return append(list, append(bytes.Repeat([]byte{128}, 10), 1), append(bytes.Repeat([]byte{255}, 10), 1))
}

// eachNumberOf tells all places of parts that are numbers.
func eachNumberOf(parts []partOfRow, tell func(at int)) {
	for at, part := range parts {
		if part.name != nameOfText {
			tell(at)
		}
	}
}

// countsOf is where parts tell how many bytes or numbers come, and how many bytes stand behind that.
func countsOf(parts []partOfRow) map[int]int {
	left := map[int]int{}
	for at, part := range parts {
		if strings.HasPrefix(part.name, "size") || strings.HasPrefix(part.name, "count") {
			left[at] = len(rowOfParts(parts[at+1:]))
		}
	}
	return left
}

// makeRow is a row of a word, with some bytes of it changed, dropped, doubled, or those of another one; it may be one still.
func makeRow(r *rand.Rand) []byte {
	row := rowByHand(makeWord(r))
	for range r.Intn(3) {
		at := r.Intn(len(row))
		switch r.Intn(5) {
		case 0:
			row[at] = byte(r.Intn(256))
		case 1:
			row[at] ^= 1 << r.Intn(8)
		case 2:
			row = slices.Insert(row, at, byte(r.Intn(256)))
		case 3:
			row = append(slices.Delete(row, at, at+1), 0)
		default:
			other := rowByHand(makeWord(r))
			row = append(row[:at:at], other[r.Intn(len(other)):]...)
		}
	}
	return row
}
