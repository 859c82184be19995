package tests

import (
	"math"
	"math/rand"
	"slices"
	"strings"
	"testing"

	"loop.example/turnpike/impl"
)

const manyBooks = 3000

var noSessions = []int{math.MinInt, -1, impl.BooksSessions, impl.BooksSessions + 1, math.MaxInt}

var noNumbers = []int{math.MinInt, -1, 0, impl.BooksMaxCall + 1, math.MaxInt}

func dealCall(session, number int, text string) impl.Call {
	return impl.Call{Session: session, Number: number, Kind: impl.AskDeal, Text: text}
}

func moveCall(session, number, slot, to int) impl.Call {
	return impl.Call{Session: session, Number: number, Kind: impl.AskMove, Slot: slot, To: to}
}

// makeText tells the text of a deal over keys of all slots, short enough to be read.
func makeText(r *rand.Rand) string {
	for {
		list := makeDeal(r, everyDo)
		for i := range list {
			if r.Intn(2) == 0 {
				list[i].Key = r.Intn(impl.DealKeys)
			}
		}
		if text := impl.DealWrite(list); len(text) <= impl.DealMaxText {
			return text
		}
	}
}

// makeAsk tells a call that is ok.
func makeAsk(r *rand.Rand, session, number int) impl.Call {
	if r.Intn(3) == 0 {
		return moveCall(session, number, r.Intn(impl.MapSlots), r.Intn(impl.MapHouses))
	}
	return dealCall(session, number, makeText(r))
}

// makeCalls tells calls that are mostly new ones of their sessions; some come again, are past, or are not ok.
func makeCalls(r *rand.Rand, size int) []impl.Call {
	var list []impl.Call
	var last [impl.BooksSessions]int
	bad := callsNotOk()
	for range size {
		session := r.Intn(impl.BooksSessions)
		switch way := r.Intn(10); {
		case way == 0 && len(list) > 0:
			list = append(list, list[r.Intn(len(list))])
		case way == 1 && last[session] > 0:
			list = append(list, makeAsk(r, session, 1+r.Intn(last[session])))
		case way == 2:
			list = append(list, bad[r.Intn(len(bad))])
		default:
			last[session] = min(last[session]+1+r.Intn(3), impl.BooksMaxCall)
			list = append(list, makeAsk(r, session, last[session]))
		}
	}
	return list
}

func makeSaid(r *rand.Rand, session int) impl.Said {
	s := impl.Said{Session: session, Number: []int{1, 2, 50, impl.BooksMaxCall - 1, impl.BooksMaxCall}[r.Intn(5)], Code: r.Intn(impl.CodeBad + 1)}
	for range r.Intn(impl.DealMaxOps + 1) {
		s.Vals = append(s.Vals, makeNum(r))
	}
	return s
}

// makeBooks tells any books that are ok and have room for some calls, also such as no calls lead to.
func makeBooks(r *rand.Rand) impl.Books {
	b := impl.Books{At: r.Intn(impl.BooksMaxRecs - 3), Map: mapNumber(someVersions[r.Intn(len(someVersions))], r.Intn(6561))}
	b.Store = slices.DeleteFunc(makePairs(r), func(p impl.Pair) bool { return p.Val == 0 })
	for session := range impl.BooksSessions {
		if r.Intn(2) == 0 {
			b.Said = append(b.Said, makeSaid(r, session))
		}
	}
	return b
}

func sameSaid(a, b impl.Said) bool {
	return a.Session == b.Session && a.Number == b.Number && a.Code == b.Code && slices.Equal(a.Vals, b.Vals)
}

func sameBooks(a, b impl.Books) bool {
	return a.At == b.At && sameMap(a.Map, b.Map) && slices.Equal(a.Store, b.Store) && slices.EqualFunc(a.Said, b.Said, sameSaid)
}

func cloneBooks(b impl.Books) impl.Books {
	b.Map, b.Store, b.Said = cloneMap(b.Map), slices.Clone(b.Store), slices.Clone(b.Said)
	for i := range b.Said {
		b.Said[i].Vals = slices.Clone(b.Said[i].Vals)
	}
	return b
}

// saidOf tells what Number 0 says, if the session has no last call.
func saidOf(b impl.Books, session int) impl.Said {
	for _, s := range b.Said {
		if s.Session == session {
			return s
		}
	}
	return impl.Said{Session: session}
}

// nextNumber tells false, if the session has had its last number.
func nextNumber(b impl.Books, session int) (int, bool) {
	number := saidOf(b, session).Number + 1
	return number, number <= impl.BooksMaxCall
}

func sum(list []impl.Pair) int {
	all := 0
	for _, p := range list {
		all += p.Val
	}
	return all
}

// eachBooks asks of many books and a call that is new to them and ok; what is handed in must stay.
func eachBooks(t *testing.T, seed int64, ask func(r *rand.Rand, b impl.Books, c impl.Call)) {
	t.Helper()
	r := rand.New(rand.NewSource(seed))
	asked := 0
	for range manyBooks {
		b, session := makeBooks(r), r.Intn(impl.BooksSessions)
		number, ok := nextNumber(b, session)
		if !ok {
			continue
		}
		asked++
		kept, c := cloneBooks(b), makeAsk(r, session, number+r.Intn(impl.BooksMaxCall+1-number))
		ask(r, b, c)
		if !sameBooks(b, kept) {
			t.Error("an argument was changed")
		}
		if t.Failed() {
			t.Fatal("books", kept, "call", c)
		}
	}
	if asked < manyBooks/2 {
		t.Fatal("only so many were asked:", asked)
	}
}

func callsNotOk() []impl.Call {
	list := []impl.Call{
		{},
		{Session: 1, Number: 1},
		{Session: 1, Number: 1, Text: "get 1;"},
		{Session: 1, Number: 1, Kind: -1, Text: "get 1;"},
		{Session: 1, Number: 1, Kind: 3, Text: "get 1;"},
		{Session: 1, Number: 1, Kind: 3, Slot: 1, To: 1},
		{Session: 1, Number: 1, Kind: math.MaxInt},
		{Session: 1, Number: 1, Kind: impl.AskDeal, Text: "get 1;", Slot: 1},
		{Session: 1, Number: 1, Kind: impl.AskDeal, Text: "get 1;", Slot: -1},
		{Session: 1, Number: 1, Kind: impl.AskDeal, Text: "get 1;", To: 1},
		{Session: 1, Number: 1, Kind: impl.AskDeal, Text: "get 1;", To: -1},
		{Session: 1, Number: 1, Kind: impl.AskMove, Text: "get 1;", Slot: 1, To: 1},
		{Session: 1, Number: 1, Kind: impl.AskMove, Text: " ", Slot: 1, To: 1},
		{Session: 1, Number: 1, Kind: impl.AskMove, Text: "what"},
		dealCall(1, 1, strings.Repeat("need 31 -9999;", impl.DealMaxOps)),
	}
	for _, text := range noDeals {
		list = append(list, dealCall(1, 1, text))
	}
	for _, session := range noSessions {
		list = append(list, dealCall(session, 1, "put 1 5;"), moveCall(session, 1, 1, 0))
	}
	for _, number := range noNumbers {
		list = append(list, dealCall(1, number, "put 1 5;"), moveCall(1, number, 1, 0))
	}
	for _, slot := range noSlots {
		list = append(list, moveCall(1, 1, slot, 0))
	}
	for _, house := range noHouses {
		list = append(list, moveCall(1, 1, 1, house))
	}
	return list
}

// someBooks are ok; each case of booksNotOk spoils one thing of them.
func someBooks() impl.Books {
	return impl.Books{
		At: 5, Map: impl.MapStart(), Store: []impl.Pair{{Key: 0, Val: 1}, {Key: 5, Val: -2}, {Key: 31, Val: 3}},
		Said: []impl.Said{{Session: 0, Number: 1, Vals: []int{4, 5}}, {Session: 1, Number: 2, Code: impl.CodeRefused}, {Session: 2, Number: 3}},
	}
}

func booksNotOk() []impl.Books {
	list := []impl.Books{{}}
	spoilt := func(spoil func(b *impl.Books)) {
		b := someBooks()
		spoil(&b)
		list = append(list, b)
	}
	for _, at := range []int{math.MinInt, -1, impl.BooksMaxRecs + 1, math.MaxInt} {
		spoilt(func(b *impl.Books) { b.At = at })
	}
	for _, m := range mapsNotOk() {
		spoilt(func(b *impl.Books) { b.Map = m })
	}
	for _, store := range append(pairsNotInForm(), []impl.Pair{{Key: 1}}, []impl.Pair{{Key: 0, Val: 1}, {Key: 31}}, everyKey(0)) {
		spoilt(func(b *impl.Books) { b.Store = store })
	}
	for i := range impl.BooksSessions {
		for _, session := range noSessions {
			spoilt(func(b *impl.Books) { b.Said[i].Session = session })
		}
		for _, number := range noNumbers {
			spoilt(func(b *impl.Books) { b.Said[i].Number = number })
		}
		for _, code := range []int{math.MinInt, -1, impl.CodeBad + 1, math.MaxInt} {
			spoilt(func(b *impl.Books) { b.Said[i].Code = code })
		}
		for _, vals := range [][]int{make([]int, impl.DealMaxOps+1), {impl.DealMaxNum + 1}, {1, 2, -impl.DealMaxNum - 1}, {math.MinInt}, {0, math.MaxInt}} {
			spoilt(func(b *impl.Books) { b.Said[i].Vals = vals })
		}
		spoilt(func(b *impl.Books) { b.Said[i].Session = (i + 1) % impl.BooksSessions })
		spoilt(func(b *impl.Books) { b.Said = append(b.Said, b.Said[i]) })
	}
	spoilt(func(b *impl.Books) { slices.Reverse(b.Said) })
	spoilt(func(b *impl.Books) { b.Said = []impl.Said{b.Said[1], b.Said[0]} })
	spoilt(func(b *impl.Books) { b.Said = []impl.Said{b.Said[2], b.Said[2]} })
	return list
}
