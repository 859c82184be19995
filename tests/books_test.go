package tests

import (
	"math/rand"
	"slices"
	"strconv"
	"testing"

	"loop.example/turnpike/impl"
)

// doByHand does a call in another way than the program, to hold its answers against.
func doByHand(b impl.Books, c impl.Call) impl.Books {
	b = cloneBooks(b)
	b.At++
	at := slices.IndexFunc(b.Said, func(s impl.Said) bool { return s.Session >= c.Session })
	if at < 0 {
		at = len(b.Said)
	}
	has := at < len(b.Said) && b.Said[at].Session == c.Session
	if !impl.CallOk(c) || has && b.Said[at].Number >= c.Number {
		return b
	}
	said := impl.Said{Session: c.Session, Number: c.Number}
	if c.Kind == impl.AskMove {
		switch {
		case b.Map.Version == impl.MapMaxVersion:
			said.Code = impl.CodeOver
		case b.Map.Owners[c.Slot] == c.To:
			said.Code = impl.CodeSame
		default:
			b.Map.Version++
			b.Map.Owners[c.Slot] = c.To
		}
	} else {
		deal, _ := impl.DealRead(c.Text)
		is := byHand(deal, b.Store)
		said.Code, said.Vals = is.code, is.got
		b.Store = impl.PairsPut(b.Store, is.changed)
	}
	if has {
		b.Said[at] = said
	} else {
		b.Said = slices.Insert(b.Said, at, said)
	}
	return b
}

func onePlaceOn(b impl.Books) impl.Books {
	b.At++
	return b
}

func TestPromise16BooksAtFirst(t *testing.T) {
	b := impl.BooksStart()
	if !impl.BooksOk(b) || !sameBooks(b, impl.Books{Map: impl.MapStart()}) || !sameBooks(impl.BooksOf(nil), b) {
		t.Error(b)
	}
}

func TestPromise16OkStaysOk(t *testing.T) {
	codes := map[int]int{}
	eachBooks(t, 17, func(_ *rand.Rand, b impl.Books, c impl.Call) {
		is := impl.BooksDo(b, c)
		if !impl.BooksOk(b) || !impl.BooksOk(is) {
			t.Error("not ok:", is)
		}
		if want := doByHand(b, c); !sameBooks(is, want) {
			t.Error("answer", is, "asked is", want)
		}
		said := saidOf(is, c.Session)
		codes[c.Kind*10+said.Code]++
		if (said.Code != impl.CodeDone || c.Kind == impl.AskMove) && (!slices.Equal(is.Store, b.Store) || len(said.Vals) != 0) {
			t.Error("a refusal or a move changes or gets values:", is)
		}
		if (said.Code != impl.CodeDone || c.Kind == impl.AskDeal) && !sameMap(is.Map, b.Map) {
			t.Error("a refusal or a deal changes the map:", is)
		}
	})
	for _, kind := range []int{10, 11, 12, 20, 22, 23} {
		if codes[kind] < 20 {
			t.Error("too few of kind and code:", kind, codes)
		}
	}
}

func TestPromise16RefusalsLeaveTheRest(t *testing.T) {
	b := impl.BooksOf([]impl.Call{dealCall(0, 1, "put 1 9999;put 30 7;"), moveCall(1, 1, 7, 0)})
	last := cloneBooks(b)
	last.Map.Version = impl.MapMaxVersion
	for _, c := range []struct {
		b    impl.Books
		call impl.Call
		code int
	}{
		{b, dealCall(2, 1, "put 30 1;get 1;need 1 9999;need 2 1;"), impl.CodeRefused},
		{b, dealCall(2, 1, "put 30 1;get 1;add 1 1;"), impl.CodeOver},
		{b, moveCall(2, 1, 7, 0), impl.CodeSame},
		{last, moveCall(2, 1, 7, 0), impl.CodeOver},
		{last, moveCall(2, 1, 7, 1), impl.CodeOver},
	} {
		want := onePlaceOn(c.b)
		want.Said = append(slices.Clone(c.b.Said), impl.Said{Session: 2, Number: 1, Code: c.code})
		if is := impl.BooksDo(c.b, c.call); !sameBooks(is, want) {
			t.Error(c.call, is, want)
		}
	}
}

func TestPromise16OnlyWhatIsDoneChanges(t *testing.T) {
	b := impl.BooksOf([]impl.Call{
		dealCall(2, impl.BooksMaxCall, "put 31 -9999;put 0 9999;get 0;get 31;get 5;"),
		moveCall(0, 1, 0, impl.MapHouses-1),
		moveCall(0, 2, impl.MapSlots-1, 0),
		dealCall(1, 1, "put 8 1;put 8 0;put 9 2;"),
		dealCall(1, 2, "add 9 -2;get 9;"),
	})
	want := impl.Books{
		At:    5,
		Map:   impl.Map{Version: 3, Owners: []int{2, 1, 2, 0, 1, 2, 0, 0}},
		Store: []impl.Pair{{Key: 0, Val: 9999}, {Key: 31, Val: -9999}},
		Said:  []impl.Said{{Session: 0, Number: 2}, {Session: 1, Number: 2, Vals: []int{0}}, {Session: 2, Number: impl.BooksMaxCall, Vals: []int{9999, -9999, 0}}},
	}
	if !sameBooks(b, want) {
		t.Error(b)
	}
}

func TestPromise16CallsNotOkAreCounted(t *testing.T) {
	r := rand.New(rand.NewSource(18))
	for _, c := range callsNotOk() {
		for _, b := range []impl.Books{impl.BooksStart(), someBooks(), makeBooks(r)} {
			if is := impl.BooksDo(b, c); !sameBooks(is, onePlaceOn(b)) {
				t.Errorf("call %+v: %v", c, is)
			}
		}
	}
}

func TestPromise17DoneOnce(t *testing.T) {
	eachBooks(t, 19, func(r *rand.Rand, b impl.Books, c impl.Call) {
		once := impl.BooksDo(b, c)
		want, is := once, once
		for range 3 {
			want, is = onePlaceOn(want), impl.BooksDo(is, c)
			if !sameBooks(is, want) {
				t.Error("again:", once, is)
			}
		}
		// What is asked by the number of the last call is that call, whatever it says.
		if is := impl.BooksDo(once, makeAsk(r, c.Session, c.Number)); !sameBooks(is, onePlaceOn(once)) {
			t.Error("again, with another text:", once, is)
		}
	})
}

func TestPromise17AgainWithAnotherText(t *testing.T) {
	first := dealCall(1, 4, "add 1 5;get 1;")
	b := impl.BooksOf([]impl.Call{dealCall(0, 1, "put 2 3;"), first})
	for _, again := range []impl.Call{
		first,
		dealCall(1, 4, "add 1 5;"),
		dealCall(1, 4, "put 2 0;"),
		dealCall(1, 4, "need 1 99;"),
		dealCall(1, 4, "what"),
		moveCall(1, 4, 0, 1),
	} {
		is := impl.BooksDo(b, again)
		if !sameBooks(is, onePlaceOn(b)) || !sameSaid(is.Said[1], impl.Said{Session: 1, Number: 4, Vals: []int{5}}) {
			t.Error(again, is)
		}
	}
	moved := impl.BooksDo(b, moveCall(2, 9, 0, 1))
	for _, again := range []impl.Call{moveCall(2, 9, 0, 1), moveCall(2, 9, 0, 2), moveCall(2, 9, 5, 0), dealCall(2, 9, "put 1 1;")} {
		if is := impl.BooksDo(moved, again); !sameBooks(is, onePlaceOn(moved)) {
			t.Error(again, is)
		}
	}
	// A refusal is what came of a call as well: the call is not tried again.
	refused := impl.BooksDo(b, dealCall(2, 9, "need 7 1;"))
	if is := impl.BooksDo(refused, dealCall(2, 9, "put 7 1;")); !sameBooks(is, onePlaceOn(refused)) {
		t.Error(is)
	}
	// A call of no deal is none: its number is free.
	none := impl.BooksDo(b, dealCall(1, 5, "what"))
	if is := impl.BooksDo(none, dealCall(1, 5, "get 1;")); !sameSaid(is.Said[1], impl.Said{Session: 1, Number: 5, Vals: []int{5}}) {
		t.Error(is)
	}
}

func TestPromise17TheLastNumber(t *testing.T) {
	c := dealCall(0, impl.BooksMaxCall, "add 1 1;")
	b := impl.BooksOf([]impl.Call{dealCall(0, impl.BooksMaxCall-1, "add 1 1;"), c})
	if valueOf(b.Store, 1) != 2 || saidOf(b, 0).Number != impl.BooksMaxCall {
		t.Error(b)
	}
	for _, number := range []int{1, impl.BooksMaxCall - 1, impl.BooksMaxCall, impl.BooksMaxCall + 1} {
		if is := impl.BooksDo(b, dealCall(0, number, "add 1 1;")); !sameBooks(is, onePlaceOn(b)) {
			t.Error(number, is)
		}
	}
}

func TestPromise18FirstPartAndRest(t *testing.T) {
	r := rand.New(rand.NewSource(20))
	for range manyBooks / 20 {
		list := makeCalls(r, r.Intn(impl.BooksMaxRecs+1))
		kept := slices.Clone(list)
		whole, byOne := impl.BooksOf(list), impl.BooksStart()
		if !impl.BooksOk(whole) || whole.At != len(list) || !slices.Equal(list, kept) {
			t.Fatal(list, whole)
		}
		for cut, c := range list {
			first := impl.BooksOf(list[:cut])
			if !sameBooks(first, byOne) {
				t.Fatal("cut at", cut, "of", list, "by one", byOne, "at once", first)
			}
			byOne = doByHand(byOne, c)
			for _, next := range list[cut:] {
				first = impl.BooksDo(first, next)
			}
			if !sameBooks(first, whole) {
				t.Fatal("cut at", cut, "of", list, "answer", first, "asked is", whole)
			}
		}
	}
}

func TestPromise18AsManyAsThereMayBe(t *testing.T) {
	var list []impl.Call
	for i := range impl.BooksMaxRecs + 1 {
		list = append(list, dealCall(0, i+1, "add 1 1;"))
	}
	full := impl.BooksOf(list[:impl.BooksMaxRecs])
	if !impl.BooksOk(full) || full.At != impl.BooksMaxRecs || valueOf(full.Store, 1) != impl.BooksMaxRecs {
		t.Error(full)
	}
	if is := impl.BooksOf(list); !sameBooks(is, impl.Books{}) {
		t.Error("one too many:", is)
	}
	if is := impl.BooksOf(make([]impl.Call, impl.BooksMaxRecs+1)); !sameBooks(is, impl.Books{}) {
		t.Error("one too many that is no call:", is)
	}
	for _, c := range append(callsNotOk(), list[impl.BooksMaxRecs], list[0]) {
		if is := impl.BooksDo(full, c); !sameBooks(is, impl.Books{}) {
			t.Error("no room:", c, is)
		}
	}
	before := impl.BooksOf(list[:impl.BooksMaxRecs-1])
	if is := impl.BooksDo(before, list[impl.BooksMaxRecs-1]); !sameBooks(is, full) {
		t.Error("the last place:", is)
	}
}

func TestPromise19WhereKeysAreKept(t *testing.T) {
	r := rand.New(rand.NewSource(21))
	moved := 0
	for range manyBooks / 10 {
		list := makeCalls(r, impl.BooksMaxRecs)
		looks := slices.Clone(list)
		for i, c := range looks {
			if c.Kind == impl.AskMove && impl.CallOk(c) {
				looks[i] = dealCall(c.Session, c.Number, "get "+strconv.Itoa(r.Intn(impl.DealKeys))+";")
			}
		}
		a, b := impl.BooksStart(), impl.BooksStart()
		deals := [impl.BooksSessions]bool{}
		for i, c := range list {
			before := a
			a, b = impl.BooksDo(a, c), impl.BooksDo(b, looks[i])
			if !slices.Equal(a.Store, b.Store) {
				t.Fatal("values are others behind", i, "of", list, a, b)
			}
			if impl.CallOk(c) && saidOf(before, c.Session).Number < c.Number {
				deals[c.Session] = c.Kind == impl.AskDeal
			}
			for session, is := range deals {
				if is && !sameSaid(saidOf(a, session), saidOf(b, session)) {
					t.Fatal("an answer is another one behind", i, "of", list, a, b)
				}
			}
		}
		moved += a.Map.Version - 1
		if !sameMap(b.Map, impl.MapStart()) {
			t.Fatal("a deal moved a slot:", b)
		}
	}
	if moved < manyBooks/10 {
		t.Error("only so many moved:", moved)
	}
}

func namesNothingOf(a, b []impl.Statement) bool {
	return !slices.ContainsFunc(a, func(s impl.Statement) bool { return names(b, s.Key) })
}

func TestPromise20DealsChangePlaces(t *testing.T) {
	swapped, done := 0, 0
	eachBooks(t, 22, func(r *rand.Rand, b impl.Books, c impl.Call) {
		session := (c.Session + 1 + r.Intn(impl.BooksSessions-1)) % impl.BooksSessions
		number, ok := nextNumber(b, session)
		if !ok || c.Kind != impl.AskDeal {
			return
		}
		other := dealCall(session, number, makeText(r))
		one, _ := impl.DealRead(c.Text)
		two, _ := impl.DealRead(other.Text)
		if !namesNothingOf(one, two) {
			return
		}
		swapped++
		is, turned := impl.BooksDo(impl.BooksDo(b, c), other), impl.BooksDo(impl.BooksDo(b, other), c)
		if !sameBooks(is, turned) {
			t.Error("other call", other, "answers", is, turned)
		}
		if saidOf(is, c.Session).Code == impl.CodeDone && saidOf(is, session).Code == impl.CodeDone {
			done++
		}
	})
	if swapped < 100 || done < 20 {
		t.Error("only so many:", swapped, done)
	}
}

// give tells a deal that takes from one key as much as it gives to another one, in one of several forms.
func give(r *rand.Rand, from, to, num int) string {
	key, other, n := strconv.Itoa(from), strconv.Itoa(to), strconv.Itoa(num)
	take, put := "add "+key+" "+strconv.Itoa(-num)+";", "add "+other+" "+n+";"
	switch r.Intn(4) {
	case 0:
		return take + put
	case 1:
		return put + take
	case 2:
		return "need " + key + " " + n + ";" + take + put
	}
	return "get " + key + ";" + take + put + "get " + other + ";"
}

func TestPromise21TheSumStays(t *testing.T) {
	codes := map[int]int{}
	eachBooks(t, 23, func(r *rand.Rand, b impl.Books, c impl.Call) {
		if c.Number == impl.BooksMaxCall {
			return
		}
		from, num := r.Intn(impl.DealKeys), makeNum(r)
		to := (from + 1 + r.Intn(impl.DealKeys-1)) % impl.DealKeys
		text := give(r, from, to, num)
		is := impl.BooksDo(b, dealCall(c.Session, c.Number, text))
		code := saidOf(is, c.Session).Code
		codes[code]++
		if sum(is.Store) != sum(b.Store) || code != impl.CodeDone && !slices.Equal(is.Store, b.Store) {
			t.Error(text, is)
		}
		if code != impl.CodeDone {
			return
		}
		if valueOf(is.Store, from) != valueOf(b.Store, from)-num || valueOf(is.Store, to) != valueOf(b.Store, to)+num {
			t.Error("not moved:", text, is)
		}
		contrary := "add " + strconv.Itoa(from) + " " + strconv.Itoa(num) + ";add " + strconv.Itoa(to) + " " + strconv.Itoa(-num) + ";"
		back := impl.BooksDo(is, dealCall(c.Session, c.Number+1, contrary))
		if saidOf(back, c.Session).Code != impl.CodeDone || !slices.Equal(back.Store, b.Store) || !sameMap(back.Map, b.Map) {
			t.Error(text, contrary, back)
		}
	})
	if codes[impl.CodeDone] < 100 || codes[impl.CodeRefused] < 20 || codes[impl.CodeOver] < 20 {
		t.Error("too few of a kind:", codes)
	}
}

func TestPromise22WhatIsPast(t *testing.T) {
	r := rand.New(rand.NewSource(24))
	for range manyBooks {
		b := makeBooks(r)
		for _, s := range b.Said {
			for _, number := range []int{1, s.Number - 1, s.Number} {
				c := makeAsk(r, s.Session, number)
				if is := impl.BooksDo(b, c); !sameBooks(is, onePlaceOn(b)) {
					t.Fatal("books", b, "call", c, "answer", is)
				}
			}
			if s.Number < impl.BooksMaxCall {
				c := makeAsk(r, s.Session, s.Number+1)
				if is := impl.BooksDo(b, c); saidOf(is, s.Session).Number != s.Number+1 {
					t.Fatal("not past: books", b, "call", c, "answer", is)
				}
			}
		}
	}
}

func TestPromise23OtherSessions(t *testing.T) {
	eachBooks(t, 25, func(_ *rand.Rand, b impl.Books, c impl.Call) {
		is := impl.BooksDo(b, c)
		for session := range impl.BooksSessions {
			if session != c.Session && !sameSaid(saidOf(is, session), saidOf(b, session)) {
				t.Error("session", session, is)
			}
		}
		if said := saidOf(is, c.Session); said.Number != c.Number {
			t.Error("its own session", said)
		}
		if want := len(b.Said); len(is.Said) != want && (saidOf(b, c.Session).Number > 0 || len(is.Said) != want+1) {
			t.Error("so many sessions:", is.Said)
		}
	})
}

func TestPromise23FirstAndLastSession(t *testing.T) {
	b := impl.BooksStart()
	for i, session := range []int{2, 0, 1} {
		b = impl.BooksDo(b, dealCall(session, 1+session, "add 1 1;get 1;"))
		if said := saidOf(b, session); len(b.Said) != i+1 || !sameSaid(said, impl.Said{Session: session, Number: 1 + session, Vals: []int{i + 1}}) {
			t.Error(b)
		}
	}
	if b.Said[0].Session != 0 || b.Said[1].Session != 1 || b.Said[2].Session != 2 {
		t.Error(b.Said)
	}
	for _, session := range noSessions {
		if is := impl.BooksDo(b, dealCall(session, 9, "add 1 1;")); !sameBooks(is, onePlaceOn(b)) {
			t.Error(session, is)
		}
	}
}
