package tests

import (
	"math/rand"
	"slices"
	"testing"

	"loop.example/turnpike/impl"
)

func TestPromise16BooksNotOk(t *testing.T) {
	calls := append(callsNotOk(), dealCall(0, 9, "put 1 5;"), moveCall(2, impl.BooksMaxCall, 7, 2))
	for i, b := range booksNotOk() {
		if impl.BooksOk(b) {
			t.Error("ok:", i, b)
		}
		for _, c := range calls {
			if is := impl.BooksDo(b, c); !sameBooks(is, impl.Books{}) {
				t.Error("done in them:", i, b, c, is)
			}
		}
	}
}

// Each limit of books is met here, from both sides.
func TestPromise16BooksAtTheEdges(t *testing.T) {
	most := []int{impl.DealMaxNum, -impl.DealMaxNum, 0, 1, 2, 3}
	for _, b := range []impl.Books{
		{Map: impl.MapStart()},
		{At: impl.BooksMaxRecs, Map: mapNumber(impl.MapMaxVersion, 6560), Store: everyKey(impl.DealMaxNum)},
		{Map: impl.MapStart(), Store: everyKey(-impl.DealMaxNum)},
		{Map: impl.MapStart(), Store: []impl.Pair{{Key: 0, Val: 1}, {Key: impl.DealKeys - 1, Val: -1}}},
		{Map: impl.MapStart(), Store: []impl.Pair{}, Said: []impl.Said{}},
		{Map: impl.MapStart(), Said: []impl.Said{{Session: 0, Number: 1}}},
		{Map: impl.MapStart(), Said: []impl.Said{{Session: impl.BooksSessions - 1, Number: impl.BooksMaxCall, Code: impl.CodeBad, Vals: most}}},
		{Map: impl.MapStart(), Said: []impl.Said{{Session: 0, Number: impl.BooksMaxCall, Vals: []int{}}, {Session: 2, Number: 1, Code: 8, Vals: most}}},
		someBooks(),
	} {
		if !impl.BooksOk(b) {
			t.Error("not ok:", b)
		}
	}
}

func TestPromise16AnyBooks(t *testing.T) {
	r := rand.New(rand.NewSource(26))
	for range manyBooks {
		if b := makeBooks(r); !impl.BooksOk(b) {
			t.Fatal("not ok:", b)
		}
	}
}

// overwrite fills all of a list, the room behind its end as well.
func overwrite[T any](list []T, with T) {
	list = list[:cap(list)]
	for i := range list {
		list[i] = with
	}
}

func spoilBooks(b impl.Books) {
	for _, s := range b.Said {
		overwrite(s.Vals, -7)
	}
	overwrite(b.Map.Owners, -7)
	overwrite(b.Store, impl.Pair{Key: -7, Val: -7})
	overwrite(b.Said, impl.Said{Session: -7})
}

func TestBooksShareNoMemory(t *testing.T) {
	calls := []impl.Call{
		dealCall(0, 50, "add 1 1;get 1;get 5;"),
		dealCall(1, 50, "need 1 9999;"),
		dealCall(2, 1, "get 1;"),
		moveCall(2, 50, 7, 0),
		moveCall(2, 50, 7, 1),
		dealCall(0, 1, "get 1;"),
		{},
	}
	for _, c := range calls {
		b := someBooks()
		spoilBooks(impl.BooksDo(b, c))
		if !sameBooks(b, someBooks()) {
			t.Error("shared with an argument:", c, b)
		}
		whole := impl.BooksOf(calls)
		spoilBooks(impl.BooksOf(calls))
		spoilBooks(impl.BooksStart())
		if !sameBooks(whole, impl.BooksOf(calls)) || !sameBooks(impl.BooksStart(), impl.Books{Map: impl.MapStart()}) {
			t.Error("two answers share memory:", c)
		}
	}
}

func TestBooksListsShareNoMemory(t *testing.T) {
	for _, c := range []impl.Call{dealCall(1, 50, "get 0;get 5;get 31;"), dealCall(2, 1, "get 1;"), {}} {
		b := someBooks()
		b.Said[1].Vals, b.Said[2].Vals = b.Said[0].Vals, b.Said[0].Vals[:1]
		want := doByHand(b, c)
		for i := range want.Said {
			is := impl.BooksDo(b, c)
			overwrite(is.Said[i].Vals, -7)
			for j := range want.Said {
				if j != i && !sameSaid(is.Said[j], want.Said[j]) {
					t.Error("shared by two sessions:", c, is)
				}
			}
		}
	}
}

// The room behind the ends of an argument's lists is not the program's.
func TestBooksWriteNothingBehindAnEnd(t *testing.T) {
	owners := append(impl.MapStart().Owners, 7, 8)
	store := []impl.Pair{{Key: 4, Val: 5}, {Key: 20, Val: 21}, {Key: 22, Val: 23}}
	vals := []int{1, 2, 3}
	said := []impl.Said{{Session: 1, Number: 1, Vals: vals[:1]}, {Session: 2, Number: 9, Code: 9}, {Session: 2, Number: 8, Code: 8}}
	keptStore, keptSaid := slices.Clone(store), slices.Clone(said)
	b := impl.Books{Map: impl.Map{Version: 1, Owners: owners[:impl.MapSlots]}, Store: store[:1], Said: said[:1]}
	for _, c := range []impl.Call{dealCall(1, 2, "put 30 1;get 4;get 4;get 4;"), dealCall(2, 1, "put 0 1;get 4;"), moveCall(2, 1, 0, 2), {}} {
		spoilBooks(impl.BooksDo(b, c))
		if !slices.Equal(owners, []int{0, 1, 2, 0, 1, 2, 0, 1, 7, 8}) || !slices.Equal(store, keptStore) || !slices.Equal(vals, []int{1, 2, 3}) || !slices.EqualFunc(said, keptSaid, sameSaid) {
			t.Fatal("written into an argument:", c)
		}
	}
}
