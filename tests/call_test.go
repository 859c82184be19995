package tests

import (
	"math/rand"
	"slices"
	"testing"

	"loop.example/turnpike/impl"
)

func TestPromise15SlotsOfADeal(t *testing.T) {
	const each = impl.DealKeys / impl.MapSlots
	r := rand.New(rand.NewSource(15))
	seen := map[int]int{}
	for range manyDeals {
		text := makeText(r)
		deal, _ := impl.DealRead(text)
		var named [impl.MapSlots]bool
		for _, s := range deal {
			named[s.Key/each] = true
		}
		var want []int
		for slot, is := range named {
			if is {
				want = append(want, slot)
			}
		}
		c := dealCall(r.Intn(impl.BooksSessions), 1+r.Intn(impl.BooksMaxCall), text)
		if is := impl.CallSlots(c); !impl.CallOk(c) || !slices.Equal(is, want) {
			t.Fatal(c, is, want)
		}
		seen[len(want)]++
	}
	if seen[1] < 100 || seen[2] < 100 || seen[4] < 100 {
		t.Error("too few of a kind:", seen)
	}
}

func TestPromise15EdgesOfSlots(t *testing.T) {
	for _, c := range []struct {
		text  string
		slots []int
	}{
		{"get 0;", []int{0}},
		{"get 3;get 4;", []int{0, 1}},
		{"put 4 1;add 3 1;", []int{0, 1}},
		{"need 27 1;need 28 1;", []int{6, 7}},
		{"get 31;", []int{7}},
		{"get 31;get 0;get 30;get 1;get 29;get 2;", []int{0, 7}},
		{"get 31;put 26 1;add 21 1;need 16 1;get 11;get 6;", []int{1, 2, 4, 5, 6, 7}},
		{"get 1;put 1 0;add 1 1;need 1 1;get 1;get 1;", []int{0}},
	} {
		if is := impl.CallSlots(dealCall(0, 1, c.text)); !slices.Equal(is, c.slots) {
			t.Error(c.text, is)
		}
	}
}

func TestPromise15SlotOfAMove(t *testing.T) {
	eachMove(func(slot, to int) {
		for _, session := range []int{0, impl.BooksSessions - 1} {
			for _, number := range []int{1, impl.BooksMaxCall} {
				c := moveCall(session, number, slot, to)
				if is := impl.CallSlots(c); !impl.CallOk(c) || !slices.Equal(is, []int{slot}) {
					t.Error(c, is)
				}
			}
		}
	})
}

func TestPromise15CallsAtTheEdges(t *testing.T) {
	for session := range impl.BooksSessions {
		for _, number := range []int{1, 2, impl.BooksMaxCall - 1, impl.BooksMaxCall} {
			if c := dealCall(session, number, "get 0;"); !impl.CallOk(c) || !slices.Equal(impl.CallSlots(c), []int{0}) {
				t.Error(c)
			}
		}
	}
	longest := dealCall(0, 1, "need 31 -9999;need 31 -9999;need 31 -9999;need 31 -9999;put 31 -999;put 31 -999;")
	if len(longest.Text) != impl.DealMaxText || !impl.CallOk(longest) || !slices.Equal(impl.CallSlots(longest), []int{7}) {
		t.Error(longest)
	}
}

func TestPromise15CallsNotOk(t *testing.T) {
	for _, c := range callsNotOk() {
		if is := impl.CallSlots(c); impl.CallOk(c) || len(is) != 0 {
			t.Errorf("call %+v: slots %v", c, is)
		}
	}
}

func TestPromise15NothingElseIsTouched(t *testing.T) {
	eachBooks(t, 16, func(r *rand.Rand, b impl.Books, c impl.Call) {
		slots, is := impl.CallSlots(c), impl.BooksDo(b, c)
		for key := range impl.DealKeys {
			if !slices.Contains(slots, impl.MapSlot(key)) && valueOf(is.Store, key) != valueOf(b.Store, key) {
				t.Error("another key is changed:", key, is)
			}
		}
		for slot, house := range b.Map.Owners {
			if !slices.Contains(slots, slot) && is.Map.Owners[slot] != house {
				t.Error("another slot is changed:", slot, is)
			}
		}
		// What is in other slots is not looked at either.
		other := cloneBooks(b)
		other.Store = slices.DeleteFunc(other.Store, func(p impl.Pair) bool { return !slices.Contains(slots, impl.MapSlot(p.Key)) })
		if again := impl.BooksDo(other, c); !sameSaid(saidOf(again, c.Session), saidOf(is, c.Session)) {
			t.Error("without other slots:", is, again)
		}
	})
}

func TestCallSlotsShareNoMemory(t *testing.T) {
	c := dealCall(0, 1, "get 30;get 1;get 5;get 2;")
	one, two := impl.CallSlots(c), impl.CallSlots(c)
	spare := one[:cap(one)]
	for i := range spare {
		spare[i] = -7
	}
	if want := []int{0, 1, 7}; !slices.Equal(two, want) || !slices.Equal(impl.CallSlots(c), want) {
		t.Error(two, impl.CallSlots(c))
	}
}
