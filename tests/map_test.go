package tests

import (
	"slices"
	"testing"

	"loop.example/turnpike/impl"
)

func TestPromise11EachKeyHasOneHouse(t *testing.T) {
	eachMap(t, 7, func(m impl.Map) {
		if !impl.MapOk(m) {
			t.Fatal("not ok:", m)
		}
		for key := range impl.DealKeys {
			slot, house := impl.MapSlot(key), impl.MapHouse(m, key)
			if slot < 0 || slot >= impl.MapSlots || house != m.Owners[slot] || house < 0 || house >= impl.MapHouses {
				t.Error("map", m, "key", key, "slot", slot, "house", house)
			}
		}
	})
}

func TestPromise11SlotsHaveAsManyKeysEach(t *testing.T) {
	const each = impl.DealKeys / impl.MapSlots
	for slot := range impl.MapSlots {
		for i := range each {
			if is := impl.MapSlot(slot*each + i); is != slot {
				t.Error("key", slot*each+i, "slot", is)
			}
		}
	}
}

func TestPromise11NoKeyHasNoHouse(t *testing.T) {
	for _, key := range noKeys {
		if slot, house := impl.MapSlot(key), impl.MapHouse(impl.MapStart(), key); slot != -1 || house != -1 {
			t.Error("key", key, "slot", slot, "house", house)
		}
	}
}

func TestPromise11MapsNotOk(t *testing.T) {
	for _, m := range mapsNotOk() {
		if impl.MapOk(m) {
			t.Error("ok:", m)
		}
		for key := range impl.DealKeys {
			if house := impl.MapHouse(m, key); house != -1 {
				t.Error("map", m, "key", key, "house", house)
			}
		}
		for _, key := range noKeys {
			if house := impl.MapHouse(m, key); house != -1 {
				t.Error("map", m, "key", key, "house", house)
			}
		}
	}
}

func TestPromise11AtFirst(t *testing.T) {
	m := impl.MapStart()
	if !sameMap(m, impl.Map{Version: 1, Owners: []int{0, 1, 2, 0, 1, 2, 0, 1}}) || !impl.MapOk(m) {
		t.Error(m)
	}
	if first, last := impl.MapHouse(m, 0), impl.MapHouse(m, impl.DealKeys-1); first != 0 || last != 1 {
		t.Error(first, last)
	}
}

func TestPromise12AMoveChangesOneSlot(t *testing.T) {
	eachMap(t, 5, func(m impl.Map) {
		eachMove(func(slot, to int) {
			is, code := impl.MapMove(m, slot, to)
			want, wantCode := cloneMap(m), impl.CodeDone
			switch {
			case m.Version == impl.MapMaxVersion:
				wantCode = impl.CodeOver
			case m.Owners[slot] == to:
				wantCode = impl.CodeSame
			default:
				want.Version++
				want.Owners[slot] = to
			}
			if code != wantCode || !sameMap(is, want) || !impl.MapOk(is) {
				t.Error("map", m, "slot", slot, "to", to, "answer", is, code)
			}
			for key := range impl.DealKeys {
				if impl.MapSlot(key) != slot && impl.MapHouse(is, key) != impl.MapHouse(m, key) {
					t.Error("another key is moved:", m, slot, to, key)
				}
			}
		})
	})
}

// Codes are looked for in the order in which they are listed: what is bad is so at the last version, too, and at the last version nothing is the same.
func TestPromise12WhichCodeIsFirst(t *testing.T) {
	last := impl.MapStart()
	last.Version = impl.MapMaxVersion
	for slot, house := range last.Owners {
		if is, code := impl.MapMove(last, slot, house); code != impl.CodeOver || !sameMap(is, last) {
			t.Error("over ahead of same:", slot, house, is, code)
		}
	}
	for _, m := range []impl.Map{impl.MapStart(), last} {
		for _, slot := range noSlots {
			for _, to := range append([]int{0, impl.MapHouses - 1}, noHouses...) {
				if is, code := impl.MapMove(m, slot, to); code != impl.CodeBad || !sameMap(is, m) {
					t.Error("no slot:", m, slot, to, is, code)
				}
			}
		}
		for slot := range impl.MapSlots {
			for _, to := range noHouses {
				if is, code := impl.MapMove(m, slot, to); code != impl.CodeBad || !sameMap(is, m) {
					t.Error("no house:", m, slot, to, is, code)
				}
			}
		}
	}
}

func TestPromise12MapsNotOk(t *testing.T) {
	for _, m := range mapsNotOk() {
		eachMove(func(slot, to int) {
			if is, code := impl.MapMove(m, slot, to); code != impl.CodeBad || !sameMap(is, impl.Map{}) {
				t.Error("map", m, "slot", slot, "to", to, "answer", is, code)
			}
		})
		if is, code := impl.MapMove(m, -1, impl.MapHouses); code != impl.CodeBad || !sameMap(is, impl.Map{}) {
			t.Error("map", m, "answer", is, code)
		}
	}
}

func TestPromise13ThereAndBack(t *testing.T) {
	eachMap(t, 5, func(m impl.Map) {
		eachMove(func(slot, to int) {
			there, code := impl.MapMove(m, slot, to)
			if code != impl.CodeDone {
				return
			}
			back, code := impl.MapMove(there, slot, m.Owners[slot])
			if there.Version == impl.MapMaxVersion {
				if code != impl.CodeOver || !sameMap(back, there) {
					t.Error("there are not so many versions:", m, slot, to, back, code)
				}
				return
			}
			if code != impl.CodeDone || back.Version != m.Version+2 || !slices.Equal(back.Owners, m.Owners) {
				t.Error("map", m, "slot", slot, "to", to, "answer", back, code)
			}
		})
	})
}

// twoMoves tells the codes of both, the second by the map that the first one leaves.
func twoMoves(m impl.Map, a, b [2]int) (impl.Map, int, int) {
	first, codeA := impl.MapMove(m, a[0], a[1])
	both, codeB := impl.MapMove(first, b[0], b[1])
	return both, codeA, codeB
}

func TestPromise14MovesChangePlaces(t *testing.T) {
	eachMap(t, 83, func(m impl.Map) {
		eachMove(func(slotA, toA int) {
			eachMove(func(slotB, toB int) {
				if slotA == slotB {
					return
				}
				a, b := [2]int{slotA, toA}, [2]int{slotB, toB}
				one, oneA, oneB := twoMoves(m, a, b)
				two, twoB, twoA := twoMoves(m, b, a)
				if m.Version <= impl.MapMaxVersion-2 && (oneA == impl.CodeOver || oneB == impl.CodeOver) {
					t.Error("there is room for both:", m, a, b, oneA, oneB)
				}
				over := slices.Contains([]int{oneA, oneB, twoA, twoB}, impl.CodeOver)
				if !over && (!sameMap(one, two) || oneA != twoA || oneB != twoB) {
					t.Error("map", m, "moves", a, b, "answers", one, oneA, oneB, two, twoA, twoB)
				}
				if oneA == impl.CodeDone && oneB == impl.CodeDone && (one.Owners[slotA] != toA || one.Owners[slotB] != toB || one.Version != m.Version+2) {
					t.Error("map", m, "moves", a, b, "answer", one)
				}
			})
		})
	})
}

// With one version left there is room for the first move alone, whichever that is.
func TestPromise14OneVersionLeft(t *testing.T) {
	m := impl.MapStart()
	m.Version = impl.MapMaxVersion - 1
	a, b := [2]int{0, 1}, [2]int{impl.MapSlots - 1, 2}
	if is, codeA, codeB := twoMoves(m, a, b); codeA != impl.CodeDone || codeB != impl.CodeOver || is.Owners[0] != 1 || is.Owners[impl.MapSlots-1] != m.Owners[impl.MapSlots-1] {
		t.Error(is, codeA, codeB)
	}
	if is, codeB, codeA := twoMoves(m, b, a); codeB != impl.CodeDone || codeA != impl.CodeOver || is.Owners[0] != m.Owners[0] || is.Owners[impl.MapSlots-1] != 2 {
		t.Error(is, codeA, codeB)
	}
}

func TestMapsShareNoMemory(t *testing.T) {
	last := impl.MapStart()
	last.Version = impl.MapMaxVersion
	for _, m := range []impl.Map{impl.MapStart(), last} {
		kept := cloneMap(m)
		eachMove(func(slot, to int) {
			is, _ := impl.MapMove(m, slot, to)
			spoil(is)
			bad, _ := impl.MapMove(m, -1, to)
			spoil(bad)
			spoil(impl.MapStart())
			if !sameMap(m, kept) || !sameMap(impl.MapStart(), impl.Map{Version: 1, Owners: kept.Owners}) {
				t.Fatal("shared:", m, slot, to)
			}
		})
	}
}

// The room behind the end of an argument's list is not the program's.
func TestMapsWriteNothingBehindAnEnd(t *testing.T) {
	long := append(impl.MapStart().Owners, 7, 8, 9)
	m := impl.Map{Version: 1, Owners: long[:impl.MapSlots]}
	eachMove(func(slot, to int) {
		is, _ := impl.MapMove(m, slot, to)
		spoil(is)
		if !slices.Equal(long, []int{0, 1, 2, 0, 1, 2, 0, 1, 7, 8, 9}) {
			t.Fatal("written into an argument:", long)
		}
	})
}

func spoil(m impl.Map) {
	list := m.Owners[:cap(m.Owners)]
	for i := range list {
		list[i] = -7
	}
}
