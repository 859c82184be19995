package tests

import (
	"math/rand"
	"reflect"
	"testing"

	"loop.example/turnpike/impl"
)

func TestPromise65SharesNoMemory(t *testing.T) {
	first := impl.TollStart()
	apart(t, "TollStart", []any{first, impl.TollStart(), impl.TollStart()}, []any{impl.GateStart(), impl.HouseStart(0), impl.HouseStart(1), impl.HouseStart(2)})
	spoilAll(reflect.ValueOf(first))
	if w := impl.TollStart(); !impl.TollOk(w) || !sameHouse(w.Houses[2], impl.House{Id: 2, Up: true, Locks: freeLocks()}) {
		t.Error("an answer that is spoilt changes others")
	}
}

// TollOk writes nothing into a world, nor behind the ends of its lists, and tells the same when it is asked again.
func TestPromise65LooksAlone(t *testing.T) {
	look := func(w impl.TollWorld, want bool) {
		w = roomy(w)
		kept := wholeOf(w)
		if impl.TollOk(w) != want || impl.TollOk(w) != want || impl.TollOk(cloneWorld(w)) != want {
			t.Errorf("ok %v of %.3000s", !want, tellWorld(w))
		}
		if !reflect.DeepEqual(wholeOf(w), kept) {
			t.Error("something was written into what was handed in")
		}
	}
	r := rand.New(rand.NewSource(122))
	for range manyWorlds / 10 {
		w := makeWorld(r)
		look(w, true)
		look(worldWith(w, func(w *impl.TollWorld) { w.Time = -1 }), false)
	}
	for i, x := range worldsNotOk() {
		if i%7 == 0 {
			look(x.world, false)
		}
	}
}
