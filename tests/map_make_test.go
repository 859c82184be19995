package tests

import (
	"math"
	"slices"
	"testing"

	"loop.example/turnpike/impl"
)

// someVersions are both ends of the versions, those next to them, and one in the midst.
var someVersions = []int{1, 2, 50, impl.MapMaxVersion - 2, impl.MapMaxVersion - 1, impl.MapMaxVersion}

var noKeys = []int{math.MinInt, math.MinInt / impl.MapSlots, -impl.DealKeys, -4, -1, impl.DealKeys, impl.DealKeys + 1, math.MaxInt / impl.MapSlots, math.MaxInt}

var noSlots = []int{math.MinInt, -impl.MapSlots, -1, impl.MapSlots, impl.MapSlots + 1, impl.DealKeys, math.MaxInt}

var noHouses = []int{math.MinInt, -impl.MapHouses, -1, impl.MapHouses, impl.MapHouses + 1, impl.MapSlots, math.MaxInt}

func sameMap(a, b impl.Map) bool {
	return a.Version == b.Version && slices.Equal(a.Owners, b.Owners)
}

func cloneMap(m impl.Map) impl.Map {
	return impl.Map{Version: m.Version, Owners: slices.Clone(m.Owners)}
}

// mapNumber counts the owners through: a place of the number to the base of the houses is a slot.
func mapNumber(version, number int) impl.Map {
	m := impl.Map{Version: version}
	for range impl.MapSlots {
		m.Owners = append(m.Owners, number%impl.MapHouses)
		number /= impl.MapHouses
	}
	return m
}

// eachMap asks of all owners that there are, step by step, at each of some versions.
func eachMap(t *testing.T, step int, ask func(m impl.Map)) {
	t.Helper()
	all := 1
	for range impl.MapSlots {
		all *= impl.MapHouses
	}
	for _, version := range someVersions {
		for number := 0; number < all; number += step {
			m := mapNumber(version, number)
			ask(m)
			if !sameMap(m, mapNumber(version, number)) {
				t.Fatal("an argument was changed:", m)
			}
			if t.Failed() {
				t.FailNow()
			}
		}
	}
}

func eachMove(ask func(slot, to int)) {
	for slot := range impl.MapSlots {
		for to := range impl.MapHouses {
			ask(slot, to)
		}
	}
}

func mapsNotOk() []impl.Map {
	good := impl.MapStart().Owners
	list := []impl.Map{
		{},
		{Version: 1},
		{Version: 1, Owners: []int{}},
		{Version: 1, Owners: good[:1]},
		{Version: 1, Owners: good[:impl.MapSlots-1]},
		{Version: 1, Owners: append(slices.Clone(good), 0)},
		{Version: 1, Owners: append(slices.Clone(good), -1)},
		{Version: 1, Owners: append(slices.Clone(good), good...)},
		{Version: 1, Owners: make([]int, 100000)},
	}
	for _, version := range []int{math.MinInt, -1, 0, impl.MapMaxVersion + 1, math.MaxInt} {
		list = append(list, impl.Map{Version: version, Owners: slices.Clone(good)})
	}
	for slot := range impl.MapSlots {
		for _, house := range noHouses {
			m := cloneMap(impl.MapStart())
			m.Owners[slot] = house
			list = append(list, m)
		}
	}
	return list
}
