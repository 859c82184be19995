package tests

import (
	"math"
	"math/rand"
	"slices"
	"testing"

	"loop.example/turnpike/impl"
)

func everyKey(val int) []impl.Pair {
	var list []impl.Pair
	for key := range impl.DealKeys {
		list = append(list, impl.Pair{Key: key, Val: val})
	}
	return list
}

func pairsNotInForm() [][]impl.Pair {
	return [][]impl.Pair{
		{{Key: -1, Val: 1}},
		{{Key: impl.DealKeys, Val: 1}},
		{{Key: math.MinInt, Val: 1}},
		{{Key: 1, Val: impl.DealMaxNum + 1}},
		{{Key: 1, Val: -impl.DealMaxNum - 1}},
		{{Key: 1, Val: math.MinInt}},
		{{Key: 1, Val: math.MaxInt}},
		{{Key: 1, Val: 1}, {Key: 1, Val: 1}},
		{{Key: 2, Val: 1}, {Key: 1, Val: 1}},
		{{Key: 1, Val: 1}, {Key: 2, Val: impl.DealMaxNum + 1}},
		append(everyKey(1), impl.Pair{Key: impl.DealKeys, Val: 1}),
		append(everyKey(1), impl.Pair{Key: impl.DealKeys - 1, Val: 1}),
		append(everyKey(1), impl.Pair{Key: 0, Val: 1}),
	}
}

func TestPromise7WhatIsPutIsThere(t *testing.T) {
	r := rand.New(rand.NewSource(7))
	for range manyDeals {
		list, more := makePairs(r), makePairs(r)
		is := impl.PairsPut(list, more)
		if !rising(is) || len(is) > impl.DealKeys {
			t.Fatal("not ascending:", is)
		}
		for key := range impl.DealKeys {
			want := valueOf(list, key)
			if tells(more, key) {
				want = valueOf(more, key)
			}
			if valueOf(is, key) != want || tells(is, key) != (want != 0) {
				t.Fatal(key, want, list, more, is)
			}
		}
		if again := impl.PairsPut(is, more); !slices.Equal(again, is) {
			t.Fatal("put twice:", again, is)
		}
	}
}

func TestPromise7PutByADeal(t *testing.T) {
	r := rand.New(rand.NewSource(8))
	for range manyDeals {
		vals := makePairs(r)
		put := impl.Statement{Do: impl.StatePut, Key: r.Intn(impl.DealKeys), Num: makeNum(r)}
		get := impl.Statement{Do: impl.StateGet, Key: put.Key}
		once := run([]impl.Statement{put}, vals)
		if !once.same(ran{changed: []impl.Pair{{Key: put.Key, Val: put.Num}}}) {
			t.Fatal("more, or less, than what was put:", put, once)
		}
		if twice := run([]impl.Statement{put, put}, vals); !twice.same(once) {
			t.Fatal("put twice:", put, twice)
		}
		left := impl.PairsPut(vals, once.changed)
		if is := run([]impl.Statement{get}, left); !is.same(ran{got: []int{put.Num}}) {
			t.Fatal("it is not there:", put, is)
		}
		if is := run([]impl.Statement{put, get}, vals); !slices.Equal(is.got, []int{put.Num}) {
			t.Fatal("it is not there at once:", put, is)
		}
		for key := range impl.DealKeys {
			if key != put.Key && valueOf(left, key) != valueOf(vals, key) {
				t.Fatal("another one is changed:", put, key)
			}
		}
	}
}

func TestPromise7Edges(t *testing.T) {
	if is := impl.PairsPut(nil, nil); len(is) != 0 {
		t.Error(is)
	}
	if is := impl.PairsPut(everyKey(impl.DealMaxNum), everyKey(-impl.DealMaxNum)); !slices.Equal(is, everyKey(-impl.DealMaxNum)) {
		t.Error(is)
	}
	if is := impl.PairsPut(everyKey(1), everyKey(0)); len(is) != 0 {
		t.Error("those that are 0 go:", is)
	}
	if is := impl.PairsPut(everyKey(0), nil); len(is) != 0 {
		t.Error("those that were 0 go as well:", is)
	}
	good := []impl.Pair{{Key: 3, Val: 4}}
	for _, bad := range pairsNotInForm() {
		if len(impl.PairsPut(bad, good)) != 0 || len(impl.PairsPut(good, bad)) != 0 || len(impl.PairsPut(bad, bad)) != 0 {
			t.Error("put, though not in form:", bad)
		}
	}
}

func TestPairsShareNoMemory(t *testing.T) {
	list := []impl.Pair{{Key: 1, Val: 1}, {Key: 2, Val: 2}, {Key: 30, Val: 3}}
	more := []impl.Pair{{Key: 2, Val: 5}, {Key: 31, Val: 6}}
	keptList, keptMore := slices.Clone(list), slices.Clone(more)
	for _, is := range [][]impl.Pair{impl.PairsPut(list[:2], more[:1]), impl.PairsPut(list[:2], nil), impl.PairsPut(nil, more[:1])} {
		is = is[:cap(is)]
		for i := range is {
			is[i] = impl.Pair{Key: -7, Val: -7}
		}
		if !slices.Equal(list, keptList) || !slices.Equal(more, keptMore) {
			t.Fatal("shared with an argument")
		}
	}
}
