package tests

import (
	"math/rand"
	"slices"
	"testing"

	"loop.example/turnpike/impl"
)

const manyDeals = 4000

var everyDo = []int{impl.StateGet, impl.StatePut, impl.StateAdd, impl.StateNeed}

// fewKeys are few, so that statements of a deal often name the same one; both ends of the keys are among them.
var fewKeys = []int{0, 1, 2, impl.DealKeys - 2, impl.DealKeys - 1}

var edgeNums = []int{-impl.DealMaxNum, -impl.DealMaxNum + 1, -5000, 0, 5000, impl.DealMaxNum - 1, impl.DealMaxNum}

// makeNum tells an edge now and then; else small numbers, so that many deals are done.
func makeNum(r *rand.Rand) int {
	if r.Intn(4) == 0 {
		return edgeNums[r.Intn(len(edgeNums))]
	}
	return r.Intn(9) - 4
}

func makeStatement(r *rand.Rand, dos []int) impl.Statement {
	s := impl.Statement{Do: dos[r.Intn(len(dos))], Key: fewKeys[r.Intn(len(fewKeys))]}
	if s.Do != impl.StateGet {
		s.Num = makeNum(r)
	}
	return s
}

func makeDeal(r *rand.Rand, dos []int) []impl.Statement {
	var list []impl.Statement
	for range 1 + r.Intn(impl.DealMaxOps) {
		list = append(list, makeStatement(r, dos))
	}
	return list
}

// makePairs tells values that are 0 as well, which pairs in form may hold.
func makePairs(r *rand.Rand) []impl.Pair {
	var list []impl.Pair
	for key := range impl.DealKeys {
		if r.Intn(2) == 0 {
			list = append(list, impl.Pair{Key: key, Val: makeNum(r)})
		}
	}
	return list
}

func valueOf(list []impl.Pair, key int) int {
	for _, p := range list {
		if p.Key == key {
			return p.Val
		}
	}
	return 0
}

func tells(list []impl.Pair, key int) bool {
	return slices.ContainsFunc(list, func(p impl.Pair) bool { return p.Key == key })
}

func names(list []impl.Statement, key int) bool {
	return slices.ContainsFunc(list, func(s impl.Statement) bool { return s.Key == key })
}

func countDo(list []impl.Statement, do int) int {
	n := 0
	for _, s := range list {
		if s.Do == do {
			n++
		}
	}
	return n
}

func rising(list []impl.Pair) bool {
	for i := 1; i < len(list); i++ {
		if list[i-1].Key >= list[i].Key {
			return false
		}
	}
	return true
}

// ran is an answer of DealRun.
type ran struct {
	code    int
	got     []int
	changed []impl.Pair
}

func run(list []impl.Statement, vals []impl.Pair) ran {
	code, got, changed := impl.DealRun(list, vals)
	return ran{code, got, changed}
}

func (a ran) same(b ran) bool {
	return a.code == b.code && slices.Equal(a.got, b.got) && slices.Equal(a.changed, b.changed)
}

// eachDeal asks of many deals; at least a tenth of them must be done, so that what is asked is not empty.
func eachDeal(t *testing.T, dos []int, ask func(r *rand.Rand, list []impl.Statement, vals []impl.Pair, is ran)) {
	t.Helper()
	r := rand.New(rand.NewSource(1))
	done := 0
	for range manyDeals {
		list, vals := makeDeal(r, dos), makePairs(r)
		is := run(list, vals)
		if is.code == impl.CodeDone {
			done++
		}
		ask(r, list, vals, is)
		if t.Failed() {
			t.Fatal("deal", list, "values", vals, "answer", is)
		}
	}
	if done < manyDeals/10 {
		t.Fatal("only so many were done:", done)
	}
}
