package tests

import (
	"math"
	"math/rand"
	"slices"
	"testing"

	"loop.example/turnpike/impl"
)

// byHand does a deal in another way than the program, to hold its answers against.
func byHand(list []impl.Statement, vals []impl.Pair) ran {
	now := map[int]int{}
	for _, p := range vals {
		now[p.Key] = p.Val
	}
	touched := map[int]int{}
	is := ran{}
	for _, s := range list {
		switch s.Do {
		case impl.StateGet:
			is.got = append(is.got, now[s.Key])
		case impl.StatePut:
			now[s.Key], touched[s.Key] = s.Num, s.Num
		case impl.StateAdd:
			sum := now[s.Key] + s.Num
			if sum > impl.DealMaxNum || sum < -impl.DealMaxNum {
				return ran{code: impl.CodeOver}
			}
			now[s.Key], touched[s.Key] = sum, sum
		case impl.StateNeed:
			if now[s.Key] < s.Num {
				return ran{code: impl.CodeRefused}
			}
		}
	}
	for key := range impl.DealKeys {
		if val, ok := touched[key]; ok {
			is.changed = append(is.changed, impl.Pair{Key: key, Val: val})
		}
	}
	return is
}

func TestPromise3WhollyOrNotAtAll(t *testing.T) {
	seen := map[int]int{}
	eachDeal(t, everyDo, func(_ *rand.Rand, list []impl.Statement, vals []impl.Pair, is ran) {
		seen[is.code]++
		if is.code != impl.CodeDone && len(is.got)+len(is.changed) != 0 {
			t.Error("something beside a code")
		}
		if is.code == impl.CodeDone && len(is.got) != countDo(list, impl.StateGet) {
			t.Error("not each get is answered")
		}
		if want := byHand(list, vals); !is.same(want) {
			t.Error("asked is", want)
		}
	})
	if len(seen) != 3 || seen[impl.CodeRefused] < 100 || seen[impl.CodeOver] < 100 {
		t.Error("too few refusals:", seen)
	}
}

func TestPromise3FirstRefusal(t *testing.T) {
	full := []impl.Pair{{Key: 1, Val: impl.DealMaxNum}, {Key: 2, Val: -impl.DealMaxNum}, {Key: 3, Val: 5}}
	for _, c := range []struct {
		text string
		code int
	}{
		{"need 1 9999;", impl.CodeDone},
		{"need 2 -9999;", impl.CodeDone},
		{"need 2 -9998;", impl.CodeRefused},
		{"need 3 5;", impl.CodeDone},
		{"need 3 6;", impl.CodeRefused},
		{"need 4 0;", impl.CodeDone},
		{"need 4 1;", impl.CodeRefused},
		{"add 1 0;", impl.CodeDone},
		{"add 1 1;", impl.CodeOver},
		{"add 1 9999;", impl.CodeOver},
		{"add 2 -1;", impl.CodeOver},
		{"add 3 9994;", impl.CodeDone},
		{"add 3 9995;", impl.CodeOver},
		{"add 3 -9999;add 3 -5;", impl.CodeDone},
		{"add 3 -9999;add 3 -6;", impl.CodeOver},
		{"add 1 1;need 4 1;", impl.CodeOver},
		{"need 4 1;add 1 1;", impl.CodeRefused},
		{"add 1 1;add 1 -1;", impl.CodeOver},
		{"add 1 -1;add 1 1;", impl.CodeDone},
		{"put 4 1;need 4 1;", impl.CodeDone},
		{"need 4 1;put 4 1;", impl.CodeRefused},
		{"get 1;put 3 7;get 3;need 5 1;", impl.CodeRefused},
		{"get 1;put 3 7;get 3;add 1 1;", impl.CodeOver},
	} {
		list, ok := impl.DealRead(c.text)
		is := run(list, full)
		if !ok || is.code != c.code || is.code != impl.CodeDone && len(is.got)+len(is.changed) != 0 {
			t.Error(c.text, is)
		}
	}
}

// Values that are not in form are refused whatever the deal is, also such as would be refused in its midst.
func TestPromise3PairsThatAreNotInForm(t *testing.T) {
	for _, vals := range pairsNotInForm() {
		for _, text := range []string{"get 1;", "need 1 9999;", "put 1 9999;add 1 1;"} {
			list, _ := impl.DealRead(text)
			if is := run(list, vals); !is.same(ran{code: impl.CodeBad}) {
				t.Error(text, vals, is)
			}
		}
	}
	if is := run([]impl.Statement{{Do: impl.StateGet, Key: 31}}, everyKey(7)); !is.same(ran{got: []int{7}}) {
		t.Error("as many pairs as there may be:", is)
	}
	if is := run([]impl.Statement{{Do: impl.StateGet, Key: 1}}, []impl.Pair{{Key: 1, Val: 0}}); !is.same(ran{got: []int{0}}) {
		t.Error("a pair of value 0 is in form:", is)
	}
}

func TestPromise4StatementByStatement(t *testing.T) {
	eachDeal(t, everyDo, func(_ *rand.Rand, list []impl.Statement, vals []impl.Pair, is ran) {
		for cut := 1; cut < len(list) && is.code == impl.CodeDone; cut++ {
			first := run(list[:cut], vals)
			then := run(list[cut:], impl.PairsPut(vals, first.changed))
			both := ran{then.code, slices.Concat(first.got, then.got), nil}
			for key := range impl.DealKeys {
				if tells(then.changed, key) {
					both.changed = append(both.changed, impl.Pair{Key: key, Val: valueOf(then.changed, key)})
				} else if tells(first.changed, key) {
					both.changed = append(both.changed, impl.Pair{Key: key, Val: valueOf(first.changed, key)})
				}
			}
			if first.code != impl.CodeDone || !both.same(is) {
				t.Error("cut at", cut, first, then)
			}
		}
	})
}

func TestPromise4ValuesLeftAhead(t *testing.T) {
	list, _ := impl.DealRead("get 1;add 1 3;get 1;put 1 -2;add 1 2;get 1;")
	if is := run(list, []impl.Pair{{Key: 1, Val: 4}}); !is.same(ran{got: []int{4, 7, 0}, changed: []impl.Pair{{Key: 1}}}) {
		t.Error(is)
	}
	list, _ = impl.DealRead("put 31 1;add 0 0;put 5 0;put 31 2;")
	if is := run(list, []impl.Pair{{Key: 0, Val: 6}, {Key: 7, Val: 8}}); !is.same(ran{changed: []impl.Pair{{Key: 0, Val: 6}, {Key: 5}, {Key: 31, Val: 2}}}) {
		t.Error("all that was put or added to, ascending, also 0:", is)
	}
}

func TestPromise5OnlyWhatIsNamed(t *testing.T) {
	eachDeal(t, everyDo, func(r *rand.Rand, list []impl.Statement, vals []impl.Pair, is ran) {
		for _, p := range is.changed {
			if !names(list, p.Key) {
				t.Error("changed, but not named:", p)
			}
		}
		var others []impl.Pair
		for key := range impl.DealKeys {
			if !names(list, key) {
				others = append(others, impl.Pair{Key: key, Val: makeNum(r)})
			} else if tells(vals, key) {
				others = append(others, impl.Pair{Key: key, Val: valueOf(vals, key)})
			}
		}
		if again := run(list, others); !again.same(is) {
			t.Error("by other values of what is not named:", again)
		}
	})
}

func TestPromise6WhoOnlyLooks(t *testing.T) {
	eachDeal(t, []int{impl.StateGet, impl.StateGet, impl.StateNeed}, func(_ *rand.Rand, list []impl.Statement, vals []impl.Pair, is ran) {
		if len(is.changed) != 0 {
			t.Error("something is changed")
		}
		var want []int
		for _, s := range list {
			if s.Do == impl.StateGet {
				want = append(want, valueOf(vals, s.Key))
			}
		}
		if is.code == impl.CodeDone && !slices.Equal(is.got, want) {
			t.Error("got is not what is there:", want)
		}
	})
}

func TestPromise8UnlikeKeysChangePlaces(t *testing.T) {
	swapped := 0
	writes := func(s impl.Statement) bool { return s.Do == impl.StatePut || s.Do == impl.StateAdd }
	eachDeal(t, everyDo, func(_ *rand.Rand, list []impl.Statement, vals []impl.Pair, is ran) {
		for i := 1; i < len(list) && is.code == impl.CodeDone; i++ {
			if !writes(list[i-1]) || !writes(list[i]) || list[i-1].Key == list[i].Key {
				continue
			}
			swapped++
			other := slices.Clone(list)
			other[i-1], other[i] = other[i], other[i-1]
			if again := run(other, vals); !again.same(is) {
				t.Error("changed places:", other, again)
			}
		}
	})
	if swapped < 100 {
		t.Error("only so many changed places:", swapped)
	}
}

func TestPromise9OnlyPuts(t *testing.T) {
	eachDeal(t, []int{impl.StatePut}, func(r *rand.Rand, list []impl.Statement, vals []impl.Pair, is ran) {
		if is.code != impl.CodeDone || len(is.got) != 0 {
			t.Error("a deal that only puts is always done, and gets nothing")
		}
		left := impl.PairsPut(vals, is.changed)
		if again := run(list, left); !again.same(is) {
			t.Error("once more:", again)
		}
		if again := run(list, makePairs(r)); !again.same(is) {
			t.Error("by other values:", again)
		}
		for _, s := range list {
			if !tells(is.changed, s.Key) {
				t.Error("put, but not told:", s)
			}
		}
	})
}

func TestPromise10OnlyNeeds(t *testing.T) {
	eachDeal(t, []int{impl.StateNeed}, func(_ *rand.Rand, list []impl.Statement, vals []impl.Pair, is ran) {
		code := impl.CodeDone
		for _, s := range list {
			if valueOf(vals, s.Key) < s.Num {
				code = impl.CodeRefused
			}
		}
		if !is.same(ran{code: code}) {
			t.Error("asked is the code", code)
		}
	})
}

// A deal is done on its own memory: arguments and what lies behind them stay, and answers share nothing.
func TestDealsShareNoMemory(t *testing.T) {
	statements := []impl.Statement{{Do: impl.StateAdd, Key: 1, Num: 2}, {Do: impl.StateGet, Key: 1}, {Do: impl.StateNeed, Key: 8, Num: 8}}
	pairs := []impl.Pair{{Key: 1, Val: 3}, {Key: 4, Val: 5}, {Key: 9, Val: 9}}
	keptStatements, keptPairs := slices.Clone(statements), slices.Clone(pairs)
	first := run(statements[:2], pairs[:2])
	impl.DealOk(statements[:2])
	impl.DealWrite(statements[:2])
	if !slices.Equal(statements, keptStatements) || !slices.Equal(pairs, keptPairs) {
		t.Error("an argument is changed")
	}
	want := ran{got: []int{5}, changed: []impl.Pair{{Key: 1, Val: 5}}}
	second := run(statements[:2], pairs[:2])
	second.got[0], second.changed[0] = math.MaxInt, impl.Pair{}
	if !first.same(want) || !slices.Equal(pairs, keptPairs) || !run(statements[:2], pairs[:2]).same(want) {
		t.Error("an answer is not new memory")
	}
	one, _ := impl.DealRead("get 1;get 2;")
	two, _ := impl.DealRead("get 1;get 2;")
	one[0] = impl.Statement{}
	if two[0] != (impl.Statement{Do: impl.StateGet, Key: 1}) {
		t.Error("two answers share memory")
	}
}
