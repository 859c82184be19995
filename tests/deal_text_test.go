package tests

import (
	"math"
	"math/rand"
	"slices"
	"strings"
	"testing"

	"loop.example/turnpike/impl"
)

func TestPromise1TextIsReadBack(t *testing.T) {
	eachDeal(t, everyDo, func(_ *rand.Rand, list []impl.Statement, _ []impl.Pair, _ ran) {
		if !impl.DealOk(list) {
			t.Error("this deal is ok")
		}
		text := impl.DealWrite(list)
		back, ok := impl.DealRead(text)
		if len(text) > impl.DealMaxText {
			if ok || len(back) != 0 {
				t.Error("a text that is too long is read:", text)
			}
		} else if !ok || !slices.Equal(back, list) {
			t.Error("not read back:", text, back)
		}
	})
}

func TestPromise1EveryStatement(t *testing.T) {
	for _, do := range everyDo {
		for key := range impl.DealKeys {
			for num := -impl.DealMaxNum; num <= impl.DealMaxNum; num += 101 {
				s := impl.Statement{Do: do, Key: key, Num: num}
				if do == impl.StateGet {
					s.Num = 0
				}
				list := []impl.Statement{s}
				if back, ok := impl.DealRead(impl.DealWrite(list)); !ok || !slices.Equal(back, list) {
					t.Fatal(s, back, ok)
				}
			}
		}
	}
}

func TestPromise1WrittenForms(t *testing.T) {
	for _, c := range []struct {
		s    impl.Statement
		text string
	}{
		{impl.Statement{Do: impl.StateGet}, "get 0;"},
		{impl.Statement{Do: impl.StateGet, Key: 31}, "get 31;"},
		{impl.Statement{Do: impl.StatePut, Key: 1, Num: 0}, "put 1 0;"},
		{impl.Statement{Do: impl.StateAdd, Key: 10, Num: -7}, "add 10 -7;"},
		{impl.Statement{Do: impl.StateNeed, Key: 31, Num: -9999}, "need 31 -9999;"},
		{impl.Statement{Do: impl.StateNeed, Key: 9, Num: 9999}, "need 9 9999;"},
	} {
		if text := impl.DealWrite([]impl.Statement{c.s}); text != c.text {
			t.Error(c.s, text)
		}
	}
}

// The text's limit is met exactly, passed by one byte, and by as many as a deal can.
func TestPromise1LengthOfText(t *testing.T) {
	four := strings.Repeat("need 31 -9999;", 4)
	for _, c := range []struct {
		text string
		size int
	}{
		{four + "put 31 -999;put 9 -999;", impl.DealMaxText - 1},
		{four + "put 31 -999;put 31 -999;", impl.DealMaxText},
		{four + "put 31 -999;put 31 -9999;", impl.DealMaxText + 1},
		{strings.Repeat("need 31 -9999;", impl.DealMaxOps), 84},
	} {
		if len(c.text) != c.size {
			t.Fatal("this case is wrong:", c.text, len(c.text))
		}
		back, ok := impl.DealRead(c.text)
		if ok != (c.size <= impl.DealMaxText) || !ok && len(back) != 0 || ok && impl.DealWrite(back) != c.text {
			t.Error(c.text, back, ok)
		}
	}
	if _, ok := impl.DealRead("get 1;" + strings.Repeat("x", 1<<20)); ok {
		t.Error("a huge text is read")
	}
}

// A deal may be ok though its text is too long to be read: it is written, and done.
func TestPromise1LongDealIsWritten(t *testing.T) {
	list := slices.Repeat([]impl.Statement{{Do: impl.StateNeed, Key: 31, Num: -9999}}, impl.DealMaxOps)
	if text := impl.DealWrite(list); text != strings.Repeat("need 31 -9999;", impl.DealMaxOps) {
		t.Error(text)
	}
	if !impl.DealOk(list) || run(list, nil).code != impl.CodeDone {
		t.Error("it is not done")
	}
}

func TestPromise1DealsThatAreNotOk(t *testing.T) {
	get := impl.Statement{Do: impl.StateGet, Key: 1}
	for _, list := range [][]impl.Statement{
		nil,
		{},
		slices.Repeat([]impl.Statement{get}, impl.DealMaxOps+1),
		{{}},
		{{Do: 0, Key: 1}},
		{{Do: 5, Key: 1}},
		{{Do: -1, Key: 1}},
		{{Do: impl.StateGet, Key: -1}},
		{{Do: impl.StateGet, Key: impl.DealKeys}},
		{{Do: impl.StateGet, Key: math.MinInt}},
		{{Do: impl.StateGet, Key: 1, Num: 1}},
		{{Do: impl.StateGet, Key: 1, Num: -1}},
		{{Do: impl.StatePut, Key: 1, Num: impl.DealMaxNum + 1}},
		{{Do: impl.StatePut, Key: impl.DealKeys, Num: 1}},
		{{Do: impl.StateAdd, Key: 1, Num: -impl.DealMaxNum - 1}},
		{{Do: impl.StateAdd, Key: -1, Num: 1}},
		{{Do: impl.StateNeed, Key: 1, Num: math.MinInt}},
		{{Do: impl.StateNeed, Key: 1, Num: math.MaxInt}},
		{get, {Do: impl.StatePut, Key: 1, Num: impl.DealMaxNum + 1}},
		{{Do: impl.StateNeed, Key: 1, Num: 1}, {Do: 9}},
	} {
		if impl.DealOk(list) || impl.DealWrite(list) != "" {
			t.Error("taken for a deal:", list)
		}
		if is := run(list, nil); !is.same(ran{code: impl.CodeBad}) {
			t.Error("done:", list, is)
		}
	}
	if most := slices.Repeat([]impl.Statement{get}, impl.DealMaxOps); !impl.DealOk(most) || len(run(most, nil).got) != impl.DealMaxOps {
		t.Error("as many as there may be are not a deal")
	}
}

var noDeals = []string{
	"", " ", ";", ";;", "get", "get;", "get ;", "get 1", "get 1;;", ";get 1;", "get 1; ", " get 1;", "get  1;", "get 1 ;", "get 1 0;", "get 1 2;",
	"get\t1;", "get 1;\n", "\nget 1;", "get 1;\x00", "get \xff;", "get ١;", "Get 1;", "GET 1;", "gets 1;", "ge 1;", "what 1;", "what 1 2;", " 1;", " 1 2;",
	"get -1;", "get -0;", "get +1;", "get 01;", "get 00;", "get 32;", "get 1.0;", "get 0x1;", "get 1_0;", "get 99999999999999999999;", "get a;",
	"put 1;", "put 1 ;", "put 1  2;", "put 1 2 ;", "put 1 2 3;", "put 32 1;", "put -1 1;", "put 1 10000;", "put 1 -10000;", "put 1 -0;", "put 1 00;",
	"put 1 +5;", "put 1 05;", "put 1 -05;", "put 1 --5;", "put 1 -;", "put 1 1_0;", "put 1 9223372036854775808;", "put 1 5,", "put,1,5;", "put 1 5;put",
	"add 1;", "add 01 5;", "add 1 99999;", "need 1;", "need 1 2 3;", "need 40 2;", "need 1 - 2;", "get 1;what;", "get 1;get 1;get 32;",
	"get 1;get 2;get 3;get 4;get 5;get 6;get 7;",
}

func TestPromise2TextsOfNoDeal(t *testing.T) {
	for _, text := range noDeals {
		if list, ok := impl.DealRead(text); ok || len(list) != 0 {
			t.Errorf("read: %q as %v", text, list)
		}
	}
}

// Texts that are deals' but for a byte or two: what is read has just this text.
func TestPromise2OneTextForADeal(t *testing.T) {
	r := rand.New(rand.NewSource(2))
	others := "0123456789- ;+getpudn\x00"
	read := 0
	for range 20 * manyDeals {
		text := []byte(impl.DealWrite(makeDeal(r, everyDo)))
		for range r.Intn(3) {
			i, b := r.Intn(len(text)), others[r.Intn(len(others))]
			switch r.Intn(3) {
			case 0:
				text[i] = b
			case 1:
				text = slices.Insert(text, i, b)
			default:
				if len(text) > 1 {
					text = slices.Delete(text, i, i+1)
				}
			}
		}
		list, ok := impl.DealRead(string(text))
		if !ok {
			if len(list) != 0 {
				t.Fatalf("something beside false: %q", text)
			}
			continue
		}
		read++
		if !impl.DealOk(list) || impl.DealWrite(list) != string(text) {
			t.Fatalf("%q is read as %v", text, list)
		}
	}
	if read < manyDeals {
		t.Error("only so many were read:", read)
	}
}
