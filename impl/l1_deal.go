// Package impl: deals over several houses, through a gate with few ways.
package impl

import (
	"strconv"
	"strings"
)

// Limits of deals.
const (
	DealKeys    = 32
	DealMaxOps  = 6
	DealMaxNum  = 9999
	DealMaxText = 80
)

// What a statement does.
const (
	StateGet  = 1
	StatePut  = 2
	StateAdd  = 3
	StateNeed = 4
)

// What comes of a call.
const (
	CodeDone    = 0
	CodeRefused = 1
	CodeOver    = 2
	CodeSame    = 3
	CodeBad     = 9
)

// Pair is a key and its value.
type Pair struct {
	Key int
	Val int
}

// Statement is one step of a deal.
type Statement struct {
	Do  int
	Key int
	Num int
}

// DealOk says whether statements are a deal.
func DealOk(list []Statement) bool {
	_, ok := stepsOf(list)
	return ok
}

// DealWrite writes a deal.
func DealWrite(list []Statement) string {
	steps, ok := stepsOf(list)
	if !ok {
		return ""
	}
	var text strings.Builder
	for _, s := range steps {
		text.WriteString(s.text())
	}
	return text.String()
}

// DealRead reads a deal.
func DealRead(text string) ([]Statement, bool) {
	if len(text) > DealMaxText {
		return nil, false
	}
	list, ok := readStatements(text)
	// Numbers are read loosely (a plus, needless zeros), so the text has to be the one that the deal is written as; what is no deal has none.
	if !ok || DealWrite(list) != text {
		return nil, false
	}
	return list, true
}

// DealRun does a deal by values: what comes of it, what was got, and all values that are others then.
func DealRun(list []Statement, vals []Pair) (int, []int, []Pair) {
	steps, ok := stepsOf(list)
	if !ok || !pairsInForm(vals) {
		return CodeBad, nil, nil
	}
	return runSteps(steps, vals)
}

// PairsPut puts pairs into pairs.
func PairsPut(list []Pair, more []Pair) []Pair {
	if !pairsInForm(list) || !pairsInForm(more) {
		return nil
	}
	var vals [DealKeys]int
	putPairs(&vals, list)
	putPairs(&vals, more)
	var out []Pair
	for key, val := range vals {
		if val != 0 {
			out = append(out, Pair{Key: key, Val: val})
		}
	}
	return out
}

// step is a statement that is ok.
type step interface {
	text() string
}

type getStep struct{ key int }

type putStep struct{ key, num int }

type addStep struct{ key, num int }

type needStep struct{ key, num int }

func (s getStep) text() string { return "get " + strconv.Itoa(s.key) + ";" }

func (s putStep) text() string { return "put " + keyAndNum(s.key, s.num) }

func (s addStep) text() string { return "add " + keyAndNum(s.key, s.num) }

func (s needStep) text() string { return "need " + keyAndNum(s.key, s.num) }

func keyAndNum(key, num int) string {
	return strconv.Itoa(key) + " " + strconv.Itoa(num) + ";"
}

func isKey(key int) bool {
	return key >= 0 && key < DealKeys
}

// isValue compares on both sides: the magnitude of the least int is no int.
func isValue(val int) bool {
	return val >= -DealMaxNum && val <= DealMaxNum
}

func pairsInForm(list []Pair) bool {
	if len(list) > DealKeys {
		return false
	}
	for i, p := range list {
		if !isKey(p.Key) || !isValue(p.Val) {
			return false
		}
		if i > 0 && list[i-1].Key >= p.Key {
			return false
		}
	}
	return true
}

func putPairs(vals *[DealKeys]int, list []Pair) {
	for _, p := range list {
		vals[p.Key] = p.Val
	}
}

// stepsOf tells false, if the list is no deal.
func stepsOf(list []Statement) ([]step, bool) {
	if len(list) < 1 || len(list) > DealMaxOps {
		return nil, false
	}
	var steps []step
	for _, s := range list {
		one, ok := stepOf(s)
		if !ok {
			return nil, false
		}
		steps = append(steps, one)
	}
	return steps, true
}

func stepOf(s Statement) (step, bool) {
	if !isKey(s.Key) || !isValue(s.Num) {
		return nil, false
	}
	switch s.Do {
	case StateGet:
		return getStep{s.Key}, s.Num == 0
	case StatePut:
		return putStep{s.Key, s.Num}, true
	case StateAdd:
		return addStep{s.Key, s.Num}, true
	case StateNeed:
		return needStep{s.Key, s.Num}, true
	}
	return nil, false
}

// readStatements reads what stands ahead of each semicolon; that they are a deal is not asked here.
func readStatements(text string) ([]Statement, bool) {
	body, ended := strings.CutSuffix(text, ";")
	if !ended {
		return nil, false
	}
	var list []Statement
	for _, line := range strings.Split(body, ";") {
		s, ok := readStatement(strings.Split(line, " "))
		if !ok {
			return nil, false
		}
		list = append(list, s)
	}
	return list, true
}

func readStatement(words []string) (Statement, bool) {
	do := doOf(words[0])
	if do == StateGet && len(words) == 2 {
		// A get has no number of its own: its Num is 0.
		words = []string{words[0], words[1], "0"}
	} else if do == 0 || do == StateGet || len(words) != 3 {
		return Statement{}, false
	}
	key, keyErr := strconv.Atoi(words[1])
	num, numErr := strconv.Atoi(words[2])
	if keyErr != nil || numErr != nil {
		return Statement{}, false
	}
	return Statement{Do: do, Key: key, Num: num}, true
}

// doOf tells 0 of a word that no statement begins with.
func doOf(word string) int {
	switch word {
	case "get":
		return StateGet
	case "put":
		return StatePut
	case "add":
		return StateAdd
	case "need":
		return StateNeed
	}
	return 0
}

// refusal is the code with which a deal is over in its midst.
type refusal int

// desk is where a deal is done: nothing of it is told, unless all of the deal is done.
type desk struct {
	vals    [DealKeys]int
	changed [DealKeys]bool
	got     []int
}

func runSteps(steps []step, vals []Pair) (code int, got []int, changed []Pair) {
	defer func() {
		if why := recover(); why != nil {
			code, got, changed = codeOf(why), nil, nil
		}
	}()
	var d desk
	putPairs(&d.vals, vals)
	for _, s := range steps {
		d.do(s)
	}
	return CodeDone, d.got, d.changes()
}

// codeOf takes a panic that is no refusal for CodeBad, so that it never passes for a deal that is done.
func codeOf(why any) int {
	if r, ok := why.(refusal); ok {
		return int(r)
	}
	return CodeBad
}

func (d *desk) do(s step) {
	switch x := s.(type) {
	case getStep:
		d.got = append(d.got, d.vals[x.key])
	case putStep:
		d.set(x.key, x.num)
	case addStep:
		d.set(x.key, d.vals[x.key]+x.num)
	case needStep:
		if d.vals[x.key] < x.num {
			panic(refusal(CodeRefused))
		}
	}
}

func (d *desk) set(key, val int) {
	if !isValue(val) {
		panic(refusal(CodeOver))
	}
	d.vals[key], d.changed[key] = val, true
}

func (d *desk) changes() []Pair {
	var list []Pair
	for key, touched := range d.changed {
		if touched {
			list = append(list, Pair{Key: key, Val: d.vals[key]})
		}
	}
	return list
}
