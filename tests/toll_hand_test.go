package tests

import (
	"fmt"
	"slices"
	"strconv"
	"strings"

	"loop.example/turnpike/impl"
)

// What stands here is a second way of looking at worlds, which tells by a word for each what is wrong.

// faultList gathers what is wrong, each once.
type faultList []string

func (list *faultList) add(wrong bool, fault string) {
	if wrong && !slices.Contains(*list, fault) {
		*list = append(*list, fault)
	}
}

func worldFaultsByHand(w impl.TollWorld) faultList {
	var list faultList
	list.add(!numberIn(w.Time, 0, 99999), "time")
	list.add(!gateOkByHand(w.Gate), "gate")
	list.add(len(w.Houses) != 3, "houses")
	for id := 0; id < 3 && len(w.Houses) == 3; id++ {
		list.add(w.Houses[id].Id != id || !houseOkByHand(w.Houses[id]), "house")
	}
	list.add(len(w.Radio) > 60, "radio")
	for _, word := range w.Radio {
		list.add(!wordOkByHand(word), "word")
	}
	return append(list, callFaultsByHand(w.Calls, w.Time)...)
}

// callFaultsByHand sorts the calls by sessions first, and looks at each session's on their own.
func callFaultsByHand(calls []impl.TollCall, time int) faultList {
	var list faultList
	var begins []int
	ofSession := map[int][]impl.TollCall{}
	for _, x := range calls {
		begins = append(begins, x.Begin)
		ofSession[x.Call.Session] = append(ofSession[x.Call.Session], x)
		list.add(!numberIn(x.Begin, 1, time), "begin")
		list.add(!numberIn(x.Call.Kind, 0, 9999) || !numberIn(x.Call.Slot, 0, 9999) || !numberIn(x.Call.To, 0, 9999) || len(x.Call.Text) > 80, "asked")
		list.add(!valsByHand(x.Vals), "answer")
		if x.End == 0 {
			list.add(x.Code != 0 || len(x.Vals) > 0, "answer")
			continue
		}
		list.add(!numberIn(x.Code, 0, 9), "answer")
		list.add(x.End <= x.Begin || x.End > time, "end")
		list.add(x.Over, "given up")
	}
	list.add(len(calls) > 18, "calls")
	list.add(!ascendingByHand(begins), "order")
	for session, own := range ofSession {
		list.add(!numberIn(session, 0, 2), "session")
		for i, x := range own {
			list.add(x.Call.Number != i+1, "number")
			for _, later := range own[i+1:] {
				done := x.Over || x.End != 0 && x.End < later.Begin
				list.add(!done, "busy")
			}
		}
	}
	return list
}

func worldOkByHand(w impl.TollWorld) bool {
	return len(worldFaultsByHand(w)) == 0
}

// tellTollCall tells 0.1 get 0; from 3, and to 5 code 0 .. or given up.
func tellTollCall(x impl.TollCall) string {
	text := strings.TrimSpace(tellCall(x.Call)) + " from " + strconv.Itoa(x.Begin)
	if x.Over {
		text += " given up"
	}
	if x.End != 0 {
		text += " to " + strconv.Itoa(x.End)
	}
	if x.Code != 0 || len(x.Vals) > 0 {
		text += " code" + tellNumbers(append([]int{x.Code}, x.Vals...))
	}
	return text
}

func tellWorld(w impl.TollWorld) string {
	parts := []string{"time " + strconv.Itoa(w.Time), "gate: " + tellGate(w.Gate)}
	for _, h := range w.Houses {
		parts = append(parts, "house: "+tellHouse(h))
	}
	for _, x := range w.Calls {
		parts = append(parts, "call: "+tellTollCall(x))
	}
	for _, word := range w.Radio {
		parts = append(parts, "word: "+fmt.Sprintf("%#v", word))
	}
	return strings.Join(parts, "\n")
}
