package tests

import (
	"math/rand"
	"slices"
	"testing"

	"loop.example/turnpike/impl"
)

// hearCase is a house behind some words, one more word, and what the document says of it: what the house is then, and what it says. In short, as tellHouse, tellWords and readWords have it.
type hearCase struct {
	name   string
	ahead  string
	word   string
	want   string
	saying string
}

func hearAll(t *testing.T, start impl.House, list []hearCase) {
	t.Helper()
	for _, c := range list {
		h, _ := behind(start, readWords(start.Id, c.ahead)...)
		if !impl.HouseOk(h) {
			t.Errorf("%s: not ok: %s", c.name, tellHouse(h))
		}
		is, words := impl.HouseHear(h, readWord(start.Id, c.word))
		want := c.want
		if want == "" {
			want = tellHouse(h)
		}
		if tellHouse(is) != want || tellWords(start.Id, words) != c.saying || !impl.HouseOk(is) {
			t.Errorf("%s:\nis       %s\nasked is %s\nsays     %s\nasked is %s", c.name, tellHouse(is), want, tellWords(start.Id, words), c.saying)
		}
		byHand, wordsByHand := hearByHand(h, readWord(start.Id, c.word))
		if !sameHouse(is, byHand) || !sameWords(words, wordsByHand) {
			t.Errorf("%s: by hand it is %s, and says %s", c.name, tellHouse(byHand), tellWords(start.Id, wordsByHand))
		}
	}
}

func TestPromise45WhoHasAllLocks(t *testing.T) {
	hearAll(t, impl.HouseStart(0), []hearCase{
		{"one slot", "", "lock 5.1 deal 3", "house 0 up; work 5.1 deal 3; slot 3 held 5.1", "locked 5.1"},
		{"several slots", "", "lock 5.1 deal 0 3 6", "house 0 up; work 5.1 deal 0 3 6; slot 0 held 5.1; slot 3 held 5.1; slot 6 held 5.1", "locked 5.1"},
		{"the first and the last name", "lock 9999.9999 deal 0", "lock 1.9999 out 3", "house 0 up; work 1.9999 out 3; work 9999.9999 deal 0; slot 0 held 9999.9999; slot 3 held 1.9999", "locked 1.9999"},
		{"works are in order", "lock 5.1 deal 0; lock 9.1 deal 3", "lock 7.1 deal 6", "house 0 up; work 5.1 deal 0; work 7.1 deal 6; work 9.1 deal 3; slot 0 held 5.1; slot 3 held 9.1; slot 6 held 7.1", "locked 7.1"},
		{"what goes", "", "lock 5.1 out 3", "house 0 up; work 5.1 out 3; slot 3 held 5.1", "locked 5.1"},
		{"what comes", "", "lock 5.1 in 1", "house 0 up; work 5.1 in 1; slot 1 held 5.1", "locked 5.1"},
		{"all slots, of which some are elsewhere", "", "lock 5.1 deal 0 1", "house 0 up; work 5.1 deal 0 1; slot 0 held 5.1; slot 1 held 5.1", "taken 5.1"},
		{"a slot that is elsewhere", "", "lock 5.1 deal 7", "house 0 up; work 5.1 deal 7; slot 7 held 5.1", "taken 5.1"},
		{"what goes is elsewhere", "", "lock 5.1 out 1", "house 0 up; work 5.1 out 1; slot 1 held 5.1", "taken 5.1"},
		{"what comes is here", "", "lock 5.1 in 3", "house 0 up; work 5.1 in 3; slot 3 held 5.1", "taken 5.1"},
		{"again", "lock 5.1 deal 0 3", "lock 5.1 deal 0 3", "", "locked 5.1"},
		{"again, while others wait", "lock 5.1 deal 0; lock 7.1 deal 0", "lock 5.1 deal 0", "", "locked 5.1"},
		{"again, with a slot that is elsewhere", "lock 5.1 deal 0 1", "lock 5.1 deal 0 1", "", "taken 5.1"},
		{"again, but otherwise: it is the work that is told of", "lock 5.1 deal 0", "lock 5.1 in 0", "", "locked 5.1"},
		{"again, but otherwise, and that is elsewhere", "lock 5.1 out 0", "lock 5.1 deal 1 2", "", "locked 5.1"},
		{"again, while it waits", "lock 5.1 deal 0; lock 7.1 deal 0 3", "lock 7.1 deal 0 3", "", ""},
		{"a younger one waits", "lock 5.1 deal 0", "lock 7.1 deal 0 3", "house 0 up; work 5.1 deal 0; work 7.1 deal 0 3; slot 0 held 5.1 waits 7.1; slot 3 held 7.1", ""},
		{"a younger one waits for a slot that is elsewhere", "lock 5.1 deal 1", "lock 7.1 deal 1", "house 0 up; work 5.1 deal 1; work 7.1 deal 1; slot 1 held 5.1 waits 7.1", ""},
		{"an elder one waits for a promise", "lock 5.1 deal 0; promise 5.1", "lock 2.1 deal 0 3",
			"house 0 up; promise 5.1 deal 0; forced 1; work 2.1 deal 0 3; slot 0 held 5.1 firm waits 2.1; slot 3 held 2.1", ""},
		{"behind one who waits", "lock 5.1 deal 0; promise 5.1; lock 2.1 deal 0", "lock 3.1 deal 0", "house 0 up; promise 5.1 deal 0; forced 1; work 2.1 deal 0; work 3.1 deal 0; slot 0 held 5.1 firm waits 2.1, 3.1", ""},
	})
	hearAll(t, impl.HouseStart(2), []hearCase{
		{"another house's slots", "", "lock 5.1 deal 2 5", "house 2 up; work 5.1 deal 2 5; slot 2 held 5.1; slot 5 held 5.1", "locked 5.1"},
		{"another house's slots, of which one is elsewhere", "", "lock 5.1 deal 2 6", "house 2 up; work 5.1 deal 2 6; slot 2 held 5.1; slot 6 held 5.1", "taken 5.1"},
		{"a slot that came", "lock 5.1 in 0; promise 5.1; end 5.1 yes 1=4", "lock 6.1 deal 0 2",
			"house 2 up; promise 5.1 in 0; done 5.1 1=4; forced 1; work 6.1 deal 0 2; slot 0 held 6.1; slot 2 held 6.1", "locked 6.1"},
		{"a slot that went", "lock 5.1 out 2; promise 5.1; end 5.1 yes", "lock 6.1 deal 2", "house 2 up; promise 5.1 out 2; done 5.1; forced 1; work 6.1 deal 2; slot 2 held 6.1", "taken 6.1"},
		{"a slot that went comes again", "lock 5.1 out 2; promise 5.1; end 5.1 yes", "lock 6.1 in 2", "house 2 up; promise 5.1 out 2; done 5.1; forced 1; work 6.1 in 2; slot 2 held 6.1", "locked 6.1"},
		{"a slot that is to go is here still", "lock 5.1 out 2; promise 5.1", "lock 6.1 deal 5", "house 2 up; promise 5.1 out 2; forced 1; work 6.1 deal 5; slot 2 held 5.1 firm; slot 5 held 6.1", "locked 6.1"},
		{"a slot that did not go", "lock 5.1 out 2; promise 5.1; end 5.1", "lock 6.1 deal 2", "house 2 up; promise 5.1 out 2; undone 5.1; forced 1; work 6.1 deal 2; slot 2 held 6.1", "locked 6.1"},
	})
}

func TestPromise45OtherTries(t *testing.T) {
	hearAll(t, impl.HouseStart(0), []hearCase{
		{"an elder try", "lock 5.2 deal 0", "lock 5.1 deal 0 3", "", ""},
		{"an elder try, of a work that waits", "lock 2.1 deal 0; lock 5.2 deal 0 3", "lock 5.1 deal 3", "", ""},
		{"a later try", "lock 5.1 deal 0", "lock 5.2 deal 3", "house 0 up; work 5.2 deal 3; slot 3 held 5.2", "locked 5.2"},
		{"a later try, of the same slots", "lock 5.1 deal 0 3", "lock 5.9 deal 0 3", "house 0 up; work 5.9 deal 0 3; slot 0 held 5.9; slot 3 held 5.9", "locked 5.9"},
		{"a later try, of a work that waits", "lock 2.1 deal 0; lock 5.1 deal 0 3", "lock 5.2 deal 0", "house 0 up; work 2.1 deal 0; work 5.2 deal 0; slot 0 held 2.1 waits 5.2", ""},
		{"a later try, and who waited for the elder one", "lock 5.1 deal 0; lock 7.1 deal 0", "lock 5.2 deal 3",
			"house 0 up; work 5.2 deal 3; work 7.1 deal 0; slot 0 held 7.1; slot 3 held 5.2", "locked 7.1; locked 5.2"},
		{"a later try, and two that waited, not in the order of slots", "lock 5.1 deal 0 3; lock 8.1 deal 0; lock 7.1 deal 3", "lock 5.2 deal 6",
			"house 0 up; work 5.2 deal 6; work 7.1 deal 3; work 8.1 deal 0; slot 0 held 8.1; slot 3 held 7.1; slot 6 held 5.2", "locked 7.1; locked 8.1; locked 5.2"},
		{"a later try takes it back at once", "lock 5.1 deal 0; lock 7.1 deal 0", "lock 5.2 deal 0", "house 0 up; work 5.2 deal 0; slot 0 held 5.2", "locked 7.1; taken 7.1; locked 5.2"},
		{"a later try, of a work that waits for a promise", "lock 5.1 deal 0; promise 5.1; lock 2.1 deal 0; lock 7.1 deal 0", "lock 2.2 deal 3",
			"house 0 up; promise 5.1 deal 0; forced 1; work 2.2 deal 3; work 7.1 deal 0; slot 0 held 5.1 firm waits 7.1; slot 3 held 2.2", "locked 2.2"},
		{"this try is promised", "lock 5.1 deal 0; promise 5.1", "lock 5.1 deal 0", "", ""},
		{"this try is promised, and it is asked otherwise", "lock 5.1 deal 0; promise 5.1", "lock 5.1 out 3", "", ""},
		{"this try is promised and done", "lock 5.1 deal 0; promise 5.1; end 5.1 yes", "lock 5.1 deal 0", "", ""},
		{"this try is promised and undone", "lock 5.1 deal 0; promise 5.1; end 5.1", "lock 5.1 deal 0", "", ""},
		{"this try is promised, and a later one works", "lock 5.1 deal 0; promise 5.1; end 5.1; lock 5.2 deal 0", "lock 5.1 deal 0", "", ""},
		{"an elder try ended", "lock 5.1 deal 0; promise 5.1; end 5.1", "lock 5.2 deal 0", "house 0 up; promise 5.1 deal 0; undone 5.1; forced 1; work 5.2 deal 0; slot 0 held 5.2", "locked 5.2"},
		{"a later try ended", "lock 5.2 deal 0; promise 5.2; end 5.2", "lock 5.1 deal 0", "house 0 up; promise 5.2 deal 0; undone 5.2; forced 1; work 5.1 deal 0; slot 0 held 5.1", "locked 5.1"},
		{"a later try is promised", "lock 5.2 deal 0; promise 5.2", "lock 5.1 deal 3", "house 0 up; promise 5.2 deal 0; forced 1; work 5.1 deal 3; slot 0 held 5.2 firm; slot 3 held 5.1", "locked 5.1"},
		{"an elder try is promised, of other slots", "lock 5.1 deal 0; promise 5.1", "lock 5.2 deal 3", "house 0 up; promise 5.1 deal 0; forced 1; work 5.2 deal 3; slot 0 held 5.1 firm; slot 3 held 5.2", "locked 5.2"},
		{"an elder try is promised, and holds it", "lock 5.1 deal 0; promise 5.1", "lock 5.2 deal 0 3", "house 0 up; promise 5.1 deal 0; forced 1; work 5.2 deal 0 3; slot 0 held 5.1 firm; slot 3 held 5.2", ""},
		{"an elder try is promised, and holds it still when it is asked again", "lock 5.1 deal 0; promise 5.1; lock 5.2 deal 0 3", "lock 5.2 deal 0 3", "", ""},
		{"a still later try, while the first one holds it: to free the second would free the promise", "lock 5.1 deal 0; promise 5.1; lock 5.2 deal 0 3", "lock 5.3 deal 0 3", "", ""},
	})
}

// Who asked while an elder try of its own stamp had promised is not in the lock, as nobody waits for itself. It has to ask again: else it would work without its locks for ever.
func TestPromise45WhoAsksAgainBehindItsOwnPromise(t *testing.T) {
	hearAll(t, impl.HouseStart(0), []hearCase{
		{"the end of the elder try tells nothing of it", "lock 5.1 deal 0; promise 5.1; lock 5.2 deal 0 3", "end 5.1",
			"house 0 up; promise 5.1 deal 0; undone 5.1; forced 1; work 5.2 deal 0 3; slot 3 held 5.2", ""},
		{"it asks again", "lock 5.1 deal 0; promise 5.1; lock 5.2 deal 0 3; end 5.1", "lock 5.2 deal 0 3",
			"house 0 up; promise 5.1 deal 0; undone 5.1; forced 1; work 5.2 deal 0 3; slot 0 held 5.2; slot 3 held 5.2", "locked 5.2"},
		{"it asks again, and takes", "lock 5.1 deal 0; promise 5.1; lock 5.2 deal 0 3; lock 7.1 deal 0 6; end 5.1", "lock 5.2 deal 0 3",
			"house 0 up; promise 5.1 deal 0; undone 5.1; forced 1; work 5.2 deal 0 3; slot 0 held 5.2; slot 3 held 5.2", "taken 7.1; locked 5.2"},
		{"it asks again, and waits", "lock 5.1 deal 0; promise 5.1; lock 5.2 deal 0 3; lock 2.1 deal 0; end 5.1", "lock 5.2 deal 0 3",
			"house 0 up; promise 5.1 deal 0; undone 5.1; forced 1; work 2.1 deal 0; work 5.2 deal 0 3; slot 0 held 2.1 waits 5.2; slot 3 held 5.2", ""},
		{"it asks again, but otherwise: it is the work that asks", "lock 5.1 deal 0; promise 5.1; lock 5.2 deal 0; end 5.1", "lock 5.2 deal 6",
			"house 0 up; promise 5.1 deal 0; undone 5.1; forced 1; work 5.2 deal 0; slot 0 held 5.2", "locked 5.2"},
	})
}

func TestPromise46FromWhomItIsTaken(t *testing.T) {
	hearAll(t, impl.HouseStart(0), []hearCase{
		{"one that has not promised", "lock 5.1 deal 0 3", "lock 2.1 deal 3", "house 0 up; work 2.1 deal 3; slot 3 held 2.1", "taken 5.1; locked 2.1"},
		{"several", "lock 5.1 deal 0; lock 6.1 deal 3; lock 7.1 deal 6", "lock 2.1 deal 0 3 6",
			"house 0 up; work 2.1 deal 0 3 6; slot 0 held 2.1; slot 3 held 2.1; slot 6 held 2.1", "taken 5.1; taken 6.1; taken 7.1; locked 2.1"},
		{"in the order of slots, not of stamps", "lock 6.1 deal 0; lock 5.1 deal 3", "lock 2.1 deal 0 3", "house 0 up; work 2.1 deal 0 3; slot 0 held 2.1; slot 3 held 2.1", "taken 6.1; taken 5.1; locked 2.1"},
		{"several locks of one", "lock 5.1 deal 0 3 6", "lock 2.1 deal 0 3 6", "house 0 up; work 2.1 deal 0 3 6; slot 0 held 2.1; slot 3 held 2.1; slot 6 held 2.1", "taken 5.1; locked 2.1"},
		{"in the try that it works in", "lock 5.7 deal 0", "lock 2.3 out 0", "house 0 up; work 2.3 out 0; slot 0 held 2.3", "taken 5.7; locked 2.3"},
		{"who waits for another lock of it", "lock 5.1 deal 0 3; lock 7.1 deal 3", "lock 2.1 deal 0", "house 0 up; work 2.1 deal 0; work 7.1 deal 3; slot 0 held 2.1; slot 3 held 7.1", "taken 5.1; locked 7.1; locked 2.1"},
		{"who waits for other locks of two", "lock 5.1 deal 0 3; lock 6.1 deal 6; lock 7.1 deal 3; lock 8.1 deal 3 6", "lock 2.1 deal 0 6",
			"house 0 up; work 2.1 deal 0 6; work 7.1 deal 3; work 8.1 deal 3 6; slot 0 held 2.1; slot 3 held 7.1 waits 8.1; slot 6 held 2.1 waits 8.1", "taken 5.1; locked 7.1; taken 6.1; locked 2.1"},
		{"who waits for the lock itself waits still", "lock 5.1 deal 0; lock 7.1 deal 0", "lock 2.1 deal 0", "house 0 up; work 2.1 deal 0; work 7.1 deal 0; slot 0 held 2.1 waits 7.1", "taken 5.1; locked 2.1"},
		{"what it waits for goes as well", "lock 5.1 deal 0; lock 7.1 deal 0 3", "lock 6.1 deal 3", "house 0 up; work 5.1 deal 0; work 6.1 deal 3; slot 0 held 5.1; slot 3 held 6.1", "taken 7.1; locked 6.1"},
		{"by one who has to wait for others", "lock 3.1 deal 0; lock 7.1 deal 3", "lock 5.1 deal 0 3", "house 0 up; work 3.1 deal 0; work 5.1 deal 0 3; slot 0 held 3.1 waits 5.1; slot 3 held 5.1", "taken 7.1"},
		{"by one of slots that are elsewhere", "lock 5.1 deal 0", "lock 2.1 deal 0 1", "house 0 up; work 2.1 deal 0 1; slot 0 held 2.1; slot 1 held 2.1", "taken 5.1; taken 2.1"},
		{"from one of slots that are elsewhere", "lock 5.1 deal 0 1", "lock 2.1 deal 0", "house 0 up; work 2.1 deal 0; slot 0 held 2.1", "taken 5.1; locked 2.1"},
		{"who waits for what is elsewhere is told so", "lock 5.1 deal 0 1; lock 7.1 deal 1", "lock 2.1 deal 0", "house 0 up; work 2.1 deal 0; work 7.1 deal 1; slot 0 held 2.1; slot 1 held 7.1", "taken 5.1; taken 7.1; locked 2.1"},
		{"not from one that has promised", "lock 5.1 deal 0 3; promise 5.1", "lock 2.1 deal 3 6",
			"house 0 up; promise 5.1 deal 0 3; forced 1; work 2.1 deal 3 6; slot 0 held 5.1 firm; slot 3 held 5.1 firm waits 2.1; slot 6 held 2.1", ""},
		{"not from one that has promised, but from one that has not", "lock 5.1 deal 0; promise 5.1; lock 6.1 deal 3", "lock 2.1 deal 0 3",
			"house 0 up; promise 5.1 deal 0; forced 1; work 2.1 deal 0 3; slot 0 held 5.1 firm waits 2.1; slot 3 held 2.1", "taken 6.1"},
		{"not from an elder one", "lock 5.1 deal 0", "lock 7.1 deal 0", "house 0 up; work 5.1 deal 0; work 7.1 deal 0; slot 0 held 5.1 waits 7.1", ""},
		{"from one whose elder try has promised: to free it would free the promise", "lock 5.1 deal 0; promise 5.1; lock 5.2 deal 3", "lock 2.1 deal 3", "", ""},
		{"who is taken comes again, and waits", "lock 5.1 deal 0; lock 2.1 deal 0", "lock 5.1 deal 0", "house 0 up; work 2.1 deal 0; work 5.1 deal 0; slot 0 held 2.1 waits 5.1", ""},
	})
}

func wordsOfText(id int, texts ...string) []impl.Word {
	var list []impl.Word
	for _, text := range texts {
		list = append(list, readWords(id, text)...)
	}
	return list
}

func TestPromise45TwelveWorks(t *testing.T) {
	var ahead []string
	for stamp := range maxWorks - 1 {
		ahead = append(ahead, "lock "+tellName(stamp+11, 2)[1:]+" deal 0")
	}
	eleven, _ := behind(impl.HouseStart(0), wordsOfText(0, ahead...)...)
	twelve, said := behind(eleven, readWord(0, "lock 30.2 deal 3"))
	if len(eleven.Works) != 11 || len(twelve.Works) != 12 || tellWords(0, said) != "locked 30.2" {
		t.Fatal(tellHouse(twelve), tellWords(0, said))
	}
	for text, want := range map[string]string{
		"lock 31.1 deal 6": "", "lock 1.1 deal 6": "", "lock 1.1 deal 0 3": "", "lock 15.1 deal 6": "", "lock 12.2 deal 0": "",
		"lock 30.2 deal 3": "locked 30.2", "lock 11.2 deal 0": "locked 11.2",
	} {
		if is, words := behind(twelve, readWord(0, text)); !sameHouse(is, twelve) || tellWords(0, words) != want {
			t.Error(text, tellHouse(is), tellWords(0, words))
		}
	}
	// A later try comes instead of the work that it has, and one that promised makes room.
	is, words := behind(twelve, readWord(0, "lock 30.3 deal 6"))
	if len(is.Works) != 12 || tellWords(0, words) != "locked 30.3" || !sameWork(is.Works[11], workOf(30, 3, impl.WhatDeal, 6)) {
		t.Error(tellHouse(is), tellWords(0, words))
	}
	is, words = behind(twelve, wordsOfText(0, "promise 11.2", "lock 31.1 deal 6")...)
	if len(is.Works) != 12 || tellWords(0, words) != "locked 31.1" {
		t.Error(tellHouse(is), tellWords(0, words))
	}
}

func TestPromise47NoDeeds(t *testing.T) {
	h, _ := behind(impl.HouseStart(0), readWords(0, "lock 5.1 deal 0; promise 5.1; lock 20.1 deal 3; lock 21.1 deal 3")...)
	many := 0
	for _, w := range append(deedsNotOk(), workOf(1, 0, 1, 6), workOf(0, 1, 1, 6), workOf(1, 1, 0, 6), workOf(1, 1, 1), workOf(1, 1, 2, 3, 6), workOf(1, 1, 3, 1, 2), workOf(0, 0, 0)) {
		word := impl.Word{Kind: impl.WordLock, From: impl.WordGate, Stamp: w.Stamp, Try: w.Try, What: w.What, Slots: w.Slots}
		if is, words := impl.HouseHear(h, word); !sameHouse(is, h) || len(words) > 0 {
			t.Error(w, tellHouse(is), tellWords(0, words))
		}
		if impl.WordOk(word) {
			many++
		}
	}
	if many < 10 {
		t.Error("only so many are words that are ok:", many)
	}
}

// Houses that no words lead to are ok as well.
func TestPromise46AnyWhoHoldLocks(t *testing.T) {
	start := with(impl.HouseStart(0), func(h *impl.House) {
		h.Locks[0].Held = holds(sharing(4, 1), firm(sharing(6, 1)), sharing(7, 3), sharing(9, 1))
		h.Locks[3].Held = sharers(4000, maxHolds)
		h.Locks[6].Waits = holds(alone(7, 2), alone(8, 1))
		h.Works = []impl.Work{workOf(7, 2, impl.WhatDeal, 6), workOf(8, 1, impl.WhatDeal, 6), workOf(9, 1, impl.WhatDeal, 0), workOf(4005, 1, impl.WhatDeal, 3)}
	})
	rest := "; slot 3 held 4000.1 share, 4001.1 share, 4002.1 share, 4003.1 share, 4004.1 share, 4005.1 share, 4006.1 share, 4007.1 share, 4008.1 share, 4009.1 share, 4010.1 share, 4011.1 share, 4012.1 share, 4013.1 share, 4014.1 share, 4015.1 share"
	hearAll(t, start, []hearCase{
		{"whose work is in another try than the hold is taken from likewise", "", "lock 5.1 deal 0",
			"house 0 up; work 5.1 deal 0; work 8.1 deal 6; work 4005.1 deal 3; slot 0 held 4.1 share, 6.1 share firm waits 5.1" + rest + "; slot 6 held 8.1", "taken 7.2; locked 8.1; taken 9.1"},
		{"who holds without a work is told nothing", "", "lock 3.1 deal 3",
			"house 0 up; work 3.1 deal 3; work 7.2 deal 6; work 8.1 deal 6; work 9.1 deal 0; slot 0 held 4.1 share, 6.1 share firm, 7.3 share, 9.1 share; slot 3 held 3.1; slot 6 held 7.2 waits 8.1", "taken 4005.1; locked 7.2; locked 3.1"},
		{"a lock without room", "", "lock 4999.1 deal 3",
			"house 0 up; work 7.2 deal 6; work 8.1 deal 6; work 9.1 deal 0; work 4005.1 deal 3; work 4999.1 deal 3; slot 0 held 4.1 share, 6.1 share firm, 7.3 share, 9.1 share" + rest + "; slot 6 waits 7.2, 8.1", ""},
		{"who holds by another hand", "", "lock 4.1 deal 0",
			"house 0 up; work 4.1 deal 0; work 7.2 deal 6; work 8.1 deal 6; work 9.1 deal 0; work 4005.1 deal 3; slot 0 held 4.1 share, 6.1 share firm, 7.3 share, 9.1 share" + rest + "; slot 6 waits 7.2, 8.1", "locked 4.1"},
	})
	// Its own elder work is freed: by that another one, and then it itself, comes to hold a lock.
	itself := with(impl.HouseStart(0), func(h *impl.House) {
		h.Locks[0].Held, h.Locks[3] = holds(alone(9, 1)), impl.Lock{Slot: 3, Held: holds(firm(sharing(9, 1))), Waits: holds(alone(5, 1))}
		h.Works = []impl.Work{workOf(9, 1, impl.WhatDeal, 0, 3)}
	})
	hearAll(t, itself, []hearCase{{"who holds all by whom it took from is told twice", "", "lock 5.1 deal 0 3", "house 0 up; work 5.1 deal 0 3; slot 0 held 5.1; slot 3 held 5.1", "taken 9.1; locked 5.1; locked 5.1"}})
}

func TestPromise35AsByHand(t *testing.T) {
	said := map[int]int{}
	some := 0
	eachHouse(t, 61, eitherHouse, func(r *rand.Rand, h impl.House, w impl.Word) {
		for _, x := range []impl.Word{w, makeHouseWord(r, h), makeHouseWord(r, h), makeOtherWord(r, h)} {
			is, words := impl.HouseHear(h, x)
			byHand, wordsByHand := hearByHand(h, x)
			if !sameHouse(is, byHand) || !sameWords(words, wordsByHand) {
				t.Errorf("word %#v\nis    %.2000s\nsays  %s\nasked %.2000s\nsays  %s", x, tellHouse(is), tellWords(h.Id, words), tellHouse(byHand), tellWords(h.Id, wordsByHand))
			}
			for _, one := range words {
				said[one.Kind]++
			}
			if len(words) > 1 {
				some++
			}
		}
	})
	if said[impl.WordLocked] < 500 || said[impl.WordTaken] < 500 || said[impl.WordPromised] < 500 || some < 200 {
		t.Error("too few of a kind:", said, some)
	}
}

func TestPromise35NothingSpoilsIt(t *testing.T) {
	changed := 0
	eachHouse(t, 62, eitherHouse, func(r *rand.Rand, h impl.House, w impl.Word) {
		for _, x := range []impl.Word{w, makeHouseWord(r, h), makeOtherWord(r, h)} {
			is, words := impl.HouseHear(h, x)
			if !impl.HouseOk(is) || !houseOkByHand(is) || is.Id != h.Id || is.Up != h.Up || is.Forced < h.Forced {
				t.Errorf("not ok: %.2000s", tellHouse(is))
			}
			if len(is.Log) < len(h.Log) || len(is.Log) > len(h.Log)+1 || !slices.EqualFunc(is.Log[:len(h.Log)], h.Log, sameRec) {
				t.Error("what was written down does not stay:", is.Log)
			}
			for _, one := range words {
				if !impl.WordOk(one) || !wordOkByHand(one) || one.From != h.Id || one.To != impl.WordGate {
					t.Errorf("not its own: %#v", one)
				}
			}
			if !sameHouse(is, h) {
				changed++
			}
		}
	})
	if changed < manyHouses/2 {
		t.Error("only so many changed:", changed)
	}
}

func TestPromise35WhoIsDown(t *testing.T) {
	h, _ := behind(impl.HouseStart(0), readWords(0, "lock 5.1 deal 0; promise 5.1; lock 6.1 deal 3; promise 6.1; end 6.1 yes 12=4")...)
	down := impl.HouseFall(h, 9)
	for _, text := range []string{"lock 7.1 deal 3", "lock 5.1 deal 0", "promise 5.1", "promise 7.1", "end 5.1 yes 1=1", "end 5.1", "end 6.1"} {
		if is, words := impl.HouseHear(down, readWord(0, text)); !sameHouse(is, down) || len(words) > 0 {
			t.Error(text, tellHouse(is), tellWords(0, words))
		}
	}
	eachHouse(t, 63, eitherHouse, func(r *rand.Rand, h impl.House, w impl.Word) {
		down := impl.HouseFall(h, r.Intn(3))
		if is, words := impl.HouseHear(down, w); !sameHouse(is, down) || len(words) > 0 || len(impl.HouseTend(down)) > 0 {
			t.Error("it does something:", tellHouse(is), tellWords(0, words))
		}
	})
}

func TestPromise47WhatIsNotForIt(t *testing.T) {
	h, _ := behind(impl.HouseStart(0), readWords(0, "lock 5.1 deal 0; promise 5.1; lock 6.1 deal 3; lock 7.1 deal 3")...)
	for _, text := range []string{"lock 8.1 deal 6", "lock 2.1 deal 3", "promise 5.1", "promise 6.1", "promise 9.1", "end 5.1 yes 1=1", "end 5.1", "end 6.1"} {
		word := readWord(0, text)
		if is, words := impl.HouseHear(h, word); sameHouse(is, h) && len(words) == 0 {
			t.Error("it does nothing:", text)
		}
		for kind := range 12 {
			for _, from := range everyPlace {
				for _, to := range everyPlace {
					other := word
					other.Kind, other.From, other.To = kind, from, to
					if from == impl.WordGate && to == 0 && (kind == impl.WordLock || kind == impl.WordPromise || kind == impl.WordEnd) {
						continue
					}
					if is, words := impl.HouseHear(h, other); !sameHouse(is, h) || len(words) > 0 {
						t.Errorf("%#v %s %s", other, tellHouse(is), tellWords(0, words))
					}
				}
			}
		}
		for _, spoil := range []func(w *impl.Word){
			func(w *impl.Word) { w.Code = 10 }, func(w *impl.Word) { w.Vals = make([]int, 7) }, func(w *impl.Word) { w.Call.To = -1 },
			func(w *impl.Word) { w.Pairs = []impl.Pair{{Key: 1}, {Key: 1}} }, func(w *impl.Word) { w.Slots = []int{4, 3} }, func(w *impl.Word) { w.Call.Session = 10000 },
			func(w *impl.Word) { w.What = 4 }, func(w *impl.Word) { w.Stamp = -1 }, func(w *impl.Word) { w.Try = 10000 },
		} {
			other := word
			spoil(&other)
			if is, words := impl.HouseHear(h, other); !sameHouse(is, h) || len(words) > 0 {
				t.Errorf("%#v %s %s", other, tellHouse(is), tellWords(0, words))
			}
		}
	}
	eachHouse(t, 64, eitherHouse, func(r *rand.Rand, h impl.House, w impl.Word) {
		other := makeOtherWord(r, h)
		if is, words := impl.HouseHear(h, other); !sameHouse(is, h) || len(words) > 0 {
			t.Errorf("%#v %s %s", other, tellHouse(is), tellWords(0, words))
		}
	})
}

// What a word need not tell changes nothing of what comes of it.
func TestPromise47WhatAWordNeedNotTell(t *testing.T) {
	eachHouse(t, 65, eitherHouse, func(r *rand.Rand, h impl.House, w impl.Word) {
		bare, more := w, makeWord(r)
		bare.Code, bare.Vals, bare.Call = 0, nil, impl.Call{}
		full := bare
		full.Code, full.Vals, full.Call = more.Code, more.Vals, more.Call
		if w.Kind != impl.WordEnd {
			full.Yes, full.Pairs, bare.Yes, bare.Pairs = true, more.Pairs, false, nil
		}
		if w.Kind != impl.WordLock {
			full.What, full.Slots = more.What, more.Slots
		}
		is, words := impl.HouseHear(h, full)
		want, wantWords := impl.HouseHear(h, bare)
		if !sameHouse(is, want) || !sameWords(words, wantWords) {
			t.Errorf("%#v %s %s", full, tellHouse(is), tellWords(h.Id, words))
		}
	})
}

func TestPromise45WhoIsToldHasAll(t *testing.T) {
	told, followed := 0, 0
	eachHouse(t, 66, eitherHouse, func(r *rand.Rand, h impl.House, w impl.Word) {
		for _, x := range []impl.Word{w, makeHouseWord(r, h), makeHouseWord(r, h)} {
			is, words := impl.HouseHear(h, x)
			for i, one := range words {
				if one.Kind != impl.WordLocked {
					continue
				}
				told++
				has, _ := workByHand(is, one.Stamp)
				if slices.ContainsFunc(words[i:], func(next impl.Word) bool {
					return next.Kind == impl.WordTaken && next.Stamp == one.Stamp && next.Try == one.Try
				}) {
					followed++
				} else if has.Try != one.Try || !hasAllByHand(is, has) || !suitsByHand(is, has) {
					t.Errorf("it is told %s, but the house is %.2000s", tellWords(h.Id, words), tellHouse(is))
				}
			}
		}
	})
	if told < 500 || followed < 5 {
		t.Error("too few of a kind:", told, followed)
	}
}

func workByHand(h impl.House, stamp int) (impl.Work, bool) {
	i := slices.IndexFunc(h.Works, func(w impl.Work) bool { return w.Stamp == stamp })
	if i < 0 {
		return impl.Work{}, false
	}
	return h.Works[i], true
}

// This is asked of houses to which words lead: there who holds a lock works, or has promised.
func TestPromise46WhoLosesALockIsTold(t *testing.T) {
	lost := 0
	eachHouse(t, 67, walkHouse, func(r *rand.Rand, h impl.House, w impl.Word) {
		is, words := impl.HouseHear(h, w)
		for slot, l := range h.Locks {
			for _, x := range l.Held {
				if x.Stamp == w.Stamp || ofStamp(is.Locks[slot].Held, x.Stamp) == x {
					continue
				}
				lost++
				_, works := workByHand(is, x.Stamp)
				said := slices.ContainsFunc(words, func(one impl.Word) bool {
					return one.Kind == impl.WordTaken && one.Stamp == x.Stamp && one.Try == x.Try
				})
				if x.Firm || works || !said || w.Kind != impl.WordLock {
					t.Errorf("slot %d of %#v is taken: %s, says %s", slot, x, tellHouse(is), tellWords(h.Id, words))
				}
			}
		}
		for _, one := range words {
			x, works := workByHand(is, one.Stamp)
			if one.Kind == impl.WordTaken && works && suitsByHand(is, x) {
				t.Errorf("its work is there: %s, says %s", tellHouse(is), tellWords(h.Id, words))
			}
		}
		for _, l := range is.Locks {
			for _, x := range slices.Concat(l.Held, l.Waits) {
				if has, _ := workByHand(is, x.Stamp); !x.Firm && (has.Try != x.Try || !slices.Contains(has.Slots, l.Slot)) {
					t.Errorf("it holds, or waits, without a work: %#v of %s", x, tellHouse(is))
				}
			}
		}
	})
	if lost < 300 {
		t.Error("only so many:", lost)
	}
}
