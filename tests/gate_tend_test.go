package tests

import (
	"testing"

	"loop.example/turnpike/impl"
)

func TestPromise60WhatItSaysAgain(t *testing.T) {
	for _, c := range []struct{ name, gate, says string }{
		{"nothing under way", "next 1", ""},
		{"who waits", "next 2 | waits 1.1 by 1 of 0.1 get 0;", ""},
		{"who locks", "next 2 | locks 1.1 by 1 of 0.1 get 0; | ways 0: 1", "lock 0 1.1 deal 0"},
		{"who locks, and has locked", "next 2 | locks 1.1 by 1 of 0.1 get 0; locked 0 | ways 0: 1", ""},
		{"who locks, of several", "next 2 | locks 1.3 by 1 of 0.1 get 0;get 12;get 4;get 8; locked 1 | ways 0: 1 | ways 1: 1 | ways 2: 1",
			"lock 0 1.3 deal 0 3 | lock 2 1.3 deal 2"},
		{"who locks, of several, none of which has", "next 2 | locks 1.3 by 1 of 0.1 get 0;get 12;get 4;get 8; | ways 0: 1 | ways 1: 1 | ways 2: 1",
			"lock 0 1.3 deal 0 3 | lock 1 1.3 deal 1 | lock 2 1.3 deal 2"},
		{"who locks, of several, all of which have", "next 2 | locks 1.3 by 1 of 0.1 get 0;get 4; locked 0 1 2 | ways 0: 1 | ways 1: 1",
			""},
		{"who locks, without ways to all", "next 2 | locks 1.1 by 1 of 0.1 get 0;get 4;get 8; | ways 0: 1 | ways 2: 1",
			"lock 0 1.1 deal 0 | lock 2 1.1 deal 2"},
		{"who locks, without ways", "next 2 | locks 1.1 by 1 of 0.1 get 0;get 4;", ""},
		{"who locks, with a way that it does not need", "next 2 | locks 1.1 by 1 of 0.1 get 0; | ways 0: 1 | ways 1: 1",
			"lock 0 1.1 deal 0 | lock 1 1.1 deal"},
		{"who moves", "next 2 | locks 1.1 by 1 of 0.1 move 3 1 | ways 0: 1 | ways 1: 1",
			"lock 0 1.1 out 3 | lock 1 1.1 in 3"},
		{"who moves, and one has locked", "next 2 | locks 1.1 by 1 of 0.1 move 3 1 locked 0 | ways 0: 1 | ways 1: 1",
			"lock 1 1.1 in 3"},
		{"who moves, with a way that it does not need", "next 2 | locks 1.1 by 1 of 0.1 move 3 1 | ways 0: 1 | ways 2: 1",
			"lock 0 1.1 out 3 | lock 2 1.1 out 3"},
		{"who promises", "next 2 | promises 1.1 by 1 of 0.1 get 0; locked 0 | ways 0: 1",
			"promise 0 1.1"},
		{"who promises, and has told", "next 2 | promises 1.1 by 1 of 0.1 get 0; locked 0 told 0: 0=5 | ways 0: 1",
			""},
		{"who promises, and has told no values", "next 2 | promises 1.1 by 1 of 0.1 get 0; locked 0 told 0: | ways 0: 1",
			""},
		{"who promises, of several", "next 2 | promises 1.2 by 1 of 0.1 get 0;get 4;get 8; locked 0 1 2 told 1: 4=5 | ways 0: 1 | ways 1: 1 | ways 2: 1",
			"promise 0 1.2 | promise 2 1.2"},
		{"who promises, of several that have not locked", "next 2 | promises 1.2 by 1 of 0.1 get 0;get 4;get 8; | ways 0: 1 | ways 1: 1 | ways 2: 1",
			"promise 0 1.2 | promise 1 1.2 | promise 2 1.2"},
		{"who promises, of several, all of which told", "next 2 | promises 1.2 by 1 of 0.1 get 0;get 4; locked 0 1 told 0: told 1: told 2: | ways 0: 1 | ways 1: 1",
			""},
		{"who promises a move", "next 2 | promises 1.2 by 1 of 0.1 move 3 1 locked 0 1 told 0: 12=5 | ways 0: 1 | ways 1: 1",
			"promise 1 1.2"},
		{"who promises, without ways", "next 2 | promises 1.1 by 1 of 0.1 get 0; locked 0", ""},
		{"several, in their order", "next 7 | locks 2.1 by 1 of 2.1 get 8;get 0; | promises 4.2 by 1 of 0.1 get 4;get 8; locked 1 2 told 1: | waits 6.1 by 1 of 1.1 get 8; | ways 0: 2 | ways 1: 4 | ways 2: 2 4",
			"lock 0 2.1 deal 0 | lock 2 2.1 deal 2 | promise 2 4.2"},
		{"several, one behind the other", "next 7 | promises 2.1 by 1 of 2.1 get 8;get 0; locked 0 2 | locks 4.2 by 1 of 0.1 get 4;get 0; | ways 0: 2 4 | ways 1: 4 | ways 2: 2",
			"promise 0 2.1 | promise 2 2.1 | lock 0 4.2 deal 0 | lock 1 4.2 deal 1"},
		{"by an elder map", "next 3 | wrote 1.1 of 1.1 move 3 1 code 0 | locks 2.1 by 1 of 0.1 get 12;get 4; | ways 0: 2 | ways 1: 2",
			"lock 0 2.1 deal 3 | lock 1 2.1 deal 1"},
		{"by the new map", "next 3 | wrote 1.1 of 1.1 move 3 1 code 0 | locks 2.1 by 2 of 0.1 get 12;get 4; | ways 0: 2 | ways 1: 2",
			"lock 0 2.1 deal | lock 1 2.1 deal 1 3"},
		{"by a map that is none: by the last", "next 3 | wrote 1.1 of 1.1 move 3 1 code 0 | locks 2.1 by 3 of 0.1 get 12;get 4; | ways 0: 2 | ways 1: 2",
			"lock 0 2.1 deal | lock 1 2.1 deal 1 3"},
		{"by a map in the midst", "next 5 | wrote 1.1 of 1.1 move 3 1 code 0 | wrote 2.1 of 1.2 get 0; code 0 0 | wrote 3.1 of 1.3 move 3 2 code 0 | locks 4.1 by 2 of 0.1 get 12;get 8; | ways 0: 4 | ways 1: 4 | ways 2: 4",
			"lock 0 4.1 deal | lock 1 4.1 deal 3 | lock 2 4.1 deal 2"},
		{"by the map behind what is none", "next 5 | wrote 1.1 of 1.1 move 3 1 code 3 | wrote 2.1 of 1.2 move 3 0 code 0 | wrote 3.1 of 1.3 move 3 2 code 0 | locks 4.1 by 2 of 0.1 get 12;get 8; | ways 0: 4 | ways 1: 4 | ways 2: 4",
			"lock 0 4.1 deal | lock 1 4.1 deal | lock 2 4.1 deal 2 3"},
		{"a move, by an elder map", "next 3 | wrote 1.1 of 1.1 move 3 1 code 0 | locks 2.1 by 1 of 0.1 move 3 2 | ways 0: 2 | ways 2: 2",
			"lock 0 2.1 out 3 | lock 2 2.1 in 3"},
	} {
		g := readGate(c.gate)
		if words := impl.GateTend(g); tellGateWords(words) != c.says || !sameWords(words, tendByHand(g)) {
			t.Errorf("%s: says %s, asked is %s", c.name, tellGateWords(words), c.says)
		}
		if tellGate(g) != c.gate {
			t.Error(c.name, "an argument was changed")
		}
	}
}
