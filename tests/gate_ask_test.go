package tests

import (
	"testing"
)

func TestPromise62NewCalls(t *testing.T) {
	hearAllOfGate(t, fromStart, []gateCase{
		{"a deal of one house", "", "ask 0.1 get 0;",
			"next 2 | locks 1.1 by 1 of 0.1 get 0; | ways 0: 1", "lock 0 1.1 deal 0"},
		{"a deal of several slots of one house", "", "ask 0.1 get 24;get 0;get 12;get 1;",
			"next 2 | locks 1.1 by 1 of 0.1 get 24;get 0;get 12;get 1; | ways 0: 1", "lock 0 1.1 deal 0 3 6"},
		{"a deal of all houses", "", "ask 2.1 put 31 1;add 8 2;need 0 0;get 20;",
			"next 2 | locks 1.1 by 1 of 2.1 put 31 1;add 8 2;need 0 0;get 20; | ways 0: 1 | ways 1: 1 | ways 2: 1", "lock 0 1.1 deal 0 | lock 1 1.1 deal 7 | lock 2 1.1 deal 2 5"},
		{"the first number may be any", "", "ask 1.99 get 4;",
			"next 2 | locks 1.1 by 1 of 1.99 get 4; | ways 1: 1", "lock 1 1.1 deal 1"},
		{"a move", "", "ask 0.1 move 3 1",
			"next 2 | locks 1.1 by 1 of 0.1 move 3 1 | ways 0: 1 | ways 1: 1", "lock 0 1.1 out 3 | lock 1 1.1 in 3"},
		{"a move, to a lower house", "", "ask 0.1 move 7 0",
			"next 2 | locks 1.1 by 1 of 0.1 move 7 0 | ways 0: 1 | ways 1: 1", "lock 0 1.1 in 7 | lock 1 1.1 out 7"},
		{"a move to where it is", "", "ask 0.1 move 3 0",
			"next 2 | wrote 1.1 of 0.1 move 3 0 code 3", "answer 0.1 3"},
		{"a second call, of another session", "ask 0.1 get 0;", "ask 1.1 get 0;get 4;",
			"next 3 | locks 1.1 by 1 of 0.1 get 0; | locks 2.1 by 1 of 1.1 get 0;get 4; | ways 0: 1 2 | ways 1: 2", "lock 0 2.1 deal 0 | lock 1 2.1 deal 1"},
		{"a number of 0", "", "ask 0.0 get 0;", "", ""},
		{"a number too great", "", "ask 0.100 get 0;", "", ""},
		{"a number far too great", "", "ask 0.9999 get 0;", "", ""},
		{"a number of 0, of a call that is none anyway", "", "ask 0.0 what", "", ""},
		{"a number too great, of a call that is none anyway", "", "ask 0.100 what", "", ""},
		{"a number behind the last", "ask 0.7 move 3 0", "ask 0.8 get 0;",
			"next 3 | wrote 1.1 of 0.7 move 3 0 code 3 | locks 2.1 by 1 of 0.8 get 0; | ways 0: 2", "lock 0 2.1 deal 0"},
		{"a number behind the last, of another session", "ask 0.7 move 3 0", "ask 1.1 get 0;",
			"next 3 | wrote 1.1 of 0.7 move 3 0 code 3 | locks 2.1 by 1 of 1.1 get 0; | ways 0: 2", "lock 0 2.1 deal 0"},
		{"a move to where it is, again", "ask 0.1 move 3 0", "ask 0.2 move 3 0",
			"next 3 | wrote 1.1 of 0.1 move 3 0 code 3 | wrote 2.1 of 0.2 move 3 0 code 3", "answer 0.2 3"},
		{"a move to where it is, while others have all ways", "ask 0.1 get 0; | ask 1.1 get 0;", "ask 2.1 move 3 0",
			"next 4 | wrote 3.1 of 2.1 move 3 0 code 3 | locks 1.1 by 1 of 0.1 get 0; | locks 2.1 by 1 of 1.1 get 0; | ways 0: 1 2", "answer 2.1 3"},
	})
}

func TestPromise52CallsThatAreNone(t *testing.T) {
	hearAllOfGate(t, fromStart, []gateCase{
		{"a text that is no deal", "", "ask 0.1 what", "", "answer 0.1 9"},
		{"no text, of a later number than is under way", "ask 0.1 get 0;", "ask 0.2 ", "", "answer 0.2 9"},
		{"no key, of the number that is under way", "ask 0.1 get 0;", "ask 0.1 get 32;", "", "answer 0.1 9"},
		{"no end, of a number that was written down", "ask 0.1 get 0; | locked 0 1.1 | promised 0 1.1 yes 0=4", "ask 0.1 get 0", "", "answer 0.1 9"},
		{"no slot, of a number below", "ask 0.7 move 0 0", "ask 0.3 move 8 0", "", "answer 0.3 9"},
		{"no house, of a number behind", "ask 1.7 move 0 0", "ask 1.8 move 0 3", "", "answer 1.8 9"},
	})
}

func TestPromise51WhatWasWrittenDown(t *testing.T) {
	hearAllOfGate(t, fromStart, []gateCase{
		{"with the same text", "ask 0.7 get 0;get 1; | locked 0 1.1 | promised 0 1.1 yes 0=4 1=-5", "ask 0.7 get 0;get 1;", "", "answer 0.7 0 4 -5"},
		{"with another text", "ask 0.7 get 0;get 1; | locked 0 1.1 | promised 0 1.1 yes 0=4 1=-5", "ask 0.7 put 9 9;", "", "answer 0.7 0 4 -5"},
		{"as a move", "ask 0.7 get 0;get 1; | locked 0 1.1 | promised 0 1.1 yes 0=4 1=-5", "ask 0.7 move 3 1", "", "answer 0.7 0 4 -5"},
		{"a deal that was refused", "ask 0.7 get 0;need 1 5; | locked 0 1.1 | promised 0 1.1 yes 0=4", "ask 0.7 get 0;need 1 5;", "", "answer 0.7 1"},
		{"a move", "ask 0.7 move 3 0", "ask 0.7 move 3 0", "", "answer 0.7 3"},
		{"with a later one under way", "ask 0.7 move 3 0 | ask 0.8 get 0;", "ask 0.7 move 3 0", "", "answer 0.7 3"},
		{"behind a fall", "ask 0.7 move 3 0 | ask 0.8 get 0; | fall | rise", "ask 0.7 move 3 0", "", "answer 0.7 3"},
		{"with others behind it", "ask 0.7 move 3 0 | ask 1.1 move 1 1 | ask 2.1 move 2 2", "ask 0.7 move 3 1", "", "answer 0.7 3"},
		{"a number below the last", "ask 0.7 move 3 0", "ask 0.6 get 0;", "", ""},
		{"a number below the last, which was written down", "ask 0.6 move 3 0 | ask 0.7 move 0 0", "ask 0.6 move 3 0", "", ""},
		{"a number below the last, with one under way", "ask 0.7 move 3 0 | ask 0.9 get 0;", "ask 0.6 get 0;", "", ""},
	})
}

func TestPromise62CallsThatAreUnderWay(t *testing.T) {
	hearAllOfGate(t, fromStart, []gateCase{
		{"the same number", "ask 0.7 get 0;", "ask 0.7 get 0;", "", ""},
		{"the same number, with another text", "ask 0.7 get 0;", "ask 0.7 get 8;", "", ""},
		{"the same number, while houses promise", "ask 0.7 get 0; | locked 0 1.1", "ask 0.7 get 0;", "", ""},
		{"the same number, while it waits", "ask 0.1 get 0; | ask 1.1 get 0; | ask 2.1 get 0;", "ask 2.1 get 0;", "", ""},
		{"the same number, behind a fall", "ask 0.7 get 0; | fall | rise", "ask 0.7 get 0;",
			"life 2 next 3 | locks 2.1 by 1 of 0.7 get 0; | ways 0: 2", "lock 0 2.1 deal 0"},
		{"a number below", "ask 0.7 get 0;", "ask 0.6 get 0;", "", ""},
		{"a number between the last and this", "ask 0.7 move 3 0 | ask 0.9 get 0;", "ask 0.8 get 0;", "", ""},
		{"a number above, while houses lock", "ask 0.7 get 0;", "ask 0.8 get 8;",
			"next 3 | locks 2.1 by 1 of 0.8 get 8; | ways 2: 2", "end all 1.1 | lock 2 2.1 deal 2"},
		{"a number above, while houses promise", "ask 0.7 get 0; | locked 0 1.1", "ask 0.8 get 8;",
			"next 3 | locks 2.1 by 1 of 0.8 get 8; | ways 2: 2", "end all 1.1 | lock 2 2.1 deal 2"},
		{"a number above, while it waits", "ask 0.1 get 0; | ask 1.1 get 0; | ask 2.1 get 0;", "ask 2.2 get 0;get 4;",
			"next 5 | locks 1.1 by 1 of 0.1 get 0; | locks 2.1 by 1 of 1.1 get 0; | waits 4.1 by 1 of 2.2 get 0;get 4; | ways 0: 1 2", "end all 3.1"},
		{"a number above, while it waits, of a house that is free", "ask 0.1 get 0; | ask 1.1 get 0; | ask 2.1 get 0;", "ask 2.2 get 4;",
			"next 5 | locks 1.1 by 1 of 0.1 get 0; | locks 2.1 by 1 of 1.1 get 0; | locks 4.1 by 1 of 2.2 get 4; | ways 0: 1 2 | ways 1: 4", "end all 3.1 | lock 1 4.1 deal 1"},
		{"a number above, in a later try", "ask 0.7 get 0; | taken 0 1.1 | taken 0 1.2", "ask 0.8 get 0;",
			"next 3 | locks 2.1 by 1 of 0.8 get 0; | ways 0: 2", "end all 1.3 | lock 0 2.1 deal 0"},
		{"a number above, and another one waits for its way", "ask 0.1 get 0; | ask 1.1 get 0; | ask 2.1 get 0;", "ask 0.2 get 0;",
			"next 5 | locks 2.1 by 1 of 1.1 get 0; | locks 3.1 by 1 of 2.1 get 0; | waits 4.1 by 1 of 0.2 get 0; | ways 0: 2 3", "end all 1.1 | lock 0 3.1 deal 0"},
		{"a number above, of other houses, and another one waits for its way", "ask 0.1 get 0; | ask 1.1 get 0; | ask 2.1 get 0;", "ask 0.2 get 4;",
			"next 5 | locks 2.1 by 1 of 1.1 get 0; | locks 3.1 by 1 of 2.1 get 0; | locks 4.1 by 1 of 0.2 get 4; | ways 0: 2 3 | ways 1: 4", "end all 1.1 | lock 0 3.1 deal 0 | lock 1 4.1 deal 1"},
		{"a number above, of a move that is none", "ask 0.1 get 0;", "ask 0.2 move 3 0",
			"next 3 | wrote 2.1 of 0.2 move 3 0 code 3", "end all 1.1 | answer 0.2 3"},
	})
}

func TestPromise62Room(t *testing.T) {
	hearAllOfGate(t, readGate, []gateCase{
		{"one place in the log", "next 60 | 59 wrote", "ask 2.20 get 0;",
			"next 61 | 59 wrote | locks 60.1 by 1 of 2.20 get 0; | ways 0: 60", "lock 0 60.1 deal 0"},
		{"one place in the log, and a move that is none", "next 60 | 59 wrote", "ask 2.20 move 3 0",
			"next 61 | 59 wrote | wrote 60.1 of 2.20 move 3 0 code 3", "answer 2.20 3"},
		{"no place in the log", "next 61 | 60 wrote", "ask 2.21 get 0;", "", ""},
		{"no place in the log, and a move that is none", "next 61 | 60 wrote", "ask 2.21 move 3 0", "", ""},
		{"no place in the log, but it is there", "next 61 | 60 wrote", "ask 2.20 get 0;", "", "answer 2.20 0 0"},
		{"no place in the log, but it is none", "next 61 | 60 wrote", "ask 2.21 what", "", "answer 2.21 9"},
		{"one place for one that is under way", "next 61 | 59 wrote | locks 60.1 by 1 of 0.21 get 0; | ways 0: 60", "ask 2.20 get 0;", "", ""},
		{"one place for one that is under way, which would be dropped", "next 61 | 59 wrote | locks 60.1 by 1 of 0.21 get 0; | ways 0: 60", "ask 0.22 get 0;", "", ""},
		{"one place for one that is under way, which is written down", "next 61 | 59 wrote | promises 60.1 by 1 of 0.21 get 0; locked 0 | ways 0: 60", "promised 0 60.1 yes",
			"next 61 | 59 wrote | wrote 60.1 of 0.21 get 0; code 0 0", "answer 0.21 0 0 | end all 60.1 yes"},
		{"two places, one of them free", "next 60 | 58 wrote | locks 59.1 by 1 of 0.21 get 0; | ways 0: 59", "ask 2.20 get 0;",
			"next 61 | 58 wrote | locks 59.1 by 1 of 0.21 get 0; | locks 60.1 by 1 of 2.20 get 0; | ways 0: 59 60", "lock 0 60.1 deal 0"},
		{"three places, none of them free", "next 61 | 57 wrote | locks 58.1 by 1 of 0.20 get 0; | locks 59.1 by 1 of 1.20 get 8; | locks 60.1 by 1 of 2.20 get 4; | ways 0: 58 | ways 1: 60 | ways 2: 59", "ask 0.21 get 0;", "", ""},
		{"four places, one of them free", "next 60 | 56 wrote | locks 57.1 by 1 of 0.20 get 0; | locks 58.1 by 1 of 1.20 get 8; | locks 59.1 by 1 of 2.20 get 4; | ways 0: 57 | ways 1: 59 | ways 2: 58", "ask 0.21 get 0;",
			"next 61 | 56 wrote | locks 58.1 by 1 of 1.20 get 8; | locks 59.1 by 1 of 2.20 get 4; | locks 60.1 by 1 of 0.21 get 0; | ways 0: 60 | ways 1: 59 | ways 2: 58", "end all 57.1 | lock 0 60.1 deal 0"},
		{"fewer places than calls under way", "next 63 | 60 wrote | locks 61.1 by 1 of 0.21 get 0; | ways 0: 61", "ask 2.21 get 0;", "", ""},
		{"fewer places than calls under way, one is to be written down", "next 63 | 60 wrote | promises 61.1 by 1 of 0.21 get 0; locked 0 | ways 0: 61", "promised 0 61.1 yes", "", ""},
		{"fewer places than calls under way, one is given up", "next 63 | 60 wrote | promises 61.1 by 1 of 0.21 get 0; locked 0 | ways 0: 61", "promised 0 61.1",
			"next 63 | 60 wrote | locks 61.2 by 1 of 0.21 get 0; | ways 0: 61", "end all 61.1 | lock 0 61.2 deal 0"},
		{"fewer places than calls under way, a move would be written down", "next 63 | 60 wrote | promises 61.1 by 1 of 0.21 get 0; locked 0 | waits 62.1 by 1 of 1.21 move 3 0 | ways 0: 61", "promised 0 61.1", "", ""},
		{"the last stamp", "next 9999", "ask 0.1 get 0;", "", ""},
		{"the last stamp, and a move that is none", "next 9999", "ask 0.1 move 3 0", "", ""},
		{"the last stamp, but it is none", "next 9999", "ask 0.1 what", "", "answer 0.1 9"},
		{"the last stamp, but it is there", "next 9999 | wrote 5.1 of 0.1 get 0; code 0 4", "ask 0.1 get 0;", "", "answer 0.1 0 4"},
		{"the last stamp, and one that would be dropped", "next 9999 | locks 9998.1 by 1 of 0.1 get 0; | ways 0: 9998", "ask 0.2 get 0;", "", ""},
		{"the last stamp but one", "next 9998", "ask 0.1 get 0;",
			"next 9999 | locks 9998.1 by 1 of 0.1 get 0; | ways 0: 9998", "lock 0 9998.1 deal 0"},
		{"the last number", "next 2 | wrote 1.1 of 0.98 get 0; code 0 4", "ask 0.99 get 0;",
			"next 3 | wrote 1.1 of 0.98 get 0; code 0 4 | locks 2.1 by 1 of 0.99 get 0; | ways 0: 2", "lock 0 2.1 deal 0"},
	})
}

func TestPromise54Doubt(t *testing.T) {
	hearAllOfGate(t, fromStart, []gateCase{
		{"what was done", "ask 0.1 get 0;add 0 2; | locked 0 1.1 | promised 0 1.1 yes 0=5", "doubt 0 1.1", "", "end 0 1.1 yes 0=7"},
		{"what was done, from a house without any part", "ask 0.1 get 0;add 0 2; | locked 0 1.1 | promised 0 1.1 yes 0=5", "doubt 2 1.1", "", "end 2 1.1 yes 0=7"},
		{"what was done, and writes nothing", "ask 0.1 get 0; | locked 0 1.1 | promised 0 1.1 yes 0=5", "doubt 1 1.1", "", "end 1 1.1 yes"},
		{"what was done in an elder try", "ask 0.1 put 0 2; | taken 0 1.1 | locked 0 1.2 | promised 0 1.2 yes", "doubt 0 1.3", "", "end 0 1.3"},
		{"what was done in a later try", "ask 0.1 put 0 2; | taken 0 1.1 | locked 0 1.2 | promised 0 1.2 yes", "doubt 0 1.1", "", "end 0 1.1"},
		{"what was done in this try, not the first", "ask 0.1 put 0 2; | taken 0 1.1 | locked 0 1.2 | promised 0 1.2 yes", "doubt 0 1.2", "", "end 0 1.2 yes 0=2"},
		{"what was refused", "ask 0.1 put 0 2;need 1 1; | locked 0 1.1 | promised 0 1.1 yes", "doubt 0 1.1", "", "end 0 1.1"},
		{"what was refused, in another try", "ask 0.1 put 0 2;need 1 1; | locked 0 1.1 | promised 0 1.1 yes", "doubt 0 1.2", "", "end 0 1.2"},
		{"what was moved", "ask 0.1 move 3 2 | locked 0 1.1 | locked 2 1.1 | promised 0 1.1 yes 12=5 | promised 2 1.1 yes", "doubt 2 1.1", "", "end 2 1.1 yes 12=5"},
		{"what was not moved", "ask 0.1 move 3 0", "doubt 0 1.1", "", "end 0 1.1"},
		{"what was done, behind a fall", "ask 0.1 put 0 2; | locked 0 1.1 | promised 0 1.1 yes | fall | rise", "doubt 0 1.1", "", "end 0 1.1 yes 0=2"},
		{"what was done, with others behind it", "ask 0.1 put 0 2; | locked 0 1.1 | promised 0 1.1 yes | ask 0.2 move 3 0 | ask 0.3 get 8;", "doubt 0 1.1", "", "end 0 1.1 yes 0=2"},
		{"what houses lock", "ask 0.1 get 0;", "doubt 0 1.1", "", ""},
		{"what houses promise", "ask 0.1 get 0; | locked 0 1.1", "doubt 0 1.1", "", ""},
		{"what waits", "ask 0.1 get 0; | ask 1.1 get 0; | ask 2.1 get 0;", "doubt 0 3.1", "", ""},
		{"an elder try of what is under way", "ask 0.1 get 0; | taken 0 1.1 | taken 0 1.2", "doubt 0 1.1", "", "end 0 1.1"},
		{"the try just ahead of what is under way", "ask 0.1 get 0; | taken 0 1.1 | taken 0 1.2", "doubt 1 1.2", "", "end 1 1.2"},
		{"this try of what is under way", "ask 0.1 get 0; | taken 0 1.1 | taken 0 1.2", "doubt 0 1.3", "", ""},
		{"a later try of what is under way", "ask 0.1 get 0; | taken 0 1.1 | taken 0 1.2", "doubt 0 1.4", "", ""},
		{"what was dropped", "ask 0.1 get 0; | ask 0.2 get 0;", "doubt 0 1.1", "", "end 0 1.1"},
		{"what was forgotten", "ask 0.1 get 0; | locked 0 1.1 | fall | rise", "doubt 0 1.1", "", "end 0 1.1"},
		{"what is none yet", "", "doubt 1 1.1", "", "end 1 1.1"},
		{"the greatest that can be", "", "doubt 1 9999.9999", "", "end 1 9999.9999"},
		{"no stamp", "ask 0.1 get 0;", "doubt 0 0.1", "", ""},
		{"no try", "ask 0.1 get 0;", "doubt 0 1.0", "", ""},
		{"no try, of what was done", "ask 0.1 get 0; | locked 0 1.1 | promised 0 1.1 yes", "doubt 0 1.0", "", ""},
		{"no try, of what is none", "ask 0.1 get 0;", "doubt 0 7.0", "", ""},
		{"neither stamp nor try", "", "doubt 0 0.0", "", ""},
	})
}
