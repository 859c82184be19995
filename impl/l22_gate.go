package impl

// Limits of the gate.
const (
	GateWays    = 2
	GateMaxLife = 99
)

// Record is what the gate writes down: a call, what came of it, and what is written by it.
type Record struct {
	Stamp int
	Try   int
	Call  Call
	Code  int
	Vals  []int
	Pairs []Pair
}

// Told is what a house told of its values with its promise.
type Told struct {
	House int
	Pairs []Pair
}

// Live is a call that is under way: 0 it waits for ways, 1 houses lock, 2 houses promise.
type Live struct {
	Stamp   int
	Try     int
	Version int
	Phase   int
	Call    Call
	Locked  []int
	Told    []Told
}

// Way is a way to a house that a call has.
type Way struct {
	House int
	Stamp int
}

// Gate keeps its Log, Next (the next stamp) and Life; all else it forgets.
type Gate struct {
	Up    bool
	Life  int
	Next  int
	Log   []Record
	Lives []Live
	Ways  []Way
}

// GateStart is the gate at first.
func GateStart() Gate {
	return Gate{}
}

// GateOk says whether a gate is ok.
func GateOk(g Gate) bool {
	return false
}

// GateCalls is the calls that were written down, in order.
func GateCalls(g Gate) []Call {
	return nil
}

// GateMap is the map by what was written down.
func GateMap(g Gate) Map {
	return Map{}
}

// GateFall is a gate that falls.
func GateFall(g Gate) Gate {
	return Gate{}
}

// GateRise is a gate that rises, in its next life.
func GateRise(g Gate) Gate {
	return Gate{}
}

// GateHear is what the gate does with a word.
func GateHear(g Gate, w Word) (Gate, []Word) {
	return Gate{}, nil
}

// GateTend is what the gate says again from time to time.
func GateTend(g Gate) []Word {
	return nil
}
