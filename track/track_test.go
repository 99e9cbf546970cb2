package track_test

import (
	"math"
	"math/rand"
	"slices"
	"testing"

	"porter/api"
	"porter/track"
)

// states are all that the chapter names, and letters what tables call them.
var states = []int{track.StNew, track.StBoth, track.StUp, track.StEndOrig, track.StEndBack, track.StEnds, track.StReset}

const letters = "NBUOKEX"

// flows are all that the chapter names.
var flows = []int{track.FlUDP, track.FlQuery, track.FlTCP}

// others are numbers that are far from those of flows and states.
var others = []int{
	-256, 255, 256, 257, 258, 259, 65536, 65537, 65539,
	1 << 32, 1<<32 + 1, 1<<32 + 3, -1<<32 + 1, 1<<62 + 1,
	math.MaxInt32, math.MinInt32, math.MaxInt, math.MinInt, math.MinInt + 1, math.MinInt + 3,
}

// numbers are those of flows and states, those beside them, and all others.
func numbers() (l []int) {
	for n := -20; n <= 20; n++ {
		l = append(l, n)
	}
	l = append(l, others...)
	slices.Sort(l)
	return slices.Compact(l)
}

// ticks tells how long states last, written as the chapter's table is.
func ticks(flow, st int) int {
	table := map[int][]int{
		1: {120, 300},
		2: {60, 60},
		3: {240, 240, 7440, 240, 240, 240, 240},
	}
	if st < 1 || st > len(table[flow]) {
		return 0
	}
	return table[flow][st-1]
}

// behind tells by letters what each state of TCP is behind a packet without
// RST: one of those who began, then one of the other ones, each with no flag,
// F, S, SF, A, AF, AS and ASF.
var behind = map[byte][2]string{
	'N': {"NONONONO", "NKBKNKBK"},
	'B': {"BOBOUOBO", "BKBKBKBK"},
	'U': {"UOUOUOUO", "UKUKUKUK"},
	'O': {"OOOOOOOO", "OEOEOEOE"},
	'K': {"KEKEKEKE", "KKKKKKKK"},
	'E': {"EEEEEEEE", "EEEEEEEE"},
	'X': {"XXXXXXXX", "XXXXXXXX"},
}

// side is the place of one who sends; of what is so or not: 1, or 0.
func side(back bool) int {
	if back {
		return 1
	}
	return 0
}

// slowNext reads the table.
func slowNext(flow, st int, back bool, flags uint8) int {
	if ticks(flow, st) == 0 {
		return 0
	}
	if flow != 3 {
		return max(st, 1+side(back))
	}
	if flags/4%2 == 1 {
		return 7
	}
	letter := behind[letters[st-1]][side(back)][flags/16%2*4+flags%4]
	for i := range letters {
		if letters[i] == letter {
			return i + 1
		}
	}
	return -1
}

// slowFirst tells whether a flow begins so: of TCP FIN, RST and ACK are looked
// for one by one.
func slowFirst(flow int, flags uint8) bool {
	if flow != 3 {
		return flow == 1 || flow == 2
	}
	return flags%2 == 0 && flags/2%2 == 1 && flags/4%2 == 0 && flags/16%2 == 0
}

// slowRun goes through steps one by one, the first one, too.
func slowRun(flow int, l []track.Step) (st int, ok bool) {
	for i, x := range l {
		if i > 0 {
			st = slowNext(flow, st, x.Back, x.Flags)
			continue
		}
		if x.Back || !slowFirst(flow, x.Flags) {
			return 0, false
		}
		st, ok = 1, true
	}
	return st, ok
}

// slowEarly tells which states make room.
func slowEarly(flow, st int) bool {
	switch flow {
	case 1, 2:
		return st == 1
	case 3:
		return st >= 1 && st <= 7 && st != 3
	}
	return false
}

// steps are all that may differ, of both sides: each of 16 sets of flags, and
// none, or all, of the flags that make no difference.
func steps() (l []track.Step) {
	for _, back := range []bool{false, true} {
		for n := range 16 {
			flags := uint8(n%8 + n/8*16)
			if n%3 == 1 {
				flags |= 0xe8
			}
			l = append(l, track.Step{Back: back, Flags: flags})
		}
	}
	return l
}

// checkRun holds what Run tells against the slow one.
func checkRun(t *testing.T, flow int, l ...track.Step) (st int, ok bool) {
	t.Helper()
	st, ok = track.Run(flow, l...)
	want, wantOK := slowRun(flow, l)
	if st != want || ok != wantOK {
		t.Fatalf("Run(%d, %v) is %d, %v, not %d, %v", flow, l, st, ok, want, wantOK)
	}
	return st, ok
}

func TestTheNumbersThatHaveNames(t *testing.T) {
	if !slices.Equal(flows, []int{1, 2, 3}) {
		t.Error(flows)
	}
	if !slices.Equal(states, []int{1, 2, 3, 4, 5, 6, 7}) {
		t.Error(states)
	}
	flags := []int{track.FlagFin, track.FlagSyn, track.FlagRst, track.FlagAck}
	if !slices.Equal(flags, []int{1, 2, 4, 16}) {
		t.Error(flags)
	}
}

// P17.1
func TestFlowOfAllProtocols(t *testing.T) {
	for n := range 256 {
		want := 0
		switch n {
		case 1:
			want = 2
		case 6:
			want = 3
		case 17:
			want = 1
		}
		if got := track.Flow(uint8(n)); got != want {
			t.Errorf("Flow(%d) is %d, not %d", n, got, want)
		}
	}
	if track.Flow(api.PrICMP) != track.FlQuery || track.Flow(api.PrTCP) != track.FlTCP || track.Flow(api.PrUDP) != track.FlUDP {
		t.Error("not the flows of api's protocols")
	}
}

// P17.1
func TestHowLongStatesLast(t *testing.T) {
	there := 0
	for _, flow := range numbers() {
		for _, st := range numbers() {
			want := ticks(flow, st)
			if got := track.Timeout(flow, st); got != want {
				t.Errorf("Timeout(%d, %d) is %d, not %d", flow, st, got, want)
			}
			if got := track.May(flow, st); got != (want > 0) {
				t.Errorf("May(%d, %d) is %v", flow, st, got)
			}
			there += side(want > 0)
		}
	}
	if there != 11 {
		t.Error(there, "states are there, not 11")
	}
}

// P17.1
func TestHowLongStatesLastByTheirNames(t *testing.T) {
	for _, x := range []struct{ flow, st, want int }{
		{track.FlUDP, track.StNew, 120}, {track.FlUDP, track.StBoth, 300}, {track.FlUDP, track.StUp, 0},
		{track.FlUDP, track.StEndOrig, 0}, {track.FlUDP, track.StEndBack, 0}, {track.FlUDP, track.StEnds, 0}, {track.FlUDP, track.StReset, 0},
		{track.FlQuery, track.StNew, 60}, {track.FlQuery, track.StBoth, 60}, {track.FlQuery, track.StUp, 0},
		{track.FlQuery, track.StEndOrig, 0}, {track.FlQuery, track.StEndBack, 0}, {track.FlQuery, track.StEnds, 0}, {track.FlQuery, track.StReset, 0},
		{track.FlTCP, track.StNew, 240}, {track.FlTCP, track.StBoth, 240}, {track.FlTCP, track.StUp, 7440},
		{track.FlTCP, track.StEndOrig, 240}, {track.FlTCP, track.StEndBack, 240}, {track.FlTCP, track.StEnds, 240}, {track.FlTCP, track.StReset, 240},
	} {
		if got := track.Timeout(x.flow, x.st); got != x.want {
			t.Errorf("Timeout(%d, %d) is %d, not %d", x.flow, x.st, got, x.want)
		}
	}
}

// P17.2
func TestFirstOfAllFlags(t *testing.T) {
	for _, flow := range numbers() {
		for n := range 256 {
			st, ok := track.First(flow, uint8(n))
			want := slowFirst(flow, uint8(n))
			if ok != want || st != side(want) {
				t.Errorf("First(%d, %d) is %d, %v, not %v", flow, n, st, ok, want)
			}
		}
	}
}

// P17.2
func TestFirstOfTCPNeedsSynAlone(t *testing.T) {
	for _, x := range []struct {
		flags uint8
		want  bool
	}{
		{2, true}, {2 + 8, true}, {2 + 32, true}, {2 + 64 + 128, true}, {2 + 8 + 32 + 64 + 128, true},
		{0, false}, {1, false}, {3, false}, {4, false}, {6, false}, {16, false}, {18, false}, {17, false}, {23, false}, {255, false}, {8 + 32, false},
	} {
		if st, ok := track.First(track.FlTCP, x.flags); ok != x.want || st != side(x.want) {
			t.Errorf("First of TCP with %d is %d, %v", x.flags, st, ok)
		}
	}
}

// P17.2
func TestNextOfAllStatesAndFlags(t *testing.T) {
	for _, flow := range numbers() {
		for _, st := range numbers() {
			for n := range 512 {
				back, flags := n > 255, uint8(n%256)
				want := slowNext(flow, st, back, flags)
				if got := track.Next(flow, st, back, flags); got != want {
					t.Fatalf("Next(%d, %d, %v, %d) is %d, not %d", flow, st, back, flags, got, want)
				}
			}
		}
	}
}

// P17.2: cases of each line of what is behind a packet of TCP, by their names.
func TestNextOfTCPByNames(t *testing.T) {
	const fin, syn, rst, ack = track.FlagFin, track.FlagSyn, track.FlagRst, track.FlagAck
	for _, x := range []struct {
		st    int
		back  bool
		flags uint8
		want  int
	}{
		{track.StNew, false, rst, track.StReset},
		{track.StUp, true, rst | ack, track.StReset},
		{track.StUp, true, rst | fin, track.StReset},
		{track.StEnds, false, rst, track.StReset},
		{track.StReset, false, rst, track.StReset},
		{track.StReset, false, syn, track.StReset},
		{track.StReset, true, fin | ack, track.StReset},
		{track.StReset, false, fin, track.StReset},
		{track.StEndBack, false, fin, track.StEnds},
		{track.StEndBack, true, fin, track.StEndBack},
		{track.StEndOrig, true, fin | ack, track.StEnds},
		{track.StEndOrig, false, fin | ack, track.StEndOrig},
		{track.StEnds, false, fin, track.StEnds},
		{track.StEnds, true, fin, track.StEnds},
		{track.StNew, false, fin, track.StEndOrig},
		{track.StNew, true, fin | syn | ack, track.StEndBack},
		{track.StBoth, false, fin | ack, track.StEndOrig},
		{track.StBoth, true, fin | ack, track.StEndBack},
		{track.StUp, false, fin | ack, track.StEndOrig},
		{track.StUp, true, fin | ack, track.StEndBack},
		{track.StNew, true, syn | ack, track.StBoth},
		{track.StNew, true, syn, track.StBoth},
		{track.StNew, true, ack, track.StNew},
		{track.StNew, false, syn, track.StNew},
		{track.StNew, false, ack, track.StNew},
		{track.StBoth, false, ack, track.StUp},
		{track.StBoth, false, ack | 8, track.StUp},
		{track.StBoth, false, syn | ack, track.StBoth},
		{track.StBoth, false, syn, track.StBoth},
		{track.StBoth, false, 0, track.StBoth},
		{track.StBoth, true, ack, track.StBoth},
		{track.StUp, false, syn, track.StUp},
		{track.StEndOrig, false, ack, track.StEndOrig},
		{track.StEndOrig, true, ack, track.StEndOrig},
		{track.StEnds, true, syn | ack, track.StEnds},
		{track.StEnds, false, syn, track.StEnds},
	} {
		if got := track.Next(track.FlTCP, x.st, x.back, x.flags); got != x.want {
			t.Errorf("Next of TCP, %d, %v, %d is %d, not %d", x.st, x.back, x.flags, got, x.want)
		}
	}
}

// P17.3
func TestEarlyOfAllStates(t *testing.T) {
	for _, flow := range numbers() {
		for _, st := range numbers() {
			if got := track.Early(flow, st); got != slowEarly(flow, st) {
				t.Errorf("Early(%d, %d) is %v", flow, st, got)
			}
		}
	}
}

// P17.2
func TestRunOfNoSteps(t *testing.T) {
	for _, flow := range numbers() {
		checkRun(t, flow)
		checkRun(t, flow, []track.Step{}...)
	}
}

// P17.2, and P17.4: the other one does not begin.
func TestRunOfOneStep(t *testing.T) {
	for _, flow := range numbers() {
		for n := range 512 {
			x := track.Step{Back: n > 255, Flags: uint8(n % 256)}
			st, ok := checkRun(t, flow, x)
			if ok != (st > 0) || ok && x.Back {
				t.Fatalf("Run(%d, %v) is %d, %v", flow, x, st, ok)
			}
		}
	}
}

// P17.2
func TestRunOfUpToThreeSteps(t *testing.T) {
	all := steps()
	for _, flow := range []int{-1, 0, 1, 2, 3, 4} {
		for _, a := range all {
			for _, b := range all {
				checkRun(t, flow, a, b)
				for _, c := range all {
					checkRun(t, flow, a, b, c)
				}
			}
		}
	}
}

// P17.2: what Run tells is what First and Next tell one after the other.
func TestRunOfManySteps(t *testing.T) {
	r := rand.New(rand.NewSource(17))
	came := map[[2]int]int{}
	for range 20000 {
		flow := 1 + r.Intn(3)
		l := make([]track.Step, 1+r.Intn(12))
		for i := range l {
			l[i] = track.Step{Back: r.Intn(2) == 0, Flags: uint8(r.Intn(256))}
			if r.Intn(4) > 0 {
				l[i].Flags &^= track.FlagRst | track.FlagFin
			}
		}
		if r.Intn(8) > 0 {
			l[0] = track.Step{Flags: track.FlagSyn}
		}
		st, ok := checkRun(t, flow, l...)
		came[[2]int{flow, st}]++
		by, byOK := track.First(flow, l[0].Flags)
		for _, x := range l[1:] {
			by = track.Next(flow, by, x.Back, x.Flags)
		}
		if ok != (byOK && !l[0].Back) || ok && st != by {
			t.Fatal(flow, l, st, ok, by)
		}
	}
	for _, flow := range flows {
		for _, st := range states {
			if (came[[2]int{flow, st}] > 0) != (ticks(flow, st) > 0) {
				t.Errorf("%d runs of %d came to %d", came[[2]int{flow, st}], flow, st)
			}
		}
	}
}

// R1
func TestRunOfVeryManySteps(t *testing.T) {
	l := slices.Repeat(steps(), 1<<15)
	for _, flow := range flows {
		l[0] = track.Step{Flags: track.FlagSyn}
		checkRun(t, flow, l...)
	}
	for i := range l {
		l[i] = track.Step{Flags: track.FlagSyn}
	}
	l[len(l)-2] = track.Step{Back: true, Flags: track.FlagSyn | track.FlagAck}
	l[len(l)-1] = track.Step{Flags: track.FlagAck}
	if st, ok := track.Run(track.FlTCP, l...); st != track.StUp || !ok {
		t.Error(st, ok)
	}
}

// R4: what is handed in stays as it was, and R2: it tells the same again.
func TestRunLeavesItsStepsAlone(t *testing.T) {
	l := slices.Repeat(steps(), 2)
	l[0] = track.Step{Flags: track.FlagSyn}
	l = l[:40]
	was := slices.Clone(l[:cap(l)])
	for _, flow := range numbers() {
		st, ok := checkRun(t, flow, l...)
		again, okAgain := checkRun(t, flow, l...)
		if st != again || ok != okAgain || !slices.Equal(l[:cap(l)], was) {
			t.Fatal(flow, st, ok, again, okAgain)
		}
	}
}

// P17.4: a state leads to one that there is.
func TestAStateLeadsToOneThatThereIs(t *testing.T) {
	for _, flow := range flows {
		for _, st := range states {
			for n := range 512 {
				next := track.Next(flow, st, n > 255, uint8(n))
				if track.May(flow, next) != track.May(flow, st) || !track.May(flow, st) && next != 0 {
					t.Fatal(flow, st, n, next)
				}
			}
		}
	}
}

// reach is all states that some packets lead to.
func reach(flow, from int) map[int]bool {
	seen := map[int]bool{from: true}
	for work := []int{from}; len(work) > 0; work = work[1:] {
		for n := range 512 {
			next := track.Next(flow, work[0], n > 255, uint8(n))
			if !seen[next] {
				seen[next] = true
				work = append(work, next)
			}
		}
	}
	return seen
}

// P17.4: which states are behind which, by any packets.
func TestWhichStatesAreBehindWhich(t *testing.T) {
	for _, x := range []struct {
		flow, from int
		want       []int
	}{
		{track.FlUDP, track.StNew, []int{track.StNew, track.StBoth}},
		{track.FlUDP, track.StBoth, []int{track.StBoth}},
		{track.FlQuery, track.StNew, []int{track.StNew, track.StBoth}},
		{track.FlQuery, track.StBoth, []int{track.StBoth}},
		{track.FlTCP, track.StNew, states},
		{track.FlTCP, track.StBoth, states[1:]},
		{track.FlTCP, track.StUp, states[2:]},
		{track.FlTCP, track.StEndOrig, []int{track.StEndOrig, track.StEnds, track.StReset}},
		{track.FlTCP, track.StEndBack, []int{track.StEndBack, track.StEnds, track.StReset}},
		{track.FlTCP, track.StEnds, []int{track.StEnds, track.StReset}},
		{track.FlTCP, track.StReset, []int{track.StReset}},
	} {
		seen := reach(x.flow, x.from)
		if len(seen) != len(x.want) {
			t.Errorf("flow %d, behind %d: %v, not %v", x.flow, x.from, seen, x.want)
		}
		for _, st := range x.want {
			if !seen[st] {
				t.Errorf("flow %d: %d is not behind %d", x.flow, st, x.from)
			}
		}
	}
}

// stands tells whether a SYN, one back and an ACK are among steps, in that
// order, and nothing between that ends the flow.
func stands(l []track.Step) bool {
	want := 0
	for _, x := range l {
		if x.Flags&(track.FlagFin|track.FlagRst) != 0 {
			return false
		}
		syn, ack := x.Flags&track.FlagSyn != 0, x.Flags&track.FlagAck != 0
		switch {
		case want == 0 && !x.Back && syn && !ack, want == 1 && x.Back && syn, want == 2 && !x.Back && ack && !syn:
			want++
		}
	}
	return want == 3
}

// P17.4: TCP stands only behind a SYN, one back, and an ACK; and behind these
// it does.
func TestWhenTCPStands(t *testing.T) {
	all, up := steps(), [5]int{}
	many := len(all)
	for n := range many * many * many * many {
		l := []track.Step{all[n%many], all[n/many%many], all[n/many/many%many], all[n/many/many/many]}
		for most := 1; most <= len(l); most++ {
			st, ok := track.Run(track.FlTCP, l[:most]...)
			if (st == track.StUp) != (ok && stands(l[:most])) {
				t.Fatal(l[:most], st, ok)
			}
			up[most] += side(st == track.StUp)
		}
	}
	// Of three steps two runs stand, each of which was seen with any fourth
	// one; of four: these with 8 steps behind, with 6 behind the first SYN, and
	// with 7 ahead of the ACK.
	if up != [5]int{3: 2 * many, 4: 2*8 + 2*6 + 2*7} {
		t.Error(up)
	}
}

func TestTheExamplesOfTheDocument(t *testing.T) {
	l := []track.Step{{Flags: track.FlagSyn}, {Back: true, Flags: track.FlagSyn | track.FlagAck}, {Flags: track.FlagAck}}
	if st, ok := track.Run(track.FlTCP, l...); st != track.StUp || !ok {
		t.Error("SYN; back SYN, ACK; ACK:", st, ok)
	}
	l = append(l, track.Step{Flags: track.FlagFin | track.FlagAck}, track.Step{Back: true, Flags: track.FlagFin | track.FlagAck})
	if st, ok := track.Run(track.FlTCP, l...); st != track.StEnds || !ok {
		t.Error("then FIN, ACK; back FIN, ACK:", st, ok)
	}
	if st, ok := track.Run(track.FlTCP, track.Step{Flags: track.FlagAck}); st != 0 || ok {
		t.Error("of TCP: ACK:", st, ok)
	}
	if st, ok := track.Run(track.FlUDP, track.Step{Back: true}); st != 0 || ok {
		t.Error("of UDP: back:", st, ok)
	}
	if up, none := track.Timeout(track.FlTCP, track.StUp), track.Timeout(track.FlUDP, track.StUp); up != 7440 || none != 0 {
		t.Error("Timeout:", up, none)
	}
	if both, begun := track.Early(track.FlUDP, track.StBoth), track.Early(track.FlTCP, track.StNew); both || !begun {
		t.Error("Early:", both, begun)
	}
}
