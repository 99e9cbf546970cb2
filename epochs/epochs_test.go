package epochs_test

import (
	"math"
	"math/rand"
	"slices"
	"testing"

	"porter/api"
	"porter/epochs"
)

// call is one that changes epochs: Enter or Leave of a worker, Defer of a slot, Advance or Ripe.
type call struct {
	what string
	n    int
}

// answer is that of a call.
type answer struct {
	e  api.Errno
	ok bool
	l  string // slots, one rune each
}

// model is what epochs are held against: it keeps neither an epoch nor what
// waits, but all calls that did something, and goes through them.
type model struct {
	n   int
	log []call
}

// advances is how often the epoch went on in a part of the log.
func advances(log []call) int {
	n := 0
	for _, c := range log {
		if c.what == "Advance" {
			n++
		}
	}
	return n
}

// now is the epoch.
func (m *model) now() int { return advances(m.log) }

// seen is what a worker announced, by what it did last.
func (m *model) seen(w int) int {
	for at := len(m.log) - 1; at >= 0; at-- {
		switch m.log[at] {
		case call{"Enter", w}:
			return advances(m.log[:at])
		case call{"Leave", w}:
			return -1
		}
	}
	return -1
}

// told is whether a slot that was deferred at a place of the log was told since.
func (m *model) told(at int) bool {
	for later := at; later < len(m.log); later++ {
		if m.log[later].what == "Ripe" && advances(m.log[at:later]) >= 2 {
			return true
		}
	}
	return false
}

// waits is the slots that wait, and how many epochs they have waited.
func (m *model) waits() (slots, ages []int) {
	for at, c := range m.log {
		if c.what == "Defer" && !m.told(at) {
			slots = append(slots, c.n)
			ages = append(ages, advances(m.log[at:]))
		}
	}
	return slots, ages
}

// held is whether a worker holds the epoch up.
func (m *model) held() bool {
	for w := range m.n {
		if at := m.seen(w); at != -1 && at != m.now() {
			return true
		}
	}
	return false
}

// refuse is why a call does nothing.
func (m *model) refuse(c call) (answer, bool) {
	slots, _ := m.waits()
	switch c.what {
	case "Enter", "Leave":
		if c.n < 0 || c.n >= m.n {
			return answer{e: api.ErrArg}, true
		}
	case "Defer":
		if c.n < 0 || c.n > 255 {
			return answer{e: api.ErrArg}, true
		}
		if slices.Contains(slots, c.n) {
			return answer{e: api.ErrHave}, true
		}
	case "Advance":
		if m.held() {
			return answer{}, true
		}
	}
	return answer{}, false
}

// do is a call, slowly.
func (m *model) do(c call) answer {
	if a, no := m.refuse(c); no {
		return a
	}
	var a answer
	switch c.what {
	case "Advance":
		a.ok = true
	case "Ripe":
		slots, ages := m.waits()
		for at, slot := range slots {
			if ages[at] >= 2 {
				a.l += string(rune(slot))
			}
		}
	}
	m.log = append(m.log, c)
	return a
}

// text is a list of slots, one rune each.
func text(l []int) string {
	s := ""
	for _, slot := range l {
		s += string(rune(slot))
	}
	return s
}

// ask is a call of epochs.
func ask(x *epochs.Epochs, c call) answer {
	switch c.what {
	case "Enter":
		return answer{e: x.Enter(c.n)}
	case "Leave":
		return answer{e: x.Leave(c.n)}
	case "Defer":
		return answer{e: x.Defer(c.n)}
	case "Advance":
		return answer{ok: x.Advance()}
	}
	return answer{l: text(x.Ripe())}
}

// do calls both, and holds them against each other.
func (c call) do(t *testing.T, x *epochs.Epochs, m *model) answer {
	t.Helper()
	a := ask(x, c)
	if want := m.do(c); a != want {
		t.Fatalf("of %v: %v is %v, not %v", m, c, a, want)
	}
	return a
}

// hold asks of epochs all that can be asked, and holds it against the slow ones.
func (m *model) hold(t *testing.T, x *epochs.Epochs) {
	t.Helper()
	slots, _ := m.waits()
	if x.Now() != m.now() || x.Waiting() != len(slots) {
		t.Fatalf("of %v: Now %d, Waiting %d, not %d, %d", m, x.Now(), x.Waiting(), m.now(), len(slots))
	}
	for w := -1; w <= m.n; w++ {
		want := m.seen(w)
		if x.Seen(w) != want || x.In(w) != (want != -1) {
			t.Fatalf("of %v: Seen(%d) is %d, In %v, not %d", m, w, x.Seen(w), x.In(w), want)
		}
	}
}

// made is epochs, and what they are held against.
func made(t *testing.T, n int) (*epochs.Epochs, *model) {
	t.Helper()
	x, e := epochs.New(n)
	if x == nil || e != api.OK {
		t.Fatalf("New(%d): %v, %d", n, x, e)
	}
	return x, &model{n: n}
}

// run does calls, each of which is as the slow one's.
func run(t *testing.T, x *epochs.Epochs, m *model, l ...call) {
	t.Helper()
	for _, c := range l {
		c.do(t, x, m)
	}
	m.hold(t, x)
}

// on lets the epoch go on so often, which nobody holds up.
func on(t *testing.T, x *epochs.Epochs, n int) {
	t.Helper()
	for range n {
		if was := x.Now(); !x.Advance() || x.Now() != was+1 {
			t.Fatalf("Advance at %d: now %d", was, x.Now())
		}
	}
}

// ripe is what Ripe is to tell.
func ripe(t *testing.T, x *epochs.Epochs, want ...int) {
	t.Helper()
	if l := x.Ripe(); !slices.Equal(l, want) {
		t.Fatalf("at %d: Ripe is %v, not %v", x.Now(), l, want)
	}
}

// beside is numbers that are not from 0 to n - 1.
func beside(n int) []int {
	l := []int{-1, -2, -n, -n - 1, n, n + 1, 2 * n, -63, -64, -65, -255, -256, -257, 65, 256, 257, 65536, math.MinInt, math.MinInt + 1, math.MaxInt32, math.MaxInt - 1, math.MaxInt}
	for bits := 6; bits < 63; bits++ {
		l = append(l, 1<<bits, 1<<bits+n-1, -1<<bits, -1<<bits+n-1)
	}
	return slices.DeleteFunc(l, func(one int) bool { return one >= 0 && one < n })
}

func TestTheExamplesOfTheDocument(t *testing.T) {
	x, _ := made(t, 2)
	if a, b, c, d := x.Enter(0), x.Defer(7), x.Advance(), x.Advance(); a != api.OK || b != api.OK || !c || d {
		t.Error(a, b, c, d)
	}
	ripe(t, x)
	if a, b := x.Leave(0), x.Advance(); a != api.OK || !b {
		t.Error(a, b)
	}
	ripe(t, x, 7)
	if x.Now() != 2 || x.Waiting() != 0 {
		t.Error(x.Now(), x.Waiting())
	}
}

// P14.1

func TestNewOfEachNumber(t *testing.T) {
	numbers := append(beside(64), beside(1)...)
	for n := -300; n <= 300; n++ {
		numbers = append(numbers, n)
	}
	for _, n := range numbers {
		x, e := epochs.New(n)
		if n < 1 || n > 64 {
			if x != nil || e != api.ErrArg {
				t.Errorf("New(%d): %v, %d", n, x, e)
			}
		} else if x == nil || e != api.OK {
			t.Errorf("New(%d): %v, %d", n, x, e)
		}
	}
}

func TestAllAreOutAtFirst(t *testing.T) {
	for n := 1; n <= api.MaxWorkers; n++ {
		x, m := made(t, n)
		m.hold(t, x)
		if x.Now() != 0 || x.Waiting() != 0 {
			t.Fatalf("of %d: %d, %d", n, x.Now(), x.Waiting())
		}
		for w := range n {
			if x.In(w) || x.Seen(w) != -1 {
				t.Fatalf("of %d: %d is in", n, w)
			}
		}
		ripe(t, x)
		if !x.Advance() || x.Now() != 1 {
			t.Fatalf("of %d: %d", n, x.Now())
		}
	}
}

// The epoch has more than 16 bits, and nothing but Advance lets it go on.
func TestNowGoesOn(t *testing.T) {
	x, _ := made(t, 3)
	for now := range 100000 {
		w := now % 3
		if x.Now() != now || x.Enter(w) != api.OK || x.Seen(w) != now || x.Now() != now {
			t.Fatal(now, x.Now(), x.Seen(w))
		}
		if x.Defer(now%256) != api.OK || x.Now() != now {
			t.Fatal(now, x.Now())
		}
		on(t, x, 1)
		if x.Advance() || x.Leave(w) != api.OK || x.Now() != now+1 {
			t.Fatal(now, x.Now())
		}
		if l := x.Ripe(); now > 0 && !slices.Equal(l, []int{(now - 1) % 256}) || x.Now() != now+1 {
			t.Fatal(now, x.Now(), l)
		}
	}
}

// P14.2

func TestEnterAndLeaveOfEachWorker(t *testing.T) {
	for n := 1; n <= api.MaxWorkers; n++ {
		x, m := made(t, n)
		for w := range n {
			run(t, x, m, call{"Leave", w}, call{"Enter", w})
			if !x.In(w) || x.Seen(w) != 0 {
				t.Fatalf("of %d: %d is out", n, w)
			}
		}
		run(t, x, m, call{what: "Advance"})
		for w := n - 1; w >= 0; w-- {
			run(t, x, m, call{"Enter", w})
			if !x.In(w) || x.Seen(w) != 1 {
				t.Fatalf("of %d: Seen(%d) is %d", n, w, x.Seen(w))
			}
		}
		run(t, x, m, call{what: "Advance"})
		for w := range n {
			run(t, x, m, call{"Leave", w})
			if x.In(w) || x.Seen(w) != -1 {
				t.Fatalf("of %d: %d is in", n, w)
			}
			run(t, x, m, call{"Leave", w})
		}
	}
}

// Each of few workers is out, in since now, or in since the epoch ahead.
func TestWorkersStandByThemselves(t *testing.T) {
	const n = 5
	for which := range 3 * 3 * 3 * 3 * 3 {
		x, m := made(t, n)
		hows := make([]int, n)
		for w, rest := 0, which; w < n; w, rest = w+1, rest/3 {
			hows[w] = rest % 3
			run(t, x, m, call{"Enter", w})
		}
		run(t, x, m, call{what: "Advance"})
		for w, how := range hows {
			switch how {
			case 0:
				run(t, x, m, call{"Leave", w})
			case 1:
				run(t, x, m, call{"Enter", w})
			}
		}
		for w, how := range hows {
			if want := []int{-1, 1, 0}[how]; x.Seen(w) != want || x.In(w) != (how != 0) {
				t.Fatalf("of %v: Seen(%d) is %d", hows, w, x.Seen(w))
			}
		}
		run(t, x, m, call{what: "Advance"})
		if held := slices.Contains(hows, 2); x.Now() == 2 == held {
			t.Fatalf("of %v: Now is %d", hows, x.Now())
		}
	}
}

// R5 too: what is refused changes nothing.
func TestWorkersThatAreNotThere(t *testing.T) {
	for n := 1; n <= api.MaxWorkers; n++ {
		for _, in := range []bool{false, true} {
			x, m := made(t, n)
			for w := range n {
				if in {
					run(t, x, m, call{"Enter", w})
				}
			}
			for _, w := range beside(n) {
				if a, b, c, d := x.Enter(w), x.Leave(w), x.In(w), x.Seen(w); a != api.ErrArg || b != api.ErrArg || c || d != -1 {
					t.Fatalf("of %d: %d: %d, %d, %v, %d", n, w, a, b, c, d)
				}
			}
			m.hold(t, x)
		}
	}
}

// Whoever was in announces Now again, and stays in.
func TestEnterAgain(t *testing.T) {
	x, m := made(t, 2)
	for now := range 50 {
		run(t, x, m, call{"Enter", 1}, call{"Enter", 1})
		if !x.In(1) || x.Seen(1) != now {
			t.Fatalf("at %d: %d", now, x.Seen(1))
		}
		run(t, x, m, call{what: "Advance"})
		if !x.In(1) || x.Seen(1) != now || x.Now() != now+1 {
			t.Fatalf("at %d: %d", x.Now(), x.Seen(1))
		}
	}
}

// P14.3

// One worker alone holds the epoch up, whichever it is, and whoever else is in.
func TestEachWorkerHoldsTheEpochUp(t *testing.T) {
	for _, n := range []int{1, 2, 3, 8, 63, 64} {
		for late := range n {
			for _, others := range []bool{false, true} {
				x, m := made(t, n)
				run(t, x, m, call{what: "Advance"}, call{"Enter", late}, call{what: "Advance"})
				for w := range n {
					if others && w != late {
						run(t, x, m, call{"Enter", w})
					}
				}
				run(t, x, m, call{"Defer", 3})
				for range 3 {
					if x.Advance() || x.Now() != 2 || x.Seen(late) != 1 || !x.In(late) || x.Waiting() != 1 {
						t.Fatalf("of %d: %d does not hold it up: %d", n, late, x.Now())
					}
				}
				m.hold(t, x)
				end := call{"Enter", late}
				if late%2 == 0 {
					end.what = "Leave"
				}
				run(t, x, m, end)
				on(t, x, 1)
			}
		}
	}
}

func TestWhoIsOutHoldsNothingUp(t *testing.T) {
	for _, n := range []int{1, 2, 64} {
		x, m := made(t, n)
		for w := range n {
			run(t, x, m, call{"Enter", w}, call{"Leave", w})
		}
		on(t, x, 100)
		for w := range n {
			if x.In(w) || x.Seen(w) != -1 {
				t.Fatalf("of %d: %d is in", n, w)
			}
		}
	}
}

// Who has announced Now lets the epoch go on once.
func TestWhoIsInLetsItGoOnOnce(t *testing.T) {
	x, m := made(t, 64)
	for round := range 10 {
		for w := range 64 {
			run(t, x, m, call{"Enter", w})
		}
		on(t, x, 1)
		for range 3 {
			if x.Advance() || x.Now() != round+1 {
				t.Fatal(round, x.Now())
			}
		}
		m.do(call{what: "Advance"})
		m.hold(t, x)
	}
}

// P14.4

func TestDeferOfEachSlot(t *testing.T) {
	for slot := range api.MaxSlots {
		x, m := made(t, 1)
		run(t, x, m, call{"Defer", slot})
		if x.Waiting() != 1 {
			t.Fatalf("of %d: %d", slot, x.Waiting())
		}
		for other := range api.MaxSlots {
			want := api.OK
			if other == slot {
				want = api.ErrHave
			}
			if e := x.Defer(other); e != want {
				t.Fatalf("%d waits: Defer(%d) is %d", slot, other, e)
			}
		}
		if x.Waiting() != api.MaxSlots {
			t.Fatal(x.Waiting())
		}
	}
}

// R5 too: what is refused changes nothing.
func TestDeferOfNoSlot(t *testing.T) {
	x, m := made(t, 2)
	refused := func() {
		t.Helper()
		for _, slot := range beside(api.MaxSlots) {
			if e := x.Defer(slot); e != api.ErrArg {
				t.Fatalf("Defer(%d) is %d", slot, e)
			}
		}
		m.hold(t, x)
	}
	refused()
	for slot := range api.MaxSlots {
		run(t, x, m, call{"Defer", slot})
	}
	refused()
	run(t, x, m, call{what: "Advance"}, call{what: "Advance"})
	refused()
	if l := x.Ripe(); len(l) != 256 || l[0] != 0 || l[255] != 255 {
		t.Error(l)
	}
	m.do(call{what: "Ripe"})
	refused()
}

// It is not told until the epoch has gone on twice, and is told then, however late.
func TestHowLongItWaits(t *testing.T) {
	for start := range 5 {
		for age := range 10 {
			x, _ := made(t, 1)
			on(t, x, start)
			if e := x.Defer(9); e != api.OK {
				t.Fatal(e)
			}
			on(t, x, age)
			if age < 2 {
				ripe(t, x)
				if x.Waiting() != 1 || x.Defer(9) != api.ErrHave {
					t.Fatalf("after %d: %d", age, x.Waiting())
				}
				continue
			}
			if x.Waiting() != 1 || x.Defer(9) != api.ErrHave {
				t.Fatalf("after %d: %d", age, x.Waiting())
			}
			ripe(t, x, 9)
			ripe(t, x)
			if x.Waiting() != 0 || x.Defer(9) != api.OK || x.Waiting() != 1 {
				t.Fatalf("after %d: %d", age, x.Waiting())
			}
			// It waits anew.
			on(t, x, 1)
			ripe(t, x)
			on(t, x, 1)
			ripe(t, x, 9)
		}
	}
}

// Who defers what waits gets ErrHave; it goes on waiting, with the epoch and in the place that it had.
func TestDeferAgain(t *testing.T) {
	x, m := made(t, 1)
	run(t, x, m, call{"Defer", 5}, call{"Defer", 4}, call{what: "Advance"}, call{"Defer", 3})
	for range 2 {
		for _, slot := range []int{5, 4, 3} {
			if e := x.Defer(slot); e != api.ErrHave || x.Waiting() != 3 {
				t.Fatal(slot, e)
			}
		}
		ripe(t, x)
	}
	on(t, x, 1)
	ripe(t, x, 5, 4)
	on(t, x, 1)
	ripe(t, x, 3)
}

// They are told in the order in which they were let go, not by their numbers.
func TestTheOrderOfWhatIsRipe(t *testing.T) {
	r := rand.New(rand.NewSource(141))
	for n := 1; n <= api.MaxSlots; n += 5 {
		x, _ := made(t, 1)
		all := r.Perm(api.MaxSlots)[:n]
		cut := r.Intn(n + 1)
		for at, slot := range all {
			if at == cut {
				on(t, x, 1)
			}
			if e := x.Defer(slot); e != api.OK {
				t.Fatal(e)
			}
		}
		if x.Waiting() != n {
			t.Fatal(x.Waiting())
		}
		on(t, x, 2-x.Now())
		if cut == n { // no epoch lies between them
			ripe(t, x, all...)
			continue
		}
		ripe(t, x, all[:cut]...)
		if x.Waiting() != n-cut {
			t.Fatal(x.Waiting())
		}
		// Others may come meanwhile; they stand behind.
		for _, slot := range all[:cut] {
			if e := x.Defer(slot); e != api.OK {
				t.Fatal(e)
			}
		}
		on(t, x, 1)
		ripe(t, x, all[cut:]...)
		on(t, x, 1)
		ripe(t, x, all[:cut]...)
	}
}

// Several epochs' slots are told at once.
func TestRipeOfSeveralEpochs(t *testing.T) {
	for last := range 12 {
		x, _ := made(t, 1)
		for slot := 11; slot >= 0; slot-- {
			if e := max(x.Defer(slot), x.Defer(slot+100)); e != api.OK {
				t.Fatal(e)
			}
			on(t, x, 1)
		}
		// They have waited from 1 to 12 epochs.
		var want []int
		for slot := 11; slot > 0; slot-- {
			want = append(want, slot, slot+100)
		}
		on(t, x, last)
		if last > 0 {
			want = append(want, 0, 100)
		}
		ripe(t, x, want...)
		if x.Waiting() != 24-len(want) {
			t.Fatal(x.Waiting())
		}
	}
}

// Who is in has nothing to do with what is told: the epoch alone has.
func TestRipeWhileWorkersAreIn(t *testing.T) {
	x, m := made(t, 2)
	run(t, x, m, call{"Defer", 8}, call{what: "Advance"}, call{"Enter", 0}, call{what: "Advance"}, call{"Enter", 1})
	run(t, x, m, call{"Defer", 6}, call{what: "Advance"}, call{"Defer", 7})
	ripe(t, x, 8)
	if x.Seen(0) != 1 || x.Seen(1) != 2 || x.Now() != 2 || x.Waiting() != 2 {
		t.Error(x.Seen(0), x.Seen(1), x.Now(), x.Waiting())
	}
}

// P14.5

// calls are all of epochs with so many workers and slots, wrong ones too.
func calls(workers, slots int) []call {
	l := []call{{what: "Advance"}, {what: "Ripe"}, {"Defer", -1}, {"Defer", 256}}
	for w := -1; w <= workers; w++ {
		l = append(l, call{"Enter", w}, call{"Leave", w})
	}
	for slot := range slots {
		l = append(l, call{"Defer", slot})
	}
	return l
}

// key tells epochs apart that go on in unlike ways; what has waited longer than 3 epochs goes on as what has waited 3.
func (m *model) key() string {
	k := ""
	for w := range m.n {
		lag := 'o'
		if at := m.seen(w); at != -1 {
			lag = rune('0' + m.now() - at)
		}
		k += string(lag)
	}
	slots, ages := m.waits()
	for at, slot := range slots {
		k += " " + string(rune('a'+slot)) + string(rune('0'+min(ages[at], 3)))
	}
	return k
}

// Every way of few workers and slots to be, and every call of each.
func TestEveryCallOfEveryEpochs(t *testing.T) {
	for _, c := range []struct{ workers, slots, want int }{{1, 3, 3 * 193}, {2, 2, 9 * 29}, {3, 1, 27 * 5}, {3, 2, 27 * 29}} {
		had := map[string]bool{(&model{n: c.workers}).key(): true}
		paths := [][]call{nil}
		for len(paths) > 0 {
			path := paths[0]
			paths = paths[1:]
			for _, last := range calls(c.workers, c.slots) {
				x, m := made(t, c.workers)
				for _, ahead := range path {
					ahead.do(t, x, m)
				}
				last.do(t, x, m)
				m.hold(t, x)
				if k := m.key(); !had[k] {
					had[k] = true
					paths = append(paths, append(slices.Clone(path), last))
				}
			}
		}
		if len(had) != c.want {
			t.Errorf("of %v: %d", c, len(had))
		}
	}
}

// witness looks at what is called, and holds what is told against what the promise says follows.
type witness struct {
	since map[int][]int // of each slot that was deferred and not told yet: by workers, what each had announced at it; -1 of one that was out, or has left or announced a later epoch since
}

// see is a call of epochs that was done, and its answer.
func (s *witness) see(t *testing.T, x *epochs.Epochs, n int, c call, a answer) {
	t.Helper()
	switch {
	case a.e != api.OK:
	case c.what == "Defer":
		l := make([]int, n)
		for w := range n {
			l[w] = x.Seen(w)
		}
		s.since[c.n] = l
	case c.what == "Leave", c.what == "Enter":
		for _, l := range s.since {
			if c.what == "Leave" || l[c.n] != -1 && x.Seen(c.n) > l[c.n] {
				l[c.n] = -1
			}
		}
	case c.what == "Ripe":
		for _, slot := range a.l {
			l, was := s.since[int(slot)]
			if !was || slices.ContainsFunc(l, func(at int) bool { return at != -1 }) {
				t.Fatalf("%d is told, of %v", slot, l)
			}
			delete(s.since, int(slot))
		}
	}
	if len(s.since) != x.Waiting() {
		t.Fatalf("%d wait, not %d", x.Waiting(), len(s.since))
	}
}

// anyCall is one of epochs of n workers.
func anyCall(r *rand.Rand, n int) call {
	what := []string{"Enter", "Enter", "Enter", "Leave", "Leave", "Advance", "Advance", "Ripe", "Defer", "Defer"}[r.Intn(10)]
	switch what {
	case "Enter", "Leave":
		return call{what, r.Intn(n+2) - 1}
	case "Defer":
		return call{what, r.Intn(10)}
	}
	return call{what: what}
}

func TestWhatFollows(t *testing.T) {
	r := rand.New(rand.NewSource(142))
	for _, n := range []int{1, 2, 3, 4, 8} {
		for range 25 {
			x, m := made(t, n)
			s := &witness{since: map[int][]int{}}
			for range 150 {
				c := anyCall(r, n)
				s.see(t, x, n, c, c.do(t, x, m))
				m.hold(t, x)
			}
		}
	}
}

// A long time of it, without the slow one.
func TestWhatFollowsOfTheGreatest(t *testing.T) {
	r := rand.New(rand.NewSource(143))
	x, _ := made(t, api.MaxWorkers)
	s := &witness{since: map[int][]int{}}
	told := 0
	for range 60000 {
		c := call{"Enter", r.Intn(api.MaxWorkers)}
		switch n := r.Intn(40); {
		case n < 6:
			c.what = "Leave"
		case n < 10:
			c = call{"Defer", r.Intn(api.MaxSlots)}
		case n < 14:
			c = call{what: "Advance"}
		case n < 16:
			c = call{what: "Ripe"}
		}
		a := ask(x, c)
		s.see(t, x, api.MaxWorkers, c, a)
		told += len([]rune(a.l))
	}
	if told < 100 || x.Now() < 10 {
		t.Errorf("little was told: %d, at %d", told, x.Now())
	}
}

// Two Advances, each with an Enter of all that are in ahead of it, make all ripe, however it was ahead.
func TestTwoAdvancesMakeAllRipe(t *testing.T) {
	r := rand.New(rand.NewSource(144))
	for range 300 {
		n := 1 + r.Intn(6)
		x, m := made(t, n)
		for range r.Intn(60) {
			anyCall(r, n).do(t, x, m)
		}
		slots, _ := m.waits()
		for range 2 {
			for _, w := range r.Perm(n) {
				if x.In(w) {
					run(t, x, m, call{"Enter", w})
				}
			}
			on(t, x, 1)
			m.do(call{what: "Advance"})
		}
		m.hold(t, x)
		ripe(t, x, slots...)
		if x.Waiting() != 0 {
			t.Fatal(x.Waiting())
		}
	}
}

// A worker that was in at a Defer, and neither leaves nor announces, keeps it waiting, whatever all others do.
func TestOneWorkerKeepsItWaiting(t *testing.T) {
	r := rand.New(rand.NewSource(145))
	for _, n := range []int{1, 2, 5, 64} {
		for late := range n {
			x, _ := made(t, n)
			on(t, x, r.Intn(3))
			if e := x.Enter(late); e != api.OK {
				t.Fatal(e)
			}
			on(t, x, r.Intn(2))
			if e := x.Defer(200); e != api.OK {
				t.Fatal(e)
			}
			for range 100 {
				c := anyCall(r, n)
				if c.n == late && (c.what == "Enter" || c.what == "Leave") {
					continue
				}
				if a := ask(x, c); slices.Contains([]rune(a.l), 200) {
					t.Fatalf("of %d: %d was in", n, late)
				}
			}
			if e := x.Defer(200); e != api.ErrHave {
				t.Fatal(e)
			}
		}
	}
}

// R2: who asks changes nothing.
func TestAskingChangesNothing(t *testing.T) {
	x, m := made(t, 3)
	run(t, x, m, call{"Enter", 0}, call{"Defer", 4}, call{"Defer", 2}, call{what: "Advance"}, call{"Enter", 2})
	for range 5 {
		m.hold(t, x)
	}
	run(t, x, m, call{"Leave", 0}, call{what: "Advance"})
	ripe(t, x, 4, 2)
}

// R4: a list that was told is the caller's own.
func TestListsAreTheCallersOwn(t *testing.T) {
	x, m := made(t, 1)
	run(t, x, m, call{"Defer", 1}, call{"Defer", 2}, call{what: "Advance"}, call{"Defer", 3}, call{what: "Advance"})
	first := x.Ripe()
	if !slices.Equal(first, []int{1, 2}) {
		t.Fatal(first)
	}
	m.do(call{what: "Ripe"})
	was := append(first, 77, 78, 79)
	for at := range first {
		first[at] = 99
	}
	m.hold(t, x)
	run(t, x, m, call{"Defer", 1}, call{"Defer", 2}, call{"Defer", 99}, call{what: "Advance"})
	ripe(t, x, 3)
	m.do(call{what: "Ripe"})
	run(t, x, m, call{what: "Advance"})
	ripe(t, x, 1, 2, 99)
	if !slices.Equal(first, []int{99, 99}) || !slices.Equal(was[2:], []int{77, 78, 79}) {
		t.Error(first, was)
	}
}

func TestEpochsGoOnByThemselves(t *testing.T) {
	x, mx := made(t, 2)
	y, my := made(t, 2)
	run(t, x, mx, call{"Enter", 0}, call{"Defer", 1}, call{what: "Advance"}, call{what: "Advance"})
	my.hold(t, y)
	run(t, y, my, call{"Defer", 1}, call{what: "Advance"}, call{what: "Advance"}, call{what: "Ripe"})
	mx.hold(t, x)
	z, mz := made(t, 2)
	mz.hold(t, z)
	run(t, x, mx, call{"Leave", 0}, call{what: "Advance"}, call{what: "Ripe"})
	my.hold(t, y)
}

// R1, R3: epochs that are none.
func TestEpochsThatAreNone(t *testing.T) {
	var none *epochs.Epochs
	for _, x := range []*epochs.Epochs{none, {}, new(epochs.Epochs)} {
		for range 2 {
			for _, n := range append(beside(1), 0, 1, 255) {
				if a, b, c := x.Enter(n), x.Leave(n), x.Defer(n); a != api.ErrNil || b != api.ErrNil || c != api.ErrNil {
					t.Errorf("of none: %d: %d, %d, %d", n, a, b, c)
				}
				if x.In(n) || x.Seen(n) != -1 {
					t.Errorf("of none: %d: %v, %d", n, x.In(n), x.Seen(n))
				}
			}
			for range 3 {
				if x.Advance() || x.Now() != 0 || x.Waiting() != 0 || len(x.Ripe()) != 0 {
					t.Error("of none:", x.Now(), x.Waiting())
				}
			}
		}
	}
}
