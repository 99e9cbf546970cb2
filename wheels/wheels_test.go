package wheels_test

import (
	"math"
	"math/rand"
	"slices"
	"strconv"
	"testing"

	"porter/api"
	"porter/wheels"
)

// call is one that changes a wheel: Put of a handle, due at a tick, Cut of a handle, or Turn to a tick.
type call struct {
	what string
	h    api.Handle
	tick int
}

func put(h api.Handle, due int) call { return call{"Put", h, due} }
func cut(h api.Handle) call          { return call{what: "Cut", h: h} }
func turn(now int) call              { return call{what: "Turn", tick: now} }

// of is a slot's first handle.
func of(slot int) api.Handle { return api.Handle{Slot: slot, Gen: 1} }

// answer is that of a call.
type answer struct {
	e  api.Errno
	ok bool
	l  string // handles
}

// text is handles, as a text.
func text(l []api.Handle) string {
	s := ""
	for _, h := range l {
		s += " " + strconv.Itoa(h.Slot) + "." + strconv.Itoa(int(h.Gen))
	}
	return s
}

// model is what a wheel is held against: it has no places, and keeps no
// handles, but all calls that did something, and goes through them.
type model struct{ log []call }

// last is the tick of the last Turn.
func (m *model) last() int {
	for at := len(m.log) - 1; at >= 0; at-- {
		if m.log[at].what == "Turn" {
			return m.log[at].tick
		}
	}
	return 0
}

// gone is whether a handle that was put at a place of the log was cut, or told, since.
func (m *model) gone(at int) bool {
	was := m.log[at]
	for _, c := range m.log[at+1:] {
		if c.what == "Cut" && c.h == was.h || c.what == "Turn" && c.tick >= was.tick {
			return true
		}
	}
	return false
}

// ahead is whether one that was put stands ahead of another one.
func ahead(a, b call) bool {
	if a.tick != b.tick {
		return a.tick < b.tick
	}
	if a.h.Slot != b.h.Slot {
		return a.h.Slot < b.h.Slot
	}
	return a.h.Gen < b.h.Gen
}

// has is all Puts whose handles are there, as these stand.
func (m *model) has() []call {
	var l []call
	for at, c := range m.log {
		if c.what != "Put" || m.gone(at) {
			continue
		}
		l = append(l, c)
		for to := len(l) - 1; to > 0 && ahead(l[to], l[to-1]); to-- {
			l[to], l[to-1] = l[to-1], l[to]
		}
	}
	return l
}

// due is when a handle is due.
func (m *model) due(h api.Handle) (int, bool) {
	for _, c := range m.has() {
		if c.h == h {
			return c.tick, true
		}
	}
	return 0, false
}

// do is a call, slowly.
func (m *model) do(c call) answer {
	_, isThere := m.due(c.h)
	a := answer{}
	switch {
	case c.what == "Put" && (c.tick < 0 || c.tick > 1<<40), c.what == "Turn" && (c.tick < m.last() || c.tick > 1<<40):
		return answer{e: api.ErrArg}
	case c.what == "Put" && isThere:
		return answer{e: api.ErrHave}
	case c.what == "Cut" && !isThere:
		return answer{}
	case c.what == "Cut":
		a.ok = true
	case c.what == "Turn":
		var told []api.Handle
		for _, one := range m.has() {
			if one.tick <= c.tick {
				told = append(told, one.h)
			}
		}
		a.l = text(told)
	}
	m.log = append(m.log, c)
	return a
}

// ask is a call of a wheel.
func ask(w *wheels.Wheel, c call) answer {
	switch c.what {
	case "Put":
		return answer{e: w.Put(c.h, c.tick)}
	case "Cut":
		return answer{ok: w.Cut(c.h)}
	}
	l, e := w.Turn(c.tick)
	return answer{e: e, l: text(l)}
}

// do calls both, and holds them against each other.
func (c call) do(t *testing.T, w *wheels.Wheel, m *model) answer {
	t.Helper()
	a := ask(w, c)
	if want := m.do(c); a != want {
		t.Fatalf("of %v: %v is %v, not %v", m.log, c, a, want)
	}
	return a
}

// hold asks of a wheel all that can be asked, and holds it against the slow one.
func (m *model) hold(t *testing.T, w *wheels.Wheel) {
	t.Helper()
	l := m.has()
	if w.Count() != len(l) {
		t.Fatalf("of %v: Count is %d, not %d", m.log, w.Count(), len(l))
	}
	next, ok := w.Next()
	if len(l) == 0 && (next != 0 || ok) || len(l) > 0 && (next != l[0].tick || !ok) {
		t.Fatalf("of %v: Next is %d, %v, of %v", m.log, next, ok, l)
	}
	asked := map[api.Handle]bool{of(-1): true, of(999): true, {}: true}
	for _, c := range m.log {
		asked[c.h] = true
	}
	for h := range asked {
		want, is := 0, false
		if at := slices.IndexFunc(l, func(c call) bool { return c.h == h }); at >= 0 {
			want, is = l[at].tick, true
		}
		if due, ok := w.Due(h); due != want || ok != is {
			t.Fatalf("of %v: Due(%v) is %d, %v, not %d, %v", m.log, h, due, ok, want, is)
		}
	}
}

// made is a wheel, and what it is held against.
func made(t *testing.T, size int) (*wheels.Wheel, *model) {
	t.Helper()
	w, e := wheels.New(size)
	if w == nil || e != api.OK {
		t.Fatalf("New(%d): %v, %d", size, w, e)
	}
	return w, &model{}
}

// run does calls, each of which is as the slow one's.
func run(t *testing.T, w *wheels.Wheel, m *model, l ...call) {
	t.Helper()
	for _, c := range l {
		c.do(t, w, m)
	}
	m.hold(t, w)
}

// told is what Turn is to tell.
func told(t *testing.T, w *wheels.Wheel, now int, want ...api.Handle) {
	t.Helper()
	if l, e := w.Turn(now); !slices.Equal(l, want) || e != api.OK {
		t.Fatalf("Turn(%d): %v, %d, not %v", now, l, e, want)
	}
}

// ok is whether calls are to be api.OK.
func ok(t *testing.T, l ...api.Errno) {
	t.Helper()
	for at, e := range l {
		if e != api.OK {
			t.Fatalf("the call %d: %d", at, e)
		}
	}
}

// sizes are some that wheels have.
func sizes() []int { return []int{1, 2, 3, 4, 5, 7, 8, 16, 31, 32, 33, 63, 64} }

// wrong is ticks that are not from one to MaxTick.
func wrong(from int) []int {
	l := []int{-1, -2, -64, -65, 1<<40 + 1, 1<<40 + 2, 1<<40 + 64, 2 << 40, math.MinInt, math.MinInt + 1, math.MinInt32, math.MaxInt - 1, math.MaxInt, from - 1}
	for bits := range 63 {
		l = append(l, -1<<bits, 1<<40+1<<bits)
	}
	return slices.DeleteFunc(l, func(tick int) bool { return tick >= from && tick <= 1<<40 })
}

func TestTheExamplesOfTheDocument(t *testing.T) {
	w, _ := made(t, 4)
	a, b, c, d := of(1), of(2), of(3), of(4)
	ok(t, w.Put(a, 5), w.Put(b, 9), w.Put(c, 5))
	if e := w.Put(a, 6); e != api.ErrHave {
		t.Error(e)
	}
	if n, is := w.Next(); n != 5 || !is {
		t.Error(n, is)
	}
	told(t, w, 4)
	told(t, w, 5, a, c)
	if l, e := w.Turn(4); len(l) != 0 || e != api.ErrArg {
		t.Error(l, e)
	}
	ok(t, w.Put(d, 3))
	told(t, w, 1000, d, b)
	if n, is := w.Next(); w.Count() != 0 || n != 0 || is || w.Put(a, -1) != api.ErrArg {
		t.Error(w.Count(), n, is)
	}
}

// P15.1

func TestNewOfEachSize(t *testing.T) {
	l := append(wrong(1), 65, 66, 127, 128, 256, 257, 1<<16, 1<<32, 1<<32+1, 1<<40, 1<<62)
	for n := -300; n <= 300; n++ {
		l = append(l, n)
	}
	for _, n := range l {
		w, e := wheels.New(n)
		if n < 1 || n > 64 {
			if w != nil || e != api.ErrArg {
				t.Errorf("New(%d): %v, %d", n, w, e)
			}
		} else if w == nil || e != api.OK {
			t.Errorf("New(%d): %v, %d", n, w, e)
		}
	}
}

func TestNoHandlesAtFirst(t *testing.T) {
	for size := 1; size <= 64; size++ {
		w, m := made(t, size)
		m.hold(t, w)
		for slot := range 256 {
			if due, is := w.Due(of(slot)); due != 0 || is || w.Cut(of(slot)) {
				t.Fatalf("of %d: it has %d", size, slot)
			}
		}
		run(t, w, m, turn(-1), turn(0), turn(0), turn(1), turn(0), turn(1<<40), turn(1<<40-1), turn(1<<40), turn(1<<40+1))
		if l, e := w.Turn(1 << 40); len(l) != 0 || e != api.OK || w.Count() != 0 {
			t.Fatal(l, e)
		}
	}
}

func TestCount(t *testing.T) {
	for _, size := range sizes() {
		w, _ := made(t, size)
		for n := range 300 {
			if w.Count() != n || w.Put(of(n), n/2) != api.OK || w.Count() != n+1 {
				t.Fatalf("of %d: %d, not %d", size, w.Count(), n)
			}
			if w.Put(of(n), 1) != api.ErrHave || w.Put(of(n+1), -1) != api.ErrArg || w.Count() != n+1 {
				t.Fatalf("of %d: %d, not %d", size, w.Count(), n+1)
			}
		}
		for n := 299; n >= 200; n-- {
			if !w.Cut(of(n)) || w.Count() != n || w.Cut(of(n)) || w.Count() != n {
				t.Fatalf("of %d: %d, not %d", size, w.Count(), n)
			}
		}
		for now := range 100 {
			told(t, w, now, of(2*now), of(2*now+1))
			if w.Count() != 200-2*now-2 {
				t.Fatalf("of %d at %d: %d", size, now, w.Count())
			}
		}
	}
}

// P15.2

func TestPutAtEachEdge(t *testing.T) {
	for _, size := range sizes() {
		for _, last := range []int{0, 1, 63, 64, 65, 1000, 1<<40 - 1, 1 << 40} {
			w, m := made(t, size)
			run(t, w, m, turn(last), put(of(900), last/2))
			for _, due := range wrong(0) {
				run(t, w, m, put(of(1), due), put(of(900), due))
			}
			for at, due := range []int{0, 1, 62, 63, 64, 65, 127, 128, 1<<31 - 1, 1 << 31, 1 << 32, 1<<32 + 1, 1<<40 - 1, 1 << 40} {
				run(t, w, m, put(of(at), due))
				if n, is := w.Due(of(at)); n != due || !is {
					t.Fatalf("of %d: Due is %d, %v, not %d", size, n, is, due)
				}
			}
			run(t, w, m, turn(last), turn(min(last+1, 1<<40)), turn(min(last+64, 1<<40)), turn(1<<40-1), turn(1<<40))
		}
	}
}

// ErrArg is told first; who puts what the wheel has changes nothing.
func TestPutAgain(t *testing.T) {
	for _, size := range sizes() {
		w, m := made(t, size)
		run(t, w, m, put(of(7), 50), turn(10))
		for _, due := range []int{0, 9, 10, 11, 49, 50, 51, 114, 1 << 40} {
			if e := w.Put(of(7), due); e != api.ErrHave {
				t.Fatal(due, e)
			}
			m.hold(t, w)
		}
		for _, due := range wrong(0) {
			if e := w.Put(of(7), due); e != api.ErrArg {
				t.Fatal(due, e)
			}
			m.hold(t, w)
		}
		told(t, w, 49)
		told(t, w, 50, of(7))
		told(t, w, 1<<40)
	}
}

// What was cut, or told, may be put anew, due at another tick.
func TestPutAnew(t *testing.T) {
	for _, size := range sizes() {
		w, m := made(t, size)
		run(t, w, m, put(of(7), 50), cut(of(7)), put(of(7), 20), cut(of(7)), put(of(7), 70), turn(60), turn(69))
		told(t, w, 70, of(7))
		m.do(turn(70))
		run(t, w, m, put(of(7), 30), cut(of(7)), turn(71), put(of(7), 72), put(of(7), 73))
		told(t, w, 72, of(7))
		told(t, w, 73)
		ok(t, w.Put(of(7), 73))
		told(t, w, 73, of(7))
		told(t, w, 1<<40)
	}
}

// strange is handles that no slab tells, and those that differ in little.
func strange() []api.Handle {
	var l []api.Handle
	for _, slot := range []int{0, 1, -1, 255, 256, 1 << 32, 1<<32 + 1, math.MinInt, math.MinInt + 1, math.MaxInt - 1, math.MaxInt} {
		for _, gen := range []uint32{0, 1, 2, 1 << 31, math.MaxUint32 - 1, math.MaxUint32} {
			l = append(l, api.Handle{Slot: slot, Gen: gen})
		}
	}
	return l
}

// A handle is any one; one of another slot, or another time, is another one.
func TestHandlesAreBothOfTheirNumbers(t *testing.T) {
	all := strange()
	for _, size := range []int{1, 3, 64} {
		w, m := made(t, size)
		for at, h := range all {
			if _, is := w.Due(h); is || w.Cut(h) {
				t.Fatalf("it has %v", h)
			}
			run(t, w, m, put(h, at%5), put(h, 9))
		}
		for at, h := range all {
			if at%3 == 0 {
				run(t, w, m, cut(h), cut(h))
			}
		}
		run(t, w, m, turn(0), turn(2), turn(4))
		if w.Count() != 0 {
			t.Fatal(w.Count())
		}
	}
}

// Cut takes away the handle alone, wherever it stands.
func TestCutOfEach(t *testing.T) {
	for _, size := range sizes() {
		for which := range 12 {
			w, m := made(t, size)
			run(t, w, m, turn(100))
			for slot := range 12 {
				run(t, w, m, put(of(slot), 98+slot/3*2))
			}
			if !w.Cut(of(which)) || w.Cut(of(which)) || w.Count() != 11 {
				t.Fatalf("of %d: Cut of %d: %d", size, which, w.Count())
			}
			if due, is := w.Due(of(which)); due != 0 || is {
				t.Fatal(due, is)
			}
			m.do(cut(of(which)))
			m.hold(t, w)
			run(t, w, m, turn(100), cut(of(which)), turn(102), turn(103), turn(104))
			if w.Count() != 0 {
				t.Fatal(w.Count())
			}
		}
	}
}

// What was told is cut no more.
func TestCutOfWhatWasTold(t *testing.T) {
	w, m := made(t, 4)
	run(t, w, m, put(of(1), 5), put(of(2), 6), turn(5))
	if w.Cut(of(1)) || !w.Cut(of(2)) || w.Count() != 0 {
		t.Error(w.Count())
	}
	told(t, w, 1<<40)
}

// Next goes back to a later tick when the first one is cut.
func TestNext(t *testing.T) {
	for _, size := range sizes() {
		w, m := made(t, size)
		ticks := []int{40, 1 << 40, 17, 17, 16, 300, 0, 81, 16}
		for slot, due := range ticks {
			run(t, w, m, put(of(slot), due))
			if next, is := w.Next(); next != slices.Min(ticks[:slot+1]) || !is {
				t.Fatalf("of %d: %d", size, next)
			}
		}
		for _, c := range []struct{ slot, next int }{{6, 16}, {4, 16}, {8, 17}, {1, 17}, {3, 17}, {2, 40}, {0, 81}, {7, 300}} {
			if next, is := w.Next(); !w.Cut(of(c.slot)) || !is {
				t.Fatalf("of %d: %d, %v", size, next, is)
			}
			if next, is := w.Next(); next != c.next || !is {
				t.Fatalf("of %d: %d, %v, not %d", size, next, is, c.next)
			}
		}
		if next, is := w.Next(); !w.Cut(of(5)) || next != 300 || !is {
			t.Fatal(next, is)
		}
		if next, is := w.Next(); next != 0 || is {
			t.Fatal(next, is)
		}
	}
}

// That one is due at 0 is something else than that there is none.
func TestNextAtNought(t *testing.T) {
	w, _ := made(t, 2)
	told(t, w, 0)
	ok(t, w.Put(of(1), 0))
	if next, is := w.Next(); next != 0 || !is {
		t.Error(next, is)
	}
	if due, is := w.Due(of(1)); due != 0 || !is {
		t.Error(due, is)
	}
	told(t, w, 0, of(1))
	if next, is := w.Next(); next != 0 || is {
		t.Error(next, is)
	}
}

// P15.3

func TestTurnToWrongTicks(t *testing.T) {
	for _, size := range sizes() {
		for _, last := range []int{0, 1, 2, 63, 64, 65, 1000, 1<<40 - 1, 1 << 40} {
			w, m := made(t, size)
			run(t, w, m, put(of(3), 0), put(of(4), 1<<40), turn(last), put(of(1), 0), put(of(2), last))
			for _, now := range append(wrong(last), last/2-1, last-64, last-65) {
				if l, e := w.Turn(now); len(l) != 0 || e != api.ErrArg {
					t.Fatalf("of %d at %d: Turn(%d): %v, %d", size, last, now, l, e)
				}
				m.hold(t, w)
			}
			// The last tick is what it was.
			run(t, w, m, turn(last), turn(last), turn(1<<40), turn(1<<40))
		}
	}
}

// The last tick goes on though nothing is told.
func TestTheLastTickGoesOn(t *testing.T) {
	for _, size := range sizes() {
		w, m := made(t, size)
		for _, now := range []int{0, 1, 2, 3, 66, 67, 1000, 1 << 20, 1<<40 - 1, 1 << 40} {
			told(t, w, now)
			if l, e := w.Turn(now - 1); len(l) != 0 || e != api.ErrArg {
				t.Fatalf("of %d at %d: %v, %d", size, now, l, e)
			}
			told(t, w, now)
			run(t, w, m, turn(now), put(of(1), 1<<40), cut(of(1)), turn(now-1))
		}
	}
}

// One handle, put at each tick, due at each, and each two Turns.
func TestOneHandleAtEachTick(t *testing.T) {
	const most = 7
	for size := 1; size <= 9; size++ {
		for last := range most {
			for due := range most + 4 {
				for first := last; first < most+4; first++ {
					for second := first; second < most+4; second++ {
						w, _ := made(t, size)
						told(t, w, last)
						ok(t, w.Put(of(1), due))
						switch {
						case due <= first:
							told(t, w, first, of(1))
							told(t, w, second)
						case due <= second:
							told(t, w, first)
							told(t, w, second, of(1))
						default:
							told(t, w, first)
							told(t, w, second)
							told(t, w, due, of(1))
						}
						if w.Count() != 0 {
							t.Fatal(w.Count())
						}
					}
				}
			}
		}
	}
}

// Turns from each tick to each one near it, of handles that are due at all of them.
func TestTurnsOfEachLength(t *testing.T) {
	for size := 1; size <= 64; size++ {
		for _, from := range []int{0, 1, size - 1, size, 1000, 1<<40 - 200} {
			for _, by := range []int{0, 1, size - 2, size - 1, size, size + 1, 2*size - 1, 2 * size, 2*size + 1} {
				now := from + max(by, 0)
				w, _ := made(t, size)
				var want []api.Handle
				for slot := range now + 3 - from {
					ok(t, w.Put(of(slot), from+slot))
					if from+slot <= now {
						want = append(want, of(slot))
					}
				}
				if from > 0 {
					told(t, w, from-1)
				}
				told(t, w, now, want...)
				told(t, w, now)
				told(t, w, now+1, of(len(want)))
				told(t, w, now+2, of(len(want)+1))
				if w.Count() != 0 {
					t.Fatal(w.Count())
				}
			}
		}
	}
}

// They stand by when they are due, then by their Slots, then by their Gens, however they came.
func TestHowHandlesStand(t *testing.T) {
	r := rand.New(rand.NewSource(151))
	all := strange()
	for _, size := range []int{1, 2, 5, 64} {
		for range 20 {
			w, m := made(t, size)
			for at, which := range r.Perm(len(all)) {
				run(t, w, m, put(all[which], []int{3, 0, 100, 1 << 40, 64}[at%5]))
			}
			now := []int{0, 3, 64, 100, 1<<40 - 1, 1 << 40}[r.Intn(6)]
			run(t, w, m, turn(now), turn(1<<40))
			if w.Count() != 0 {
				t.Fatal(w.Count())
			}
		}
	}
}

func TestHandlesOfOneTick(t *testing.T) {
	w, _ := made(t, 1)
	l := []api.Handle{{Slot: math.MinInt, Gen: 7}, {Slot: -1, Gen: 3}, {Slot: 0, Gen: 0}, {Slot: 0, Gen: math.MaxUint32}, {Slot: 1, Gen: 0}, {Slot: 1, Gen: 1}, {Slot: 1, Gen: 1 << 31}, {Slot: 2, Gen: 0}, {Slot: math.MaxInt, Gen: 0}, {Slot: math.MaxInt, Gen: 1}}
	for at := range l {
		ok(t, w.Put(l[(at*7+3)%len(l)], 12))
	}
	ok(t, w.Put(api.Handle{Slot: 1, Gen: 5}, 13), w.Put(api.Handle{Slot: 9, Gen: 9}, 11))
	told(t, w, 12, append([]api.Handle{{Slot: 9, Gen: 9}}, l...)...)
	told(t, w, 13, api.Handle{Slot: 1, Gen: 5})
}

// What is over when it is put is told by the next Turn, though that is to the last tick again.
func TestPutOfWhatIsOver(t *testing.T) {
	for _, size := range sizes() {
		for _, last := range []int{0, 1, 5, 63, 64, 65, 1000, 1 << 40} {
			w, m := made(t, size)
			run(t, w, m, turn(last))
			for _, by := range []int{0, 1, 2, 3, 62, 63, 64, 65, 128, last} {
				for _, on := range []int{0, 1, size, 1000} {
					due := max(last-by, 0)
					run(t, w, m, put(of(1), due))
					if next, is := w.Next(); next != due || !is {
						t.Fatalf("of %d at %d: Next is %d", size, last, next)
					}
					last = min(last+on, 1<<40)
					told(t, w, last, of(1))
					m.do(turn(last))
					m.hold(t, w)
				}
			}
		}
	}
}

// A Turn over very many ticks ends soon, and looks at no place twice.
func TestTurnsOverManyTicks(t *testing.T) {
	for size := 1; size <= 64; size++ {
		w, _ := made(t, size)
		var want []api.Handle
		for slot := range 256 {
			ok(t, w.Put(of(slot), slot<<32))
			want = append(want, of(slot))
		}
		ok(t, w.Put(of(256), 1<<40))
		told(t, w, 1<<40-1, want...)
		told(t, w, 1<<40, of(256))
		if w.Count() != 0 {
			t.Fatal(w.Count())
		}
	}
}

// P15.4

// calls are all of few handles and ticks, wrong ones too.
func calls(handles, ticks int) []call {
	l := []call{turn(-1), turn(1<<40 + 1), put(of(0), -1), put(of(0), 1<<40+1)}
	for tick := range ticks {
		l = append(l, turn(tick))
		for slot := range handles {
			l = append(l, put(of(slot), tick))
		}
	}
	for slot := range handles {
		l = append(l, cut(of(slot)))
	}
	return l
}

// key tells wheels apart that go on in unlike ways.
func (m *model) key() string {
	k := strconv.Itoa(m.last())
	for _, c := range m.has() {
		k += text([]api.Handle{c.h}) + "@" + strconv.Itoa(c.tick)
	}
	return k
}

// Every way of a wheel of few handles and ticks to be, and every call of each.
func TestEveryCallOfEveryWheel(t *testing.T) {
	for _, c := range []struct{ size, handles, ticks, want int }{
		{1, 2, 4, 4 * 25}, {2, 2, 4, 4 * 25}, {3, 2, 4, 4 * 25}, {4, 2, 5, 5 * 36}, {5, 2, 4, 4 * 25},
		{1, 3, 3, 3 * 64}, {2, 3, 3, 3 * 64}, {3, 3, 3, 3 * 64}, {2, 1, 9, 9 * 10}, {3, 1, 9, 9 * 10}, {64, 1, 5, 5 * 6},
	} {
		had := map[string]bool{(&model{}).key(): true}
		paths := [][]call{nil}
		for len(paths) > 0 {
			path := paths[0]
			paths = paths[1:]
			for _, last := range calls(c.handles, c.ticks) {
				w, m := made(t, c.size)
				for _, before := range path {
					before.do(t, w, m)
				}
				last.do(t, w, m)
				m.hold(t, w)
				if k := m.key(); !had[k] {
					had[k] = true
					paths = append(paths, append(slices.Clone(path), last))
				}
			}
		}
		if len(had) != c.want {
			t.Errorf("of %v: %d", c, len(had))
		}
	}
}

// witness looks at what is called, and holds what is told against what the promise says follows.
type witness struct {
	due  map[api.Handle]int // of each that was put, and neither cut nor told since
	last int
}

// next is the least tick at which one is due.
func (s *witness) next() (int, bool) {
	least, is := 0, false
	for _, due := range s.due {
		if !is || due < least {
			least, is = due, true
		}
	}
	return least, is
}

// put puts one.
func (s *witness) put(t *testing.T, w *wheels.Wheel, h api.Handle, due int) {
	t.Helper()
	want := api.OK
	if _, was := s.due[h]; was {
		want = api.ErrHave
	} else {
		s.due[h] = due
	}
	if e := w.Put(h, due); e != want {
		t.Fatalf("Put of %v at %d: %d, not %d", h, due, e, want)
	}
}

// cut cuts one.
func (s *witness) cut(t *testing.T, w *wheels.Wheel, h api.Handle) {
	t.Helper()
	_, was := s.due[h]
	delete(s.due, h)
	if is := w.Cut(h); is != was {
		t.Fatalf("Cut of %v: %v", h, is)
	}
}

// turn turns, and looks at each that is told, and each that is not.
func (s *witness) turn(t *testing.T, w *wheels.Wheel, now int) []api.Handle {
	t.Helper()
	least, is := s.next()
	l, e := w.Turn(now)
	if e != api.OK {
		t.Fatalf("Turn(%d) at %d: %d", now, s.last, e)
	}
	if (len(l) > 0) != (is && now >= least) {
		t.Fatalf("Turn(%d): %v, Next being %d", now, l, least)
	}
	for _, h := range l {
		due, was := s.due[h]
		if !was || due > now {
			t.Fatalf("Turn(%d): %v is told, due at %d, %v", now, h, due, was)
		}
		delete(s.due, h)
	}
	for h, due := range s.due {
		if due <= now {
			t.Fatalf("Turn(%d): %v is not told, due at %d", now, h, due)
		}
	}
	s.last = now
	return l
}

// hold asks what there is yet.
func (s *witness) hold(t *testing.T, w *wheels.Wheel) {
	t.Helper()
	least, is := s.next()
	if next, has := w.Next(); next != least || has != is || w.Count() != len(s.due) {
		t.Fatalf("Next is %d, %v, not %d, %v; Count %d, not %d", next, has, least, is, w.Count(), len(s.due))
	}
}

// anyTick is one about the last one, not farther off than a span.
func anyTick(r *rand.Rand, last, span int) int {
	return min(max(last+r.Intn(2*span)-span/2, 0), 1<<40)
}

// anyCall is one, at about a tick; Turns are not back, mostly.
func anyCall(r *rand.Rand, last, handles, span int) call {
	h := api.Handle{Slot: r.Intn(handles), Gen: uint32(r.Intn(2))}
	switch n := r.Intn(20); {
	case n < 11:
		return put(h, anyTick(r, last, span))
	case n < 14:
		return cut(h)
	case n < 15:
		return turn(anyTick(r, last, span))
	}
	return turn(min(last+r.Intn(span), 1<<40))
}

// By chance, held against the slow one.
func TestWhatFollows(t *testing.T) {
	r := rand.New(rand.NewSource(152))
	for _, size := range sizes() {
		for _, span := range []int{2, 5, size, size + 1, 3 * size, 1000, 1 << 36} {
			for range 5 {
				w, m := made(t, size)
				span := max(span, 2)
				for range 80 {
					anyCall(r, m.last(), 12, span).do(t, w, m)
					m.hold(t, w)
				}
			}
		}
	}
}

// By chance, for long, and with many handles, without the slow one.
func TestWhatFollowsOfManyHandles(t *testing.T) {
	r := rand.New(rand.NewSource(153))
	for _, size := range []int{1, 2, 7, 64} {
		for _, span := range []int{3, 20, 64, 65, 500, 1 << 20} {
			w, _ := made(t, size)
			s := &witness{due: map[api.Handle]int{}}
			many := 0
			for range 4000 {
				switch c := anyCall(r, s.last, 200, span); c.what {
				case "Put":
					s.put(t, w, c.h, c.tick)
				case "Cut":
					s.cut(t, w, c.h)
				case "Turn":
					many += len(s.turn(t, w, max(c.tick, s.last)))
				}
				s.hold(t, w)
			}
			if many < 200 {
				t.Errorf("of %d, %d: %d were told", size, span, many)
			}
		}
	}
}

// Wheels of all sizes tell the same.
func TestPlacesMakeNoDifference(t *testing.T) {
	r := rand.New(rand.NewSource(154))
	for _, span := range []int{2, 3, 10, 63, 64, 65, 200, 1 << 30} {
		var all []*wheels.Wheel
		for size := 1; size <= 64; size++ {
			w, _ := made(t, size)
			all = append(all, w)
		}
		m := &model{}
		for range 150 {
			c := anyCall(r, m.last(), 40, span)
			want := m.do(c)
			l := m.has()
			for at, w := range all {
				if a := ask(w, c); a != want || w.Count() != len(l) {
					t.Fatalf("of %d: %v is %v, not %v", at+1, c, a, want)
				}
			}
		}
		for _, w := range all {
			m.hold(t, w)
		}
	}
}

// A Turn to a tick below Next tells none; one to Next tells all that are due at it, and these alone.
func TestTurnToNext(t *testing.T) {
	r := rand.New(rand.NewSource(155))
	for _, size := range sizes() {
		for _, span := range []int{4, 64, 300, 1 << 34} {
			w, m := made(t, size)
			for slot := range 60 {
				run(t, w, m, put(of(slot), r.Intn(span)))
			}
			for w.Count() > 0 {
				l := m.has()
				next, is := w.Next()
				if !is || next != l[0].tick {
					t.Fatal(next, is)
				}
				if next-1 >= m.last() {
					told(t, w, next-1)
					m.do(turn(next - 1))
				}
				var want []api.Handle
				for _, c := range l {
					if c.tick == next {
						want = append(want, c.h)
					}
				}
				told(t, w, next, want...)
				m.do(turn(next))
				m.hold(t, w)
			}
		}
	}
}

// R2: who asks changes nothing.
func TestAskingChangesNothing(t *testing.T) {
	w, m := made(t, 3)
	run(t, w, m, put(of(1), 5), put(of(2), 5), put(of(3), 8), turn(4), put(of(4), 1))
	for range 5 {
		m.hold(t, w)
		if w.Put(of(1), 9) != api.ErrHave || w.Put(of(9), -1) != api.ErrArg || w.Cut(of(9)) {
			t.Error("it is not refused")
		}
		if l, e := w.Turn(3); len(l) != 0 || e != api.ErrArg {
			t.Error(l, e)
		}
	}
	told(t, w, 7, of(4), of(1), of(2))
	told(t, w, 8, of(3))
}

// R2: what is told hangs on the calls alone: each time the same.
func TestTheSameEachTime(t *testing.T) {
	for range 50 {
		w, _ := made(t, 2)
		var want []api.Handle
		for slot := 63; slot >= 0; slot-- {
			ok(t, w.Put(of(slot), 10+slot%2))
		}
		for at := range 64 {
			want = append(want, of(at%32*2+at/32))
		}
		told(t, w, 20, want...)
	}
}

// R4: a list that was told is the caller's own.
func TestListsAreTheCallersOwn(t *testing.T) {
	w, _ := made(t, 2)
	ok(t, w.Put(of(1), 1), w.Put(of(2), 1), w.Put(of(3), 3), w.Put(of(4), 3), w.Put(of(5), 5))
	first, _ := w.Turn(1)
	if !slices.Equal(first, []api.Handle{of(1), of(2)}) {
		t.Fatal(first)
	}
	was := append(first, of(77), of(78), of(79))
	for at := range first {
		first[at] = of(99)
	}
	ok(t, w.Put(of(1), 3), w.Put(of(2), 4))
	second, _ := w.Turn(4)
	if !slices.Equal(second, []api.Handle{of(1), of(3), of(4), of(2)}) {
		t.Fatal(second)
	}
	if !slices.Equal(first, []api.Handle{of(99), of(99)}) || !slices.Equal(was[2:], []api.Handle{of(77), of(78), of(79)}) {
		t.Error(first, was)
	}
	second[0], second[1] = of(5), of(5)
	told(t, w, 5, of(5))
}

func TestWheelsGoOnByThemselves(t *testing.T) {
	x, mx := made(t, 2)
	y, my := made(t, 2)
	run(t, x, mx, put(of(1), 5), put(of(2), 6), turn(3))
	my.hold(t, y)
	run(t, y, my, put(of(1), 4), turn(2), cut(of(1)), put(of(2), 9), turn(9))
	mx.hold(t, x)
	z, mz := made(t, 2)
	mz.hold(t, z)
	run(t, x, mx, turn(5), turn(6))
	my.hold(t, y)
}

// R1, R3: a wheel that is none.
func TestWheelsThatAreNone(t *testing.T) {
	var none *wheels.Wheel
	for _, w := range []*wheels.Wheel{none, {}, new(wheels.Wheel)} {
		for range 2 {
			for _, tick := range append(wrong(0), 0, 1, 64, 1<<40) {
				if e := w.Put(of(1), tick); e != api.ErrNil {
					t.Errorf("of none: Put at %d: %d", tick, e)
				}
				if l, e := w.Turn(tick); len(l) != 0 || e != api.ErrNil {
					t.Errorf("of none: Turn(%d): %v, %d", tick, l, e)
				}
			}
			for _, h := range append(strange(), of(1)) {
				if due, is := w.Due(h); due != 0 || is || w.Cut(h) {
					t.Errorf("of none: %v: %d, %v", h, due, is)
				}
			}
			if next, is := w.Next(); next != 0 || is || w.Count() != 0 {
				t.Errorf("of none: %d, %v, %d", next, is, w.Count())
			}
		}
	}
}
