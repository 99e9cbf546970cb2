package slab_test

import (
	"math"
	"math/rand"
	"slices"
	"testing"

	"porter/api"
	"porter/slab"
)

// turn is a handle that was taken, and how its slot is since.
type turn struct {
	h   api.Handle
	how int
}

// model is what a slab is held against: it keeps no slots, but all turns.
type model struct {
	n     int
	turns []turn
}

// of is all turns of a slot.
func (m *model) of(slot int) []*turn {
	var l []*turn
	for i := range m.turns {
		if m.turns[i].h.Slot == slot {
			l = append(l, &m.turns[i])
		}
	}
	return l
}

// state is how a slot is since its last turn.
func (m *model) state(slot int) int {
	l := m.of(slot)
	switch {
	case slot < 0 || slot >= m.n:
		return -1
	case len(l) == 0:
		return 0
	}
	return l[len(l)-1].how
}

// gen is one more than how many turns of a slot have ended.
func (m *model) gen(slot int) uint32 {
	n := uint32(1)
	for _, x := range m.of(slot) {
		if x.how != 1 {
			n++
		}
	}
	return n
}

// take is Take, slowly.
func (m *model) take() (h api.Handle, e api.Errno) {
	for slot := range m.n {
		if m.state(slot) == 0 {
			h = api.Handle{Slot: slot, Gen: m.gen(slot)}
			m.turns = append(m.turns, turn{h, 1})
			return h, api.OK
		}
	}
	return api.Handle{}, api.ErrFull
}

// live tells whether a handle was taken, and has not ended.
func (m *model) live(h api.Handle) bool { return slices.Contains(m.turns, turn{h, 1}) }

// end is Give, or Retire.
func (m *model) end(h api.Handle, how int) api.Errno {
	at := slices.Index(m.turns, turn{h, 1})
	if at < 0 {
		return api.ErrStale
	}
	m.turns[at].how = how
	return api.OK
}

// free is Free, slowly.
func (m *model) free(slot int) api.Errno {
	if m.state(slot) != 2 {
		return api.ErrNone
	}
	l := m.of(slot)
	l[len(l)-1].how = 0
	return api.OK
}

// count is Count, slowly.
func (m *model) count() (l [3]int) {
	for slot := range m.n {
		l[m.state(slot)]++
	}
	return l
}

// key tells slabs apart that go on in unlike ways.
func (m *model) key() (k [4][2]int) {
	for slot := range m.n {
		k[slot] = [2]int{m.state(slot), int(m.gen(slot))}
	}
	return k
}

// counts are those of a slab.
func counts(s *slab.Slab) [3]int {
	free, live, gone := s.Count()
	return [3]int{free, live, gone}
}

// noSlots are numbers of slots that a slab of n does not have.
func noSlots(n int) []int {
	l := []int{-1, -2, -n, -255, -256, -257, math.MinInt, math.MinInt + 1, n, n + 1, n + 255, n + 256, 256, 257, 65536, math.MaxInt32, math.MaxInt - 1, math.MaxInt}
	for bits := 8; bits < 63; bits++ {
		l = append(l, 1<<bits, 1<<bits+n-1, -1<<bits, -1<<bits+n-1)
	}
	return slices.DeleteFunc(l, func(slot int) bool { return slot >= 0 && slot < n })
}

// gens are generations beside one.
func gens(gen uint32) []uint32 {
	l := []uint32{0, 1, 2, gen, gen - 1, gen + 1, math.MaxUint32, ^gen, -gen}
	for bits := range 32 {
		l = append(l, gen^1<<bits)
	}
	return l
}

// hold asks of a slab all that can be asked, and holds it against the slow one.
func (m *model) hold(t *testing.T, s *slab.Slab) {
	t.Helper()
	if s.Size() != m.n || counts(s) != m.count() {
		t.Fatalf("of %v: Size %d, Count %v, not %d, %v", m, s.Size(), counts(s), m.n, m.count())
	}
	for slot := -1; slot <= m.n; slot++ {
		if how, want := s.State(slot), m.state(slot); how != want {
			t.Fatalf("of %v: State(%d) is %d, not %d", m, slot, how, want)
		}
		last := m.gen(slot)
		for _, gen := range []uint32{0, 1, last - 1, last, last + 1} {
			m.holdLive(t, s, api.Handle{Slot: slot, Gen: gen})
		}
	}
	for _, x := range m.turns {
		m.holdLive(t, s, x.h)
	}
}

// holdLive holds Live of a handle against the slow one.
func (m *model) holdLive(t *testing.T, s *slab.Slab, h api.Handle) {
	t.Helper()
	if is, want := s.Live(h), m.live(h); is != want {
		t.Fatalf("of %v: Live(%v) is %v", m, h, is)
	}
}

// made is a slab, and what it is held against.
func made(t *testing.T, n int) (*slab.Slab, *model) {
	t.Helper()
	s, e := slab.New(n)
	if s == nil || e != api.OK {
		t.Fatalf("New(%d): %v, %d", n, s, e)
	}
	return s, &model{n: n}
}

// full is a slab all of whose slots are taken, and their handles.
func full(t *testing.T, n int) (*slab.Slab, *model, []api.Handle) {
	t.Helper()
	s, m := made(t, n)
	var l []api.Handle
	for range n {
		l = append(l, take(t, s, m))
	}
	return s, m, l
}

// take holds Take against the slow one.
func take(t *testing.T, s *slab.Slab, m *model) api.Handle {
	t.Helper()
	h, e := s.Take()
	if want, wantE := m.take(); h != want || e != wantE {
		t.Fatalf("of %v: Take is %v, %d, not %v, %d", m, h, e, want, wantE)
	}
	return h
}

// give holds Give against the slow one.
func give(t *testing.T, s *slab.Slab, m *model, h api.Handle) {
	t.Helper()
	if e, want := s.Give(h), m.end(h, 0); e != want {
		t.Fatalf("of %v: Give(%v) is %d, not %d", m, h, e, want)
	}
}

// retire holds Retire against the slow one.
func retire(t *testing.T, s *slab.Slab, m *model, h api.Handle) {
	t.Helper()
	if e, want := s.Retire(h), m.end(h, 2); e != want {
		t.Fatalf("of %v: Retire(%v) is %d, not %d", m, h, e, want)
	}
}

// free holds Free against the slow one.
func free(t *testing.T, s *slab.Slab, m *model, slot int) {
	t.Helper()
	if e, want := s.Free(slot), m.free(slot); e != want {
		t.Fatalf("of %v: Free(%d) is %d, not %d", m, slot, e, want)
	}
}

func TestTheExamplesOfTheDocument(t *testing.T) {
	s, _ := made(t, 2)
	taken := func(want api.Handle, wantE api.Errno) {
		t.Helper()
		if h, e := s.Take(); h != want || e != wantE {
			t.Errorf("Take is %v, %d, not %v, %d", h, e, want, wantE)
		}
	}
	is := func(e, want api.Errno) {
		t.Helper()
		if e != want {
			t.Errorf("%d, not %d", e, want)
		}
	}
	first, second := api.Handle{Slot: 0, Gen: 1}, api.Handle{Slot: 1, Gen: 1}
	taken(first, api.OK)
	taken(second, api.OK)
	taken(api.Handle{}, api.ErrFull)

	is(s.Retire(first), api.OK)
	if s.Live(first) {
		t.Error("it is live")
	}
	taken(api.Handle{}, api.ErrFull)
	is(s.Free(0), api.OK)
	taken(api.Handle{Slot: 0, Gen: 2}, api.OK)

	is(s.Give(second), api.OK)
	is(s.Give(second), api.ErrStale)
	is(s.Free(1), api.ErrNone)
}

func TestTheNumbersOfTheDocument(t *testing.T) {
	if slab.SlFree != 0 || slab.SlLive != 1 || slab.SlGone != 2 {
		t.Error(slab.SlFree, slab.SlLive, slab.SlGone)
	}
}

// P13.1

func TestNewOfEachSize(t *testing.T) {
	sizes := []int{math.MinInt, math.MinInt + 1, math.MaxInt, math.MaxInt - 1}
	for n := -1000; n <= 1000; n++ {
		sizes = append(sizes, n)
	}
	for bits := 10; bits < 63; bits++ {
		for n := -2; n <= 2; n++ {
			sizes = append(sizes, 1<<bits+n, -1<<bits+n)
		}
	}
	for _, n := range sizes {
		s, e := slab.New(n)
		if n < 1 || n > 256 {
			if s != nil || e != api.ErrArg {
				t.Errorf("New(%d): %v, %d", n, s, e)
			}
			continue
		}
		if s == nil || e != api.OK || s.Size() != n {
			t.Errorf("New(%d): %v, %d", n, s, e)
		}
	}
}

func TestAllSlotsAreFreeAtFirst(t *testing.T) {
	for n := 1; n <= api.MaxSlots; n++ {
		s, m := made(t, n)
		if counts(s) != [3]int{n, 0, 0} {
			t.Fatalf("of %d: %v", n, counts(s))
		}
		m.hold(t, s)
		// The generation is right, but nobody took the slot.
		for slot := range n {
			if h := (api.Handle{Slot: slot, Gen: 1}); s.Live(h) || s.Give(h) != api.ErrStale || s.Retire(h) != api.ErrStale || s.Free(slot) != api.ErrNone {
				t.Fatalf("of %d: %v", n, h)
			}
		}
		m.hold(t, s)
	}
}

func TestStateOfNoSlot(t *testing.T) {
	for n := 1; n <= api.MaxSlots; n++ {
		s, _, l := full(t, n)
		if e := s.Retire(l[n-1]); e != api.OK {
			t.Fatal(e)
		}
		for _, slot := range noSlots(n) {
			if how := s.State(slot); how != -1 {
				t.Fatalf("of %d: State(%d) is %d", n, slot, how)
			}
		}
	}
}

// Each of so many free, live and gone slots.
func TestStateAndCountGoAlong(t *testing.T) {
	for _, n := range []int{1, 2, 3, 16, 17} {
		for given := range n + 1 {
			for retired := range n - given + 1 {
				s, m, l := full(t, n)
				for i, h := range l {
					switch {
					case i%n < given:
						give(t, s, m, h)
					case i%n < given+retired:
						retire(t, s, m, h)
					}
				}
				if want := [3]int{given, n - given - retired, retired}; counts(s) != want {
					t.Fatalf("%v, not %v", counts(s), want)
				}
				m.hold(t, s)
			}
		}
	}
}

func TestCountOfTheGreatest(t *testing.T) {
	s, m, l := full(t, api.MaxSlots)
	if counts(s) != [3]int{0, 256, 0} {
		t.Fatal(counts(s))
	}
	for _, h := range l {
		retire(t, s, m, h)
	}
	if counts(s) != [3]int{0, 0, 256} {
		t.Fatal(counts(s))
	}
	m.hold(t, s)
	for slot := range 256 {
		free(t, s, m, slot)
	}
	if counts(s) != [3]int{256, 0, 0} {
		t.Fatal(counts(s))
	}
	m.hold(t, s)
}

func TestSizeStays(t *testing.T) {
	s, m, l := full(t, 3)
	retire(t, s, m, l[0])
	give(t, s, m, l[2])
	if s.Size() != 3 {
		t.Error(s.Size())
	}
}

// P13.2

func TestTakeOfAll(t *testing.T) {
	for n := 1; n <= api.MaxSlots; n++ {
		s, m := made(t, n)
		for slot := range n {
			h, e := s.Take()
			if h != (api.Handle{Slot: slot, Gen: 1}) || e != api.OK || !s.Live(h) || s.State(slot) != slab.SlLive {
				t.Fatalf("of %d: Take is %v, %d", n, h, e)
			}
			m.take()
		}
		for range 3 {
			if h, e := s.Take(); h != (api.Handle{}) || e != api.ErrFull {
				t.Fatalf("of %d: Take is %v, %d", n, h, e)
			}
		}
		m.hold(t, s)
	}
}

// Each slot of few is free, live or gone: the free ones are taken, the lowest first.
func TestTakeOfTheLowestOfAnyFreeOnes(t *testing.T) {
	const n = 7
	all := 1
	for range n {
		all *= 3
	}
	for which := range all {
		s, m, l := full(t, n)
		var want []int
		for slot, rest := 0, which; slot < n; slot, rest = slot+1, rest/3 {
			switch rest % 3 {
			case 0:
				give(t, s, m, l[slot])
				want = append(want, slot)
			case 2:
				retire(t, s, m, l[slot])
			}
		}
		for _, slot := range want {
			if h := take(t, s, m); h != (api.Handle{Slot: slot, Gen: 2}) {
				t.Fatalf("%v, not of %d", h, slot)
			}
		}
		if h, e := s.Take(); h != (api.Handle{}) || e != api.ErrFull {
			t.Fatalf("Take is %v, %d", h, e)
		}
		m.hold(t, s)
	}
}

// The lowest one is it, not the one that was given first, or last.
func TestTakeOfTheLowestOfTwo(t *testing.T) {
	s, m, l := full(t, 40)
	for a := range l {
		for b := range l {
			if a == b {
				continue
			}
			give(t, s, m, l[a])
			give(t, s, m, l[b])
			low, high := take(t, s, m), take(t, s, m)
			if low.Slot != min(a, b) || high.Slot != max(a, b) {
				t.Fatalf("of %d, %d: %v, %v", a, b, low, high)
			}
			l[low.Slot], l[high.Slot] = low, high
		}
	}
}

func TestTakeOfTheOneThatIsFree(t *testing.T) {
	s, _, l := full(t, api.MaxSlots)
	for slot, was := range l {
		if e := s.Give(was); e != api.OK {
			t.Fatal(e)
		}
		if h, e := s.Take(); h != (api.Handle{Slot: slot, Gen: 2}) || e != api.OK {
			t.Fatalf("Take is %v, %d, not of %d", h, e, slot)
		}
		if h, e := s.Take(); h != (api.Handle{}) || e != api.ErrFull {
			t.Fatalf("Take is %v, %d", h, e)
		}
	}
}

// strange are handles that are none of a slab of n whose slots are of a generation.
func strange(n int, gen uint32) []api.Handle {
	var l []api.Handle
	for _, slot := range noSlots(n) {
		for _, one := range gens(gen) {
			l = append(l, api.Handle{Slot: slot, Gen: one})
		}
	}
	for slot := range n {
		for _, one := range gens(gen) {
			if one != gen {
				l = append(l, api.Handle{Slot: slot, Gen: one})
			}
		}
	}
	return l
}

// R5 too: what is refused changes nothing.
func TestStrangeHandles(t *testing.T) {
	for _, n := range []int{1, 2, 3, 64, 255, 256} {
		s, m, l := full(t, n)
		for round := uint32(1); round <= 3; round++ {
			for _, h := range strange(n, round) {
				if s.Live(h) {
					t.Fatalf("of %d: Live(%v)", n, h)
				}
				if e := s.Give(h); e != api.ErrStale {
					t.Fatalf("of %d: Give(%v) is %d", n, h, e)
				}
				if e := s.Retire(h); e != api.ErrStale {
					t.Fatalf("of %d: Retire(%v) is %d", n, h, e)
				}
			}
			m.hold(t, s)
			for i, h := range l {
				if !s.Live(h) {
					t.Fatalf("of %d: %v is not live", n, h)
				}
				give(t, s, m, h)
				l[i] = take(t, s, m)
			}
		}
	}
}

// P13.3

func TestGiveAndRetireOfEachSlot(t *testing.T) {
	for _, n := range []int{1, 2, 3, 16, 256} {
		for slot := range n {
			s, m, l := full(t, n)
			h := l[slot]
			give(t, s, m, h)
			if s.State(slot) != slab.SlFree || s.Live(h) || counts(s) != [3]int{1, n - 1, 0} {
				t.Fatalf("of %d: Give(%v): %d, %v", n, h, s.State(slot), counts(s))
			}
			if a, b, c := s.Give(h), s.Retire(h), s.Free(slot); a != api.ErrStale || b != api.ErrStale || c != api.ErrNone {
				t.Fatalf("of %d: %v is given: %d, %d, %d", n, h, a, b, c)
			}
			h = take(t, s, m)
			retire(t, s, m, h)
			if s.State(slot) != slab.SlGone || s.Live(h) || counts(s) != [3]int{0, n - 1, 1} {
				t.Fatalf("of %d: Retire(%v): %d, %v", n, h, s.State(slot), counts(s))
			}
			if a, b := s.Give(h), s.Retire(h); a != api.ErrStale || b != api.ErrStale {
				t.Fatalf("of %d: %v is retired: %d, %d", n, h, a, b)
			}
			m.hold(t, s)
		}
	}
}

// The next generation's handle is not live ahead of its Take, in whichever state the slot is.
func TestTheNextHandleIsNotLiveYet(t *testing.T) {
	s, m, l := full(t, 3)
	next := func(slot int) bool {
		h := api.Handle{Slot: slot, Gen: 2}
		return s.Live(h) || s.Give(h) != api.ErrStale || s.Retire(h) != api.ErrStale
	}
	for slot, h := range l {
		if next(slot) {
			t.Error("live:", slot)
		}
		if slot%2 == 0 {
			retire(t, s, m, h)
			if next(slot) {
				t.Error("gone:", slot)
			}
			free(t, s, m, slot)
		} else {
			give(t, s, m, h)
		}
		if next(slot) {
			t.Error("free:", slot)
		}
	}
	m.hold(t, s)
}

func TestFreeOfEachSlot(t *testing.T) {
	for _, n := range []int{1, 2, 3, 16, 256} {
		for slot := range n {
			s, m, l := full(t, n)
			free(t, s, m, slot) // it is live
			retire(t, s, m, l[slot])
			for other := range n {
				if e := s.Free(other); other != slot && e != api.ErrNone {
					t.Fatalf("of %d: Free(%d) is %d", n, other, e)
				} else if other == slot && e != api.OK {
					t.Fatalf("of %d: Free(%d) is %d", n, other, e)
				}
			}
			m.free(slot)
			if s.State(slot) != slab.SlFree || counts(s) != [3]int{1, n - 1, 0} {
				t.Fatalf("of %d: Free(%d): %d, %v", n, slot, s.State(slot), counts(s))
			}
			free(t, s, m, slot) // it is free
			if h := take(t, s, m); h != (api.Handle{Slot: slot, Gen: 2}) {
				t.Fatalf("of %d: Take is %v", n, h)
			}
			m.hold(t, s)
		}
	}
}

func TestFreeOfNoSlot(t *testing.T) {
	for n := 1; n <= api.MaxSlots; n++ {
		s, m, l := full(t, n)
		retire(t, s, m, l[0])
		if n > 1 {
			retire(t, s, m, l[n-1])
		}
		for _, slot := range noSlots(n) {
			if e := s.Free(slot); e != api.ErrNone {
				t.Fatalf("of %d: Free(%d) is %d", n, slot, e)
			}
		}
		m.hold(t, s)
	}
}

// Slots are free again in the order in which they are freed; they are taken from the lowest on.
func TestFreeInAnyOrder(t *testing.T) {
	r := rand.New(rand.NewSource(131))
	for range 50 {
		s, m, l := full(t, 9)
		for _, h := range l {
			retire(t, s, m, h)
		}
		for _, slot := range r.Perm(9) {
			free(t, s, m, slot)
			m.hold(t, s)
			if r.Intn(3) == 0 {
				take(t, s, m)
			}
		}
	}
}

// A generation goes on by one for each Give and each Retire, and for nothing
// else; it has more than 16 bits.
func TestGenerationsGoOn(t *testing.T) {
	s, _ := made(t, 2)
	by := rand.New(rand.NewSource(132))
	first, e := s.Take()
	if e != api.OK {
		t.Fatal(e)
	}
	for gen := uint32(1); gen < 200000; gen++ {
		h, e := s.Take()
		if h != (api.Handle{Slot: 1, Gen: gen}) || e != api.OK {
			t.Fatalf("Take is %v, %d, not of %d", h, e, gen)
		}
		if by.Intn(2) == 0 {
			e = s.Give(h)
		} else {
			e = max(s.Retire(h), s.Free(1))
		}
		if e != api.OK {
			t.Fatalf("of %v: %d", h, e)
		}
		if !s.Live(first) || s.Live(h) || s.Live(api.Handle{Slot: 1, Gen: gen + 1}) {
			t.Fatalf("behind %v: which is live", h)
		}
	}
}

// Each slot has a generation of its own.
func TestGenerationsAreASlotsOwn(t *testing.T) {
	s, m, l := full(t, 8)
	for slot := range l {
		for range slot {
			give(t, s, m, l[slot])
			l[slot] = take(t, s, m)
		}
	}
	for slot, h := range l {
		if h != (api.Handle{Slot: slot, Gen: uint32(1 + slot)}) {
			t.Errorf("of %d: %v", slot, h)
		}
	}
	m.hold(t, s)
}

// P13.4

// call is one that changes a slab.
type call struct {
	what string
	h    api.Handle
}

// calls are all of a slab of n, by handles up to a generation.
func calls(n int, gen uint32) []call {
	l := []call{{what: "Take"}}
	for slot := -1; slot <= n; slot++ {
		l = append(l, call{"Free", api.Handle{Slot: slot}})
		for one := range gen + 1 {
			h := api.Handle{Slot: slot, Gen: one}
			l = append(l, call{"Give", h}, call{"Retire", h})
		}
	}
	return l
}

// do calls both, and holds them against each other.
func (c call) do(t *testing.T, s *slab.Slab, m *model) {
	t.Helper()
	switch c.what {
	case "Take":
		take(t, s, m)
	case "Give":
		give(t, s, m, c.h)
	case "Retire":
		retire(t, s, m, c.h)
	case "Free":
		free(t, s, m, c.h.Slot)
	}
}

// Every slab that few calls make, up to a generation, and every call of each.
func TestEveryCallOfEverySlab(t *testing.T) {
	for n, last := range map[int]uint32{1: 6, 2: 4, 3: 3} {
		had := map[[4][2]int]bool{}
		paths := [][]call{nil}
		for len(paths) > 0 {
			path := paths[0]
			paths = paths[1:]
			for _, c := range calls(n, last+1) {
				s, m := made(t, n)
				for _, ahead := range path {
					ahead.do(t, s, m)
				}
				c.do(t, s, m)
				m.hold(t, s)
				k := m.key()
				late := slices.ContainsFunc(k[:], func(x [2]int) bool { return x[1] > int(last) })
				if !had[k] && !late {
					had[k] = true
					paths = append(paths, append(slices.Clone(path), c))
				}
			}
		}
		// A slot that was never taken is free, and so are all behind it; one that
		// was is how it may be of each generation, but of the first one it is live.
		want := 1
		for range n {
			want = 1 + (3*int(last)-2)*want
		}
		if len(had) != want {
			t.Errorf("of %d: %d slabs, not %d", n, len(had), want)
		}
	}
}

// anyHandle is one that was taken, mostly, or one beside it.
func anyHandle(r *rand.Rand, m *model) api.Handle {
	h := api.Handle{Slot: r.Intn(m.n+2) - 1, Gen: uint32(r.Intn(4))}
	if len(m.turns) > 0 && r.Intn(8) > 0 {
		h = m.turns[len(m.turns)-1-r.Intn(min(len(m.turns), 2*m.n))].h
	}
	if r.Intn(8) == 0 {
		h.Gen += uint32(r.Intn(3)) - 1
	}
	return h
}

// anyCall is one of a slab.
func anyCall(r *rand.Rand, m *model) call {
	h := anyHandle(r, m)
	switch n := r.Intn(10); {
	case n < 4:
		return call{what: "Take"}
	case n < 6:
		return call{"Give", h}
	case n < 8:
		return call{"Retire", h}
	}
	return call{"Free", h}
}

// follows asks of a slab for all that follows from the promises.
func follows(t *testing.T, s *slab.Slab, m *model) {
	t.Helper()
	c := counts(s)
	if c[0]+c[1]+c[2] != s.Size() {
		t.Fatalf("of %d slots are %v", s.Size(), c)
	}
	had := map[api.Handle]bool{}
	live := 0
	for _, x := range m.turns {
		if had[x.h] {
			t.Fatal("taken twice:", x.h)
		}
		had[x.h] = true
		if s.Live(x.h) {
			live++
		}
	}
	if live != c[1] {
		t.Fatalf("%d handles are live, of %v slots", live, c)
	}
}

func TestWhatFollows(t *testing.T) {
	r := rand.New(rand.NewSource(133))
	for _, n := range []int{1, 2, 3, 5, 8, 20} {
		for range 15 {
			s, m := made(t, n)
			for range 120 {
				c := anyCall(r, m)
				c.do(t, s, m)
				m.hold(t, s)
				follows(t, s, m)
			}
		}
	}
}

func TestWhatFollowsOfTheGreatest(t *testing.T) {
	r := rand.New(rand.NewSource(134))
	s, m := made(t, api.MaxSlots)
	for range 3 {
		for range 256 {
			c := anyCall(r, m)
			c.do(t, s, m)
		}
		m.hold(t, s)
		follows(t, s, m)
	}
}

// A handle that was given back, or retired, stays so, whoever has its slot since.
func TestNeverLiveAgain(t *testing.T) {
	s, m, l := full(t, 2)
	var ended []api.Handle
	for round := range 100 {
		for i, h := range l {
			if (round+i)%2 == 0 {
				give(t, s, m, h)
			} else {
				retire(t, s, m, h)
				free(t, s, m, h.Slot)
			}
			ended = append(ended, h)
			l[i] = take(t, s, m)
		}
		for _, h := range ended {
			if s.Live(h) || s.Give(h) != api.ErrStale || s.Retire(h) != api.ErrStale {
				t.Fatal("again:", h)
			}
		}
		for _, h := range l {
			if !s.Live(h) || slices.Contains(ended, h) {
				t.Fatal("not taken:", h)
			}
		}
	}
}

func TestGoneSlotsAreNotTaken(t *testing.T) {
	for n := 1; n <= 64; n++ {
		s, m, l := full(t, n)
		for _, h := range l {
			retire(t, s, m, h)
			if h, e := s.Take(); h != (api.Handle{}) || e != api.ErrFull {
				t.Fatalf("of %d: Take is %v, %d", n, h, e)
			}
		}
		for slot := n - 1; slot >= 0; slot-- {
			free(t, s, m, slot)
			if h := take(t, s, m); h != (api.Handle{Slot: slot, Gen: 2}) {
				t.Fatalf("of %d: Take is %v, not of %d", n, h, slot)
			}
		}
		m.hold(t, s)
	}
}

// R2: who asks changes nothing.
func TestAskingChangesNothing(t *testing.T) {
	s, m, l := full(t, 4)
	retire(t, s, m, l[1])
	give(t, s, m, l[2])
	for range 5 {
		m.hold(t, s)
	}
	if h := take(t, s, m); h != (api.Handle{Slot: 2, Gen: 2}) {
		t.Error(h)
	}
}

func TestSlabsGoOnByThemselves(t *testing.T) {
	x, mx, l := full(t, 3)
	y, my := made(t, 3)
	my.hold(t, y)
	take(t, y, my)
	retire(t, x, mx, l[0])
	give(t, x, mx, l[1])
	mx.hold(t, x)
	my.hold(t, y)
	z, mz := made(t, 3)
	mz.hold(t, z)
}

// R1, R3: slabs that are none.
func TestSlabsThatAreNone(t *testing.T) {
	var none *slab.Slab
	for _, s := range []*slab.Slab{none, {}, new(slab.Slab)} {
		for range 2 {
			if h, e := s.Take(); h != (api.Handle{}) || e != api.ErrNil {
				t.Errorf("Take is %v, %d", h, e)
			}
			for _, slot := range append(noSlots(1), 0) {
				for _, gen := range gens(0) {
					h := api.Handle{Slot: slot, Gen: gen}
					if s.Live(h) || s.Give(h) != api.ErrNil || s.Retire(h) != api.ErrNil {
						t.Errorf("of none: %v", h)
					}
				}
				if e, how := s.Free(slot), s.State(slot); e != api.ErrNil || how != -1 {
					t.Errorf("of none: Free(%d) is %d, State %d", slot, e, how)
				}
			}
			if counts(s) != [3]int{} || s.Size() != 0 {
				t.Error(counts(s), s.Size())
			}
		}
	}
}
