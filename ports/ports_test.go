package ports_test

import (
	"math/rand"
	"slices"
	"strconv"
	"testing"

	"porter/api"
	"porter/ports"
)

// call is one that changes ports: Take of a wish, Fix of two endpoints, or Confirm, Drop, Release of an outer one.
type call struct {
	what    string
	proto   uint8
	in, out api.Endpoint
	w       ports.Wish
}

func take(w ports.Wish) call { return call{what: "Take", w: w} }
func fix(proto uint8, in, out api.Endpoint) call {
	return call{what: "Fix", proto: proto, in: in, out: out}
}
func turn(what string, p uint8, o api.Endpoint) call { return call{what: what, proto: p, out: o} }
func confirm(proto uint8, out api.Endpoint) call     { return turn("Confirm", proto, out) }
func drop(proto uint8, out api.Endpoint) call        { return turn("Drop", proto, out) }
func release(proto uint8, out api.Endpoint) call     { return turn("Release", proto, out) }

// outer is the address of most wishes.
const outer = api.Addr(0x09090909)

// in is an endpoint of the host 10.0.0.n, out one of 9.9.9.9.
func in(n, port int) api.Endpoint {
	return api.Endpoint{IP: 0x0A000000 + api.Addr(n), Port: uint16(port)}
}
func out(port int) api.Endpoint { return api.Endpoint{IP: outer, Port: uint16(port)} }

// wish is one of UDP.
func wish(in api.Endpoint, from, to, draw int) ports.Wish {
	return ports.Wish{Proto: api.PrUDP, In: in, IP: outer, From: uint16(from), To: uint16(to), Draw: uint16(draw)}
}

// answer is that of a call.
type answer struct {
	out api.Endpoint
	e   api.Errno
}

// change is what a call that was done did to an outer endpoint.
type change struct {
	proto      uint8
	out, in    api.Endpoint // in is that of one that is held
	live, held int
}

// model is what ports are held against: it keeps no rows, but all that was
// done, and goes through it.
type model struct{ log []change }

// owner is the row of an outer endpoint.
func (m *model) owner(proto uint8, out api.Endpoint) (ports.Row, bool) {
	r := ports.Row{Proto: proto, Out: out}
	for _, c := range m.log {
		if c.proto != proto || c.out != out {
			continue
		}
		r.Live += c.live
		r.Held += c.held
		if c.held > 0 {
			r.In = c.in
		}
	}
	if r.Live == 0 && r.Held == 0 {
		return ports.Row{}, false
	}
	return r, true
}

// of is the row of an inner endpoint.
func (m *model) of(proto uint8, in api.Endpoint) (ports.Row, bool) {
	for _, c := range m.log {
		if r, ok := m.owner(c.proto, c.out); ok && r.Proto == proto && r.In == in {
			return r, true
		}
	}
	return ports.Row{}, false
}

// ahead is whether a row stands ahead of another one.
func ahead(a, b ports.Row) bool {
	if a.Proto != b.Proto {
		return a.Proto < b.Proto
	}
	if a.Out.IP != b.Out.IP {
		return a.Out.IP < b.Out.IP
	}
	return a.Out.Port < b.Out.Port
}

// rows is all rows, as they stand.
func (m *model) rows() []ports.Row {
	var l []ports.Row
	for _, c := range m.log {
		r, ok := m.owner(c.proto, c.out)
		if !ok || slices.Contains(l, r) {
			continue
		}
		l = append(l, r)
		for to := len(l) - 1; to > 0 && ahead(l[to], l[to-1]); to-- {
			l[to], l[to-1] = l[to-1], l[to]
		}
	}
	return l
}

// tried is the ports that are tried for a wish that may be, some of them more than once.
func tried(w ports.Wish) []int {
	from, to, own := int(w.From), int(w.To), int(w.In.Port)
	first := from + int(w.Draw)%(to-from+1)
	var round, alike []int
	for port := first; port <= to; port++ {
		round = append(round, port)
	}
	for port := from; port < first; port++ {
		round = append(round, port)
	}
	for _, port := range round {
		if (port-own)%2 == 0 {
			alike = append(alike, port)
		}
	}
	var l []int
	if own >= from && own <= to {
		l = append(l, own)
	}
	return append(append(l, alike...), round...)
}

// take is Take, slowly.
func (m *model) take(w ports.Wish) answer {
	if w.From == 0 || w.To < w.From {
		return answer{e: api.ErrArg}
	}
	if r, ok := m.of(w.Proto, w.In); ok {
		if r.Out.IP != w.IP || r.Out.Port < w.From || r.Out.Port > w.To {
			return answer{e: api.ErrHave}
		}
		m.log = append(m.log, change{w.Proto, r.Out, w.In, 0, 1})
		return answer{out: r.Out}
	}
	for _, port := range tried(w) {
		out := api.Endpoint{IP: w.IP, Port: uint16(port)}
		if _, ok := m.owner(w.Proto, out); !ok {
			m.log = append(m.log, change{w.Proto, out, w.In, 0, 1})
			return answer{out: out}
		}
	}
	return answer{e: api.ErrFull}
}

// do is a call, slowly.
func (m *model) do(c call) answer {
	if c.what == "Take" {
		return m.take(c.w)
	}
	has, isHas := m.of(c.proto, c.in)
	r, isThere := m.owner(c.proto, c.out)
	did := change{proto: c.proto, out: c.out}
	switch {
	case c.what == "Fix" && isHas && has.Out != c.out:
		return answer{e: api.ErrHave}
	case c.what == "Fix" && isThere && r.In != c.in:
		return answer{e: api.ErrBusy}
	case c.what == "Fix":
		did.held, did.in = 1, c.in
	case !isThere, c.what == "Release" && r.Live == 0, c.what != "Release" && r.Held == 0:
		return answer{e: api.ErrNone}
	case c.what == "Confirm":
		did.held, did.live = -1, 1
	case c.what == "Drop":
		did.held = -1
	case c.what == "Release":
		did.live = -1
	}
	m.log = append(m.log, did)
	return answer{}
}

// ask is a call of ports.
func ask(p *ports.Ports, c call) answer {
	switch c.what {
	case "Take":
		out, e := p.Take(c.w)
		return answer{out, e}
	case "Fix":
		return answer{e: p.Fix(c.proto, c.in, c.out)}
	case "Confirm":
		return answer{e: p.Confirm(c.proto, c.out)}
	case "Drop":
		return answer{e: p.Drop(c.proto, c.out)}
	}
	return answer{e: p.Release(c.proto, c.out)}
}

// do calls both, and holds them against each other.
func (c call) do(t *testing.T, p *ports.Ports, m *model) answer {
	t.Helper()
	was := len(m.log)
	a := ask(p, c)
	if want := m.do(c); a != want {
		t.Fatalf("of %v: %v is %v, not %v", m.log[:was], c, a, want)
	}
	return a
}

// hold asks of ports all that can be asked, and holds it against the slow ones.
func (m *model) hold(t *testing.T, p *ports.Ports) {
	t.Helper()
	l := m.rows()
	if p.Count() != len(l) || !slices.Equal(p.List(), l) {
		t.Fatalf("of %v: %d, %v, not %v", m.log, p.Count(), p.List(), l)
	}
	protos, ends := []uint8{0, 255}, []api.Endpoint{{}, in(99, 99), out(99)}
	for _, c := range m.log {
		for _, end := range []api.Endpoint{c.in, c.out} {
			if !slices.Contains(ends, end) {
				ends = append(ends, end)
			}
		}
		if !slices.Contains(protos, c.proto) {
			protos = append(protos, c.proto)
		}
	}
	for _, proto := range protos {
		for _, end := range ends {
			want, is := m.of(proto, end)
			if r, ok := p.Of(proto, end); r != want || ok != is {
				t.Fatalf("of %v: Of(%d, %v) is %v, %v, not %v, %v", m.log, proto, end, r, ok, want, is)
			}
			want, is = m.owner(proto, end)
			if r, ok := p.Owner(proto, end); r != want || ok != is {
				t.Fatalf("of %v: Owner(%d, %v) is %v, %v, not %v, %v", m.log, proto, end, r, ok, want, is)
			}
		}
	}
}

// run does calls, each of which is as the slow one's.
func run(t *testing.T, p *ports.Ports, m *model, l ...call) {
	t.Helper()
	for _, c := range l {
		c.do(t, p, m)
		m.hold(t, p)
	}
}

// gets is what Take is to tell.
func gets(t *testing.T, p *ports.Ports, w ports.Wish, port int) {
	t.Helper()
	want := api.Endpoint{IP: w.IP, Port: uint16(port)}
	if out, e := p.Take(w); out != want || e != api.OK {
		t.Fatalf("Take(%v): %v, %d, not %v", w, out, e, want)
	}
}

// fails is the error that Take is to tell, without an endpoint.
func fails(t *testing.T, p *ports.Ports, w ports.Wish, want api.Errno) {
	t.Helper()
	was := p.List()
	if out, e := p.Take(w); out != (api.Endpoint{}) || e != want {
		t.Fatalf("Take(%v): %v, %d, not %d", w, out, e, want)
	}
	if !slices.Equal(p.List(), was) {
		t.Fatalf("Take(%v) made %v of %v", w, p.List(), was)
	}
}

// are is the errors that calls are to tell.
func are(t *testing.T, want api.Errno, l ...api.Errno) {
	t.Helper()
	for at, e := range l {
		if e != want {
			t.Fatalf("the call %d: %d, not %d", at, e, want)
		}
	}
}

// ok is whether calls are to be api.OK.
func ok(t *testing.T, l ...api.Errno) {
	t.Helper()
	are(t, api.OK, l...)
}

func TestTheExamplesOfTheDocument(t *testing.T) {
	p := ports.New()
	gets(t, p, wish(in(1, 4000), 1000, 2000, 5), 1006)
	gets(t, p, wish(in(2, 1006), 1000, 2000, 5), 1008)
	gets(t, p, wish(in(3, 1500), 1000, 2000, 5), 1500)
	gets(t, p, wish(in(1, 4000), 1000, 2000, 5), 1006)
	if r, is := p.Of(api.PrUDP, in(1, 4000)); r.Held != 2 || r.Live != 0 || r.Out != out(1006) || !is {
		t.Error(r, is)
	}
	gets(t, p, wish(in(4, 9), 7, 7, 5), 7)
	fails(t, p, wish(in(5, 9), 7, 7, 5), api.ErrFull)
}

// P16.1

func TestNoRowsAtFirst(t *testing.T) {
	p, m := ports.New(), &model{}
	m.hold(t, p)
	for _, proto := range []uint8{0, 1, 6, 17, 255} {
		for _, end := range ends() {
			run(t, p, m, confirm(proto, end), drop(proto, end), release(proto, end))
		}
	}
	if p.Count() != 0 || len(p.List()) != 0 {
		t.Error(p.Count())
	}
}

// edges is ranges of ports, at all edges, that may be, and are short.
func edges() [][2]int {
	var l [][2]int
	for many := 1; many <= 7; many++ {
		for _, from := range []int{1, 2, 3, 254, 255, 256, 1000, 32765, 32766, 32767, 32768} {
			l = append(l, [2]int{from, from + many - 1})
		}
		l = append(l, [2]int{65536 - many, 65535}, [2]int{65535 - many, 65534})
	}
	return l
}

// near is own ports that are in, beside and far from a range.
func near(from, to int) []int {
	l := []int{0, 1, 2, 4000, 4001, 65534, 65535}
	for port := from - 2; port <= to+2; port++ {
		if port >= 0 && port <= 65535 {
			l = append(l, port)
		}
	}
	return l
}

// draws is some for so many ports.
func draws(many int) []int {
	l := []int{255, 256, 32767, 32768, 65534, 65535}
	for draw := range 2*many + 2 {
		l = append(l, draw)
	}
	return l
}

// once is numbers, each of them where it stands first.
func once(l []int) []int {
	var to []int
	for _, n := range l {
		if !slices.Contains(to, n) {
			to = append(to, n)
		}
	}
	return to
}

// Inner endpoints that have one port get what is tried for each of them, one by one.
func TestTheOrderInWhichPortsAreTried(t *testing.T) {
	for _, x := range edges() {
		from, to := x[0], x[1]
		for _, draw := range draws(to - from + 1) {
			for _, own := range near(from, to) {
				p := ports.New()
				l := once(tried(wish(in(0, own), from, to, draw)))
				if len(l) != to-from+1 {
					t.Fatal(l)
				}
				for n, port := range l {
					gets(t, p, wish(in(n, own), from, to, draw), port)
				}
				fails(t, p, wish(in(300, own), from, to, draw), api.ErrFull)
			}
		}
	}
}

// Ranges, and what is told of them one by one, as told by the chapter's words alone.
func TestSomeOrders(t *testing.T) {
	for _, c := range []struct {
		own, from, to, draw int
		want                []int
	}{
		{4000, 1000, 1003, 0, []int{1000, 1002, 1001, 1003}},
		{4000, 1000, 1003, 1, []int{1002, 1000, 1001, 1003}},
		{4000, 1000, 1003, 2, []int{1002, 1000, 1003, 1001}},
		{4000, 1000, 1003, 3, []int{1000, 1002, 1003, 1001}},
		{4000, 1000, 1003, 4, []int{1000, 1002, 1001, 1003}},
		{4001, 1000, 1003, 0, []int{1001, 1003, 1000, 1002}},
		{4001, 1000, 1003, 2, []int{1003, 1001, 1002, 1000}},
		{4001, 1000, 1003, 3, []int{1003, 1001, 1000, 1002}},
		{4001, 1000, 1003, 7, []int{1003, 1001, 1000, 1002}},
		{1002, 1000, 1003, 0, []int{1002, 1000, 1001, 1003}},
		{1003, 1000, 1003, 1, []int{1003, 1001, 1002, 1000}},
		{1001, 1000, 1003, 3, []int{1001, 1003, 1000, 1002}},
		{1000, 1000, 1003, 1, []int{1000, 1002, 1001, 1003}},
		{0, 1, 3, 0, []int{2, 1, 3}},
		{0, 1, 3, 2, []int{2, 3, 1}},
		{9, 1, 3, 1, []int{3, 1, 2}},
		{4, 1, 3, 1, []int{2, 3, 1}},
		{8, 65533, 65535, 65535, []int{65534, 65533, 65535}},
		{7, 65533, 65535, 65534, []int{65535, 65533, 65534}},
		{7, 5, 5, 65535, []int{5}},
		{8, 5, 5, 1, []int{5}},
		{5, 5, 5, 0, []int{5}},
	} {
		p := ports.New()
		for n, port := range c.want {
			gets(t, p, wish(in(n, c.own), c.from, c.to, c.draw), port)
		}
		fails(t, p, wish(in(99, c.own), c.from, c.to, c.draw), api.ErrFull)
	}
}

// Of each range, whichever of its ports others have.
func TestWhateverOthersHave(t *testing.T) {
	for _, x := range [][2]int{{1, 5}, {1000, 1005}, {65530, 65535}} {
		from, to := x[0], x[1]
		for others := range 1 << (to - from + 1) {
			for draw := range to - from + 1 {
				for own := from - 1; own <= min(to+1, 65535); own++ {
					p, m := ports.New(), &model{}
					for n := range to - from + 1 {
						if others>>n&1 == 1 {
							ok(t, p.Fix(api.PrUDP, in(n, 1), out(from+n)))
							m.do(fix(api.PrUDP, in(n, 1), out(from+n)))
						}
					}
					take(wish(in(50, own), from, to, draw)).do(t, p, m)
				}
			}
		}
	}
}

// All ports that there are.
func TestTheWidestRange(t *testing.T) {
	full := ports.New()
	for port := 1; port <= 65535; port++ {
		ok(t, full.Fix(api.PrUDP, in(port, 3), out(port)))
	}
	if full.Count() != 65535 {
		t.Fatal(full.Count())
	}
	for _, own := range []int{0, 1, 2, 65534, 65535} {
		for _, draw := range []int{0, 1, 32768, 65533, 65534, 65535} {
			w := wish(in(0, own), 1, 65535, draw)
			if out, e := full.Take(w); out != (api.Endpoint{}) || e != api.ErrFull {
				t.Fatalf("Take(%v): %v, %d", w, out, e)
			}
		}
	}
	for _, c := range []struct {
		own, draw int
		free      []int // in the order in which they are got
	}{
		{0, 0, []int{2, 30000, 65534, 1, 30001, 65535}},
		{0, 65535, []int{2, 30000, 65534, 1, 30001, 65535}},
		{0, 65534, []int{2, 30000, 65534, 65535, 1, 30001}},
		{0, 65533, []int{65534, 2, 30000, 65535, 1, 30001}},
		{0, 29999, []int{30000, 65534, 2, 30001, 65535, 1}},
		{9, 29999, []int{30001, 65535, 1, 30000, 65534, 2}},
		{9, 65534, []int{65535, 1, 30001, 2, 30000, 65534}},
		{65535, 5, []int{65535, 30001, 1, 30000, 65534, 2}},
		{1, 5, []int{1, 30001, 65535, 30000, 65534, 2}},
		{30001, 40000, []int{30001, 65535, 1, 65534, 2, 30000}},
	} {
		p := full.Copy()
		for _, port := range c.free {
			ok(t, p.Drop(api.PrUDP, out(port)))
		}
		for n, port := range c.free {
			gets(t, p, wish(in(1<<20+n, c.own), 1, 65535, c.draw), port)
		}
		if p.Count() != 65535 {
			t.Fatal(p.Count())
		}
	}
}

func TestWishesThatMayNotBe(t *testing.T) {
	p := ports.New()
	gets(t, p, wish(in(1, 1500), 1000, 2000, 0), 1500)
	for _, x := range [][2]int{{0, 0}, {0, 1}, {0, 1500}, {0, 65535}, {1, 0}, {2, 1}, {1500, 1499}, {1501, 1500}, {65535, 0}, {65535, 1}, {65535, 65534}, {32768, 32767}} {
		for _, draw := range []int{0, 1, 65535} {
			for _, own := range []api.Endpoint{in(1, 1500), in(2, 1500), in(2, 0), {}} {
				fails(t, p, wish(own, x[0], x[1], draw), api.ErrArg)
				w := wish(own, x[0], x[1], draw)
				w.IP++
				fails(t, p, w, api.ErrArg)
			}
		}
	}
	if r, is := p.Of(api.PrUDP, in(1, 1500)); r != (ports.Row{Proto: api.PrUDP, Out: out(1500), In: in(1, 1500), Held: 1}) || !is {
		t.Error(r, is)
	}
}

// Who has a row gets that one, or none.
func TestTakeOfOneWhoHasARow(t *testing.T) {
	for _, begin := range []func(p *ports.Ports) api.Errno{
		func(p *ports.Ports) api.Errno {
			_, e := p.Take(wish(in(1, 4000), 1500, 1500, 9))
			return e
		},
		func(p *ports.Ports) api.Errno { return p.Fix(api.PrUDP, in(1, 4000), out(1500)) },
		func(p *ports.Ports) api.Errno {
			return max(p.Fix(api.PrUDP, in(1, 4000), out(1500)), p.Confirm(api.PrUDP, out(1500)))
		},
	} {
		for _, c := range []struct {
			from, to int
			e        api.Errno
		}{
			{1500, 1500, api.OK}, {1499, 1500, api.OK}, {1500, 1501, api.OK}, {1, 1500, api.OK}, {1500, 65535, api.OK}, {1, 65535, api.OK},
			{1501, 1501, api.ErrHave}, {1499, 1499, api.ErrHave}, {1501, 65535, api.ErrHave}, {1, 1499, api.ErrHave}, {4000, 4000, api.ErrHave},
			{0, 1500, api.ErrArg}, {1501, 1500, api.ErrArg}, {1500, 1499, api.ErrArg},
		} {
			for _, draw := range []int{0, 1, 500, 65535} {
				p := ports.New()
				ok(t, begin(p), p.Fix(api.PrUDP, in(2, 4000), out(1501)))
				was, _ := p.Of(api.PrUDP, in(1, 4000))
				w := wish(in(1, 4000), c.from, c.to, draw)
				if c.e != api.OK {
					fails(t, p, w, c.e)
					continue
				}
				gets(t, p, w, 1500)
				was.Held++
				if r, is := p.Of(api.PrUDP, in(1, 4000)); r != was || !is || p.Count() != 2 {
					t.Fatal(r, was, is)
				}
				// Another address, and another protocol.
				w.IP--
				fails(t, p, w, api.ErrHave)
				w.IP, w.Proto = outer, api.PrTCP
				if got, e := p.Take(w); got.IP != outer || e != api.OK || p.Count() != 3 {
					t.Fatal(got, e)
				}
			}
		}
	}
}

// Rows of another protocol, and of another address, are in nobody's way.
func TestWhatIsInNobodysWay(t *testing.T) {
	p := ports.New()
	w := wish(in(1, 9), 7, 7, 0)
	gets(t, p, w, 7)
	for n := range 256 {
		if n == api.PrUDP {
			continue
		}
		w.Proto = uint8(n)
		gets(t, p, w, 7)
		other := w
		other.In = in(2, 9)
		fails(t, p, other, api.ErrFull)
	}
	for n, ip := range []api.Addr{0, 1, outer - 1, outer + 1, 1<<31 - 1, 1 << 31, 1<<32 - 1, 0x0A000001} {
		w := wish(in(10+n, 9), 7, 7, 0)
		w.IP = ip
		gets(t, p, w, 7)
		w.In = in(30, 9)
		fails(t, p, w, api.ErrFull)
	}
	if p.Count() != 256+8 {
		t.Error(p.Count())
	}
}

// Inner endpoints that differ in one thing are others.
func TestEndpointsAreBothOfTheirParts(t *testing.T) {
	p := ports.New()
	l := ends()
	for n, end := range l {
		w := wish(end, 2000, 2999, n)
		gets(t, p, w, free(p, w)[0])
	}
	if p.Count() != len(l) {
		t.Error(p.Count())
	}
	for _, end := range l {
		r, is := p.Of(api.PrUDP, end)
		if o, isToo := p.Owner(api.PrUDP, r.Out); !is || !isToo || o != r || r.In != end || r.Held != 1 {
			t.Error(r, o, is, isToo)
		}
	}
}

// free is the ports that are tried for a wish, and that nobody has.
func free(p *ports.Ports, w ports.Wish) []int {
	return slices.DeleteFunc(tried(w), func(port int) bool {
		_, is := p.Owner(w.Proto, api.Endpoint{IP: w.IP, Port: uint16(port)})
		return is
	})
}

// ends is endpoints, strange ones, and those that differ in little.
func ends() []api.Endpoint {
	var l []api.Endpoint
	for _, ip := range []api.Addr{0, 1, outer, outer + 1, outer + 1<<16, 0x0A000001, 1<<31 - 1, 1 << 31, 1<<32 - 1} {
		for _, port := range []uint16{0, 1, 2, 255, 256, 1<<15 - 1, 1 << 15, 1<<16 - 1} {
			l = append(l, api.Endpoint{IP: ip, Port: port})
		}
	}
	return l
}

func TestFix(t *testing.T) {
	p, m := ports.New(), &model{}
	run(t, p, m, fix(6, in(1, 1), out(80)), fix(6, in(1, 1), out(80)), fix(6, in(1, 1), out(81)), fix(6, in(2, 1), out(80)))
	ok(t, p.Fix(6, in(2, 1), out(81)), p.Fix(6, in(2, 1), out(81)))
	// One who has another one, which is somebody's: ErrHave is told first.
	are(t, api.ErrHave, p.Fix(6, in(1, 1), out(81)), p.Fix(6, in(2, 1), out(80)), p.Fix(6, in(1, 1), out(79)), p.Fix(6, in(1, 1), in(1, 1)))
	are(t, api.ErrHave, p.Fix(6, in(1, 1), api.Endpoint{IP: outer + 1, Port: 80}), p.Fix(6, in(1, 1), api.Endpoint{}))
	are(t, api.ErrBusy, p.Fix(6, in(3, 1), out(80)), p.Fix(6, in(1, 2), out(80)), p.Fix(6, out(80), out(80)), p.Fix(6, api.Endpoint{}, out(81)))
	if r, is := p.Owner(6, out(80)); r != (ports.Row{Proto: 6, Out: out(80), In: in(1, 1), Held: 2}) || !is || p.Count() != 2 {
		t.Error(r, is)
	}
	ok(t, p.Fix(7, in(1, 1), out(81)), p.Fix(7, in(2, 1), out(80)))
	if p.Count() != 4 {
		t.Error(p.Count())
	}
}

// Endpoints and protocols are any, that of nought, too.
func TestFixOfAnyEndpoints(t *testing.T) {
	for _, proto := range []uint8{0, 1, 6, 17, 18, 128, 255} {
		for _, a := range ends() {
			p, m := ports.New(), &model{}
			for n, b := range ends() {
				c := fix(proto, a, b)
				if n%2 == 1 {
					c = fix(proto, b, a)
				}
				c.do(t, p, m)
			}
			m.hold(t, p)
		}
	}
}

// What is fixed is taken, and what is taken is fixed.
func TestTakeAndFixGoTogether(t *testing.T) {
	p, m := ports.New(), &model{}
	run(t, p, m,
		fix(17, in(1, 9), out(8)), take(wish(in(2, 8), 7, 9, 0)), take(wish(in(1, 9), 8, 8, 0)), take(wish(in(1, 9), 9, 9, 0)),
		fix(17, in(2, 8), out(7)), fix(17, in(3, 8), out(7)), take(wish(in(3, 8), 7, 8, 0)), fix(17, in(3, 8), out(9)),
		confirm(17, out(8)), take(wish(in(1, 9), 1, 9, 0)), fix(17, in(1, 9), out(8)), drop(17, out(7)), take(wish(in(4, 9), 7, 9, 2)),
	)
	if p.Count() != 3 {
		t.Error(p.List())
	}
}

// P16.2

func TestConfirmDropRelease(t *testing.T) {
	p, m := ports.New(), &model{}
	o := out(80)
	run(t, p, m, confirm(6, o), drop(6, o), release(6, o), fix(6, in(1, 1), o), release(6, o), confirm(6, o), confirm(6, o), drop(6, o))
	if r, is := p.Owner(6, o); r != (ports.Row{Proto: 6, Out: o, In: in(1, 1), Live: 1}) || !is {
		t.Fatal(r, is)
	}
	run(t, p, m, fix(6, in(1, 1), o), fix(6, in(1, 1), o), confirm(6, o), drop(6, o), drop(6, o), confirm(6, o))
	if r, is := p.Owner(6, o); r != (ports.Row{Proto: 6, Out: o, In: in(1, 1), Live: 2}) || !is {
		t.Fatal(r, is)
	}
	run(t, p, m, release(6, o), drop(6, o), confirm(6, o), release(6, o), release(6, o), drop(6, o), confirm(6, o))
	if r, is := p.Owner(6, o); r != (ports.Row{}) || is || p.Count() != 0 {
		t.Fatal(r, is)
	}
	if r, is := p.Of(6, in(1, 1)); r != (ports.Row{}) || is {
		t.Fatal(r, is)
	}
}

// Each way there is from both numbers of a row to others.
func TestEachOfBothNumbers(t *testing.T) {
	for live := range 6 {
		for held := range 6 {
			if live+held == 0 {
				continue
			}
			p, m := ports.New(), &model{}
			l := []call{fix(17, in(2, 2), out(1))}
			for range live {
				l = append(l, fix(6, in(1, 1), out(80)), confirm(6, out(80)))
			}
			for range held {
				l = append(l, fix(6, in(1, 1), out(80)))
			}
			run(t, p, m, l...)
			if r, is := p.Owner(6, out(80)); r.Live != live || r.Held != held || !is {
				t.Fatal(r, is)
			}
			for _, c := range []call{
				confirm(6, out(80)), drop(6, out(80)), release(6, out(80)), fix(6, in(1, 1), out(80)),
				// No row has these.
				confirm(6, out(81)), drop(17, out(80)), release(6, in(1, 1)), confirm(0, out(80)), release(6, api.Endpoint{}), drop(6, api.Endpoint{IP: outer + 1, Port: 80}),
			} {
				q, n := p.Copy(), &model{slices.Clone(m.log)}
				run(t, q, n, c, confirm(6, out(80)), release(6, out(80)), drop(6, out(80)))
			}
		}
	}
}

// An endpoint that nobody has any more is anybody's.
func TestWhatIsGivenUp(t *testing.T) {
	for _, by := range [][]call{{drop(17, out(7))}, {confirm(17, out(7)), release(17, out(7))}} {
		p, m := ports.New(), &model{}
		run(t, p, m, take(wish(in(1, 9), 7, 7, 0)), take(wish(in(2, 9), 7, 7, 0)), fix(17, in(2, 9), out(7)))
		run(t, p, m, by...)
		run(t, p, m, take(wish(in(2, 9), 7, 7, 0)), take(wish(in(1, 9), 7, 7, 0)), fix(17, in(1, 9), out(7)), fix(17, in(1, 9), out(8)))
		run(t, p, m, by...)
		run(t, p, m, fix(17, in(3, 9), out(7)), take(wish(in(1, 9), 7, 9, 1)), fix(17, in(2, 9), out(9)))
		if p.Count() != 3 {
			t.Fatal(p.List())
		}
	}
}

// As many as there are.
func TestManyAreHeld(t *testing.T) {
	p := ports.New()
	for n := range 1000 {
		gets(t, p, wish(in(1, 9), 7, 7, n), 7)
		if r, _ := p.Of(17, in(1, 9)); r.Held != n+1 || r.Live != 0 || p.Count() != 1 {
			t.Fatal(r)
		}
	}
	for n := range 1000 {
		ok(t, p.Confirm(17, out(7)))
		if r, _ := p.Of(17, in(1, 9)); r.Held != 999-n || r.Live != n+1 || p.Count() != 1 {
			t.Fatal(r)
		}
	}
	for range 1000 {
		fails(t, p, wish(in(2, 9), 7, 7, 0), api.ErrFull)
		ok(t, p.Release(17, out(7)))
	}
	gets(t, p, wish(in(2, 9), 7, 7, 0), 7)
}

// P16.3

// In whatever order rows come, they stand by their protocols, then their outer addresses, then their ports.
func TestList(t *testing.T) {
	var all []ports.Row
	n := 0
	for _, proto := range []uint8{0, 1, 6, 17, 127, 128, 255} {
		for _, o := range ends() {
			n++
			all = append(all, ports.Row{Proto: proto, Out: o, In: api.Endpoint{IP: api.Addr(n * 7919 % 10007), Port: uint16(n % 3)}, Held: 1 + n%2})
		}
	}
	by := rand.New(rand.NewSource(16))
	for range 50 {
		p := ports.New()
		for _, at := range by.Perm(len(all)) {
			for range all[at].Held {
				ok(t, p.Fix(all[at].Proto, all[at].In, all[at].Out))
			}
		}
		if l := p.List(); !slices.Equal(l, all) || p.Count() != len(all) {
			t.Fatal(l)
		}
	}
}

func TestListIsTheCallersOwn(t *testing.T) {
	p, m := ports.New(), &model{}
	run(t, p, m, fix(6, in(1, 1), out(80)), fix(6, in(2, 1), out(81)), fix(17, in(2, 1), out(81)))
	l, other := p.List(), p.List()
	clear(l)
	_ = append(l[:1], ports.Row{Proto: 9})
	m.hold(t, p)
	if !slices.Equal(other, m.rows()) {
		t.Error(other)
	}
	l = p.List()
	run(t, p, m, confirm(6, out(80)), drop(6, out(81)), fix(6, in(5, 1), out(1)))
	if !slices.Equal(l, other) {
		t.Error(l)
	}
}

// A copy goes on by itself, and so does what it was made of, and a copy of the copy.
func TestCopy(t *testing.T) {
	by := rand.New(rand.NewSource(163))
	for range 300 {
		p, m := ports.New(), &model{}
		for range by.Intn(30) {
			chance(by).do(t, p, m)
		}
		q, n := p.Copy(), &model{slices.Clone(m.log)}
		if q == p || q == nil {
			t.Fatal("one and the same")
		}
		n.hold(t, q)
		r, o := q.Copy(), &model{slices.Clone(m.log)}
		for range 30 {
			chance(by).do(t, p, m)
			chance(by).do(t, q, n)
			chance(by).do(t, r, o)
		}
		m.hold(t, p)
		n.hold(t, q)
		o.hold(t, r)
	}
}

// chance is a call by chance, of few endpoints.
func chance(by *rand.Rand) call {
	proto := []uint8{0, 6, 17, 255}[max(0, by.Intn(6)-2)]
	in := in(by.Intn(3), 3+by.Intn(5))
	o := api.Endpoint{IP: outer + api.Addr(max(0, by.Intn(5)-3)), Port: uint16(3 + by.Intn(6))}
	switch by.Intn(8) {
	case 0, 1, 2:
		from := by.Intn(8)
		return take(ports.Wish{Proto: proto, In: in, IP: o.IP, From: uint16(from), To: uint16(from + by.Intn(6) - 1), Draw: uint16(by.Intn(12))})
	case 3:
		return fix(proto, in, o)
	case 4, 5:
		return confirm(proto, o)
	case 6:
		return drop(proto, o)
	}
	return release(proto, o)
}

// Asking changes nothing.
func TestAskingChangesNothing(t *testing.T) {
	by := rand.New(rand.NewSource(164))
	p, m := ports.New(), &model{}
	q := ports.New()
	for range 2000 {
		c := chance(by)
		c.do(t, p, m)
		if a, b := ask(q, c), ask(q.Copy(), call{what: "Drop", proto: 77}); b.e != api.ErrNone {
			t.Fatal(a, b)
		}
		for range by.Intn(4) {
			p.List()
			p.Count()
			p.Copy()
			p.Of(c.proto, c.in)
			p.Owner(c.proto, c.out)
		}
		if !slices.Equal(p.List(), q.List()) {
			t.Fatal(p.List(), q.List())
		}
		if len(m.log) > 60 {
			p, q, m = ports.New(), ports.New(), &model{}
		}
	}
}

func TestOnesThatAreNone(t *testing.T) {
	var nothing *ports.Ports
	for _, p := range []*ports.Ports{nothing, {}, new(ports.Ports)} {
		for range 2 {
			for _, w := range []ports.Wish{wish(in(1, 1), 1, 2, 0), wish(in(1, 1), 0, 2, 0), {}} {
				if out, e := p.Take(w); out != (api.Endpoint{}) || e != api.ErrNil {
					t.Error(out, e)
				}
			}
			for _, end := range []api.Endpoint{{}, out(1)} {
				are(t, api.ErrNil, p.Fix(6, end, out(1)), p.Fix(0, end, end), p.Confirm(6, end), p.Drop(6, end), p.Release(6, end))
				if r, is := p.Of(6, end); r != (ports.Row{}) || is {
					t.Error(r, is)
				}
				if r, is := p.Owner(6, end); r != (ports.Row{}) || is {
					t.Error(r, is)
				}
			}
			if p.Count() != 0 || len(p.List()) != 0 || p.Copy() != nil {
				t.Error(p.Count(), p.List(), p.Copy())
			}
		}
	}
}

// What New makes, and what is a copy of that, are none no more when they have no rows.
func TestOnesWithoutRowsAreNotNone(t *testing.T) {
	p := ports.New()
	q := p.Copy()
	if p == nil || q == nil {
		t.Fatal(p, q)
	}
	for _, x := range []*ports.Ports{p, q} {
		are(t, api.ErrNone, x.Drop(6, out(1)), x.Confirm(6, out(1)), x.Release(6, out(1)))
		ok(t, x.Fix(6, in(1, 1), out(1)), x.Drop(6, out(1)))
		y := x.Copy()
		are(t, api.ErrNone, x.Drop(6, out(1)), y.Drop(6, out(1)))
		fails(t, y, wish(in(1, 1), 0, 1, 0), api.ErrArg)
		gets(t, y, wish(in(1, 1), 1, 1, 0), 1)
		if x.Count() != 0 || y.Count() != 1 {
			t.Error(x.Count(), y.Count())
		}
	}
}

func TestTwoGoOnByThemselves(t *testing.T) {
	by := rand.New(rand.NewSource(165))
	p, q := ports.New(), ports.New()
	m, n := &model{}, &model{}
	for range 60 {
		chance(by).do(t, p, m)
		chance(by).do(t, q, n)
	}
	m.hold(t, p)
	n.hold(t, q)
}

// All together.

// key is how ports are, as a text.
func key(p *ports.Ports) string {
	s := ""
	for _, r := range p.List() {
		for _, n := range []int{int(r.Proto), int(r.Out.IP), int(r.Out.Port), int(r.In.IP), int(r.In.Port), r.Live, r.Held} {
			s += " " + strconv.Itoa(n)
		}
	}
	return s
}

// small is whether no row has more than two of both.
func small(p *ports.Ports) bool {
	return !slices.ContainsFunc(p.List(), func(r ports.Row) bool { return r.Live > 2 || r.Held > 2 })
}

// few is calls of three inner endpoints and three outer ones.
func few() []call {
	x, y := outer, outer+1
	ins := []api.Endpoint{in(1, 1), in(2, 2), in(3, 7)}
	outs := []api.Endpoint{{IP: x, Port: 1}, {IP: x, Port: 2}, {IP: y, Port: 1}}
	var l []call
	for _, o := range outs {
		l = append(l, confirm(17, o), drop(17, o), release(17, o))
		for _, i := range ins {
			l = append(l, fix(17, i, o))
		}
	}
	for _, i := range ins {
		for _, c := range []ports.Wish{
			{From: 1, To: 2, IP: x}, {From: 1, To: 2, Draw: 1, IP: x}, {From: 2, To: 2, IP: x}, {From: 1, To: 1, IP: x, Draw: 9},
			{From: 1, To: 1, IP: y}, {From: 0, To: 1, IP: x}, {From: 2, To: 1, IP: x},
		} {
			c.In, c.Proto = i, 17
			l = append(l, take(c))
		}
	}
	return l
}

// sample is ports, and what they are held against.
type sample struct {
	p *ports.Ports
	m *model
}

// Each way to be of few endpoints, and each call of each.
func TestEachWayToBe(t *testing.T) {
	calls := few()
	seen := map[string]bool{"": true}
	todo := []sample{{ports.New(), &model{}}}
	for len(todo) > 0 {
		x := todo[0]
		todo = todo[1:]
		x.m.hold(t, x.p)
		for _, c := range calls {
			next := sample{x.p.Copy(), &model{slices.Clone(x.m.log)}}
			c.do(t, next.p, next.m)
			if k := key(next.p); !seen[k] && small(next.p) {
				seen[k] = true
				todo = append(todo, next)
			}
		}
	}
	// One row, of 3 and 3 endpoints, has both numbers in 8 ways.
	if want := 1 + 9*8 + 18*8*8 + 6*8*8*8; len(seen) != want {
		t.Errorf("%d, not %d", len(seen), want)
	}
}

func TestCallsByChance(t *testing.T) {
	by := rand.New(rand.NewSource(166))
	for range 1500 {
		p, m := ports.New(), &model{}
		for range 60 {
			chance(by).do(t, p, m)
		}
		m.hold(t, p)
	}
}

// P16.4

// alone tells whether no two rows of a protocol have one endpoint.
func alone(l []ports.Row) bool {
	for at, a := range l {
		for _, b := range l[:at] {
			if a.Proto == b.Proto && (a.Out == b.Out || a.In == b.In) {
				return false
			}
		}
		if a.Live < 0 || a.Held < 0 || a.Live+a.Held == 0 {
			return false
		}
	}
	return true
}

func TestWhatFollows(t *testing.T) {
	by := rand.New(rand.NewSource(167))
	var told, full, own, even, odd int
	for range 400 {
		p := ports.New()
		for range 60 {
			c := chance(by)
			_, had := p.Of(c.w.Proto, c.w.In)
			l := []int{}
			if c.what == "Take" && c.w.From > 0 && c.w.From <= c.w.To {
				l = free(p, c.w)
			}
			a := ask(p, c)
			if !alone(p.List()) {
				t.Fatal(p.List())
			}
			if c.what != "Take" || had {
				continue
			}
			if a.e == api.ErrFull {
				full++
			}
			if a.e == api.ErrFull && len(l) > 0 || a.e == api.OK && len(l) == 0 {
				t.Fatalf("%v: %v of %v", c.w, a, l)
			}
			if a.e != api.OK {
				continue
			}
			told++
			port, mine := int(a.out.Port), int(c.w.In.Port)
			alike := slices.ContainsFunc(l, func(n int) bool { return n%2 == mine%2 })
			switch {
			case slices.Contains(l, mine):
				own++
				if port != mine {
					t.Fatalf("%v: %v of %v", c.w, a, l)
				}
			case alike:
				even++
				if port%2 != mine%2 {
					t.Fatalf("%v: %v of %v", c.w, a, l)
				}
			default:
				odd++
			}
		}
	}
	if told < 900 || full < 100 || own < 100 || even < 100 || odd < 100 {
		t.Error(told, full, own, even, odd)
	}
}

// What is held, and dropped, is as if it had never been.
func TestWhatIsHeldAndDropped(t *testing.T) {
	by := rand.New(rand.NewSource(168))
	many := 0
	for range 600 {
		p := ports.New()
		for range by.Intn(25) {
			ask(p, chance(by))
		}
		q := p.Copy()
		for range 5 {
			c := chance(by)
			a := ask(q, c)
			switch {
			case a.e != api.OK:
			case c.what == "Take":
				ok(t, q.Drop(c.w.Proto, a.out))
				many++
			case c.what == "Fix":
				ok(t, q.Drop(c.proto, c.out))
				many++
			default:
				ask(p, c)
			}
			if !slices.Equal(p.List(), q.List()) {
				t.Fatalf("%v: %v, not %v", c, q.List(), p.List())
			}
		}
		for range 30 {
			c := chance(by)
			if a, b := ask(p, c), ask(q, c); a != b {
				t.Fatalf("%v: %v, not %v", c, b, a)
			}
		}
	}
	if many < 500 {
		t.Error(many)
	}
}

// Each protocol's rows are as if there were no others.
func TestProtocolsGoOnByThemselves(t *testing.T) {
	by := rand.New(rand.NewSource(169))
	for range 200 {
		p := ports.New()
		apart := map[uint8]*ports.Ports{}
		for range 80 {
			c := chance(by)
			proto := c.proto
			if c.what == "Take" {
				proto = c.w.Proto
			}
			if apart[proto] == nil {
				apart[proto] = ports.New()
			}
			if a, b := ask(p, c), ask(apart[proto], c); a != b {
				t.Fatalf("%v: %v, not %v", c, a, b)
			}
		}
		var l []ports.Row
		for _, proto := range []uint8{0, 6, 17, 255} {
			l = append(l, apart[proto].List()...)
		}
		if !slices.Equal(p.List(), l) {
			t.Fatal(p.List(), l)
		}
	}
}
