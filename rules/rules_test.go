package rules_test

import (
	"math"
	"math/rand"
	"slices"
	"testing"

	"porter/api"
	"porter/rules"
)

// source tells the same numbers each time.
func source(seed int64) *rand.Rand { return rand.New(rand.NewSource(seed)) }

// ip is an address of four bytes.
func ip(a, b, c, d uint8) api.Addr {
	return api.Addr(a)*16777216 + api.Addr(b)*65536 + api.Addr(c)*256 + api.Addr(d)
}

// point is an endpoint.
func point(a api.Addr, port uint16) api.Endpoint { return api.Endpoint{IP: a, Port: port} }

// The addresses of the document's examples, and others outside.
var (
	own   = ip(9, 9, 9, 9)
	other = ip(8, 8, 8, 8)
	third = ip(7, 7, 7, 7)
	host  = ip(10, 0, 0, 5)
)

// inside is the document's inner prefix.
var inside = api.Prefix{IP: ip(10, 0, 0, 0), Bits: 8}

// table is one of the document's, with rules, each of which is put behind all others.
func table(t *testing.T, l ...api.Rule) *rules.Table {
	t.Helper()
	return tableOf(t, own, inside, l...)
}

// tableOf is one with rules.
func tableOf(t *testing.T, outer api.Addr, inner api.Prefix, l ...api.Rule) *rules.Table {
	t.Helper()
	x, e := rules.New(outer, inner)
	if e != api.OK || x == nil {
		t.Fatalf("New(%v, %v): %v, %d", outer, inner, x, e)
	}
	for i, r := range l {
		if e := x.Add(i, r); e != api.OK {
			t.Fatalf("Add(%d, %v): %d", i, r, e)
		}
	}
	return x
}

// toAll is a RuOuter from all to all.
func toAll(proto uint8, from, to uint16) api.Rule {
	return api.Rule{Kind: api.RuOuter, Proto: proto, From: from, To: to}
}

// by is a RuSource from all to all.
func by(proto uint8, ext api.Addr, from, to uint16) api.Rule {
	return api.Rule{Kind: api.RuSource, Proto: proto, Ext: ext, From: from, To: to}
}

// fixed is a RuStatic.
func fixed(proto uint8, ext api.Addr, port uint16, in api.Endpoint) api.Rule {
	return api.Rule{Kind: api.RuStatic, Proto: proto, Ext: ext, From: port, To: port, In: in}
}

// different is so many rules, no two of which are the same or clash.
func different(many int) []api.Rule {
	var l []api.Rule
	for n := range many {
		port := uint16(n + 1)
		switch n % 3 {
		case 0:
			l = append(l, by(0, other, port, port))
		case 1:
			l = append(l, toAll(0, port, port))
		case 2:
			l = append(l, fixed(api.PrTCP, third, port, point(host, port)))
		}
	}
	return l
}

// bit tells whether the bit at a place, counted from the highest on, is 1.
func bit(a api.Addr, at int) bool { return a>>(31-at)&1 == 1 }

// slowPrefix goes over the bits of a prefix one by one: it may not have one behind the first.
func slowPrefix(p api.Prefix) bool {
	if p.Bits < 0 || p.Bits > 32 {
		return false
	}
	for at := p.Bits; at < 32; at++ {
		if bit(p.IP, at) {
			return false
		}
	}
	return true
}

// slowHas goes over the bits of a prefix that may be one by one.
func slowHas(p api.Prefix, a api.Addr) bool {
	for at := range p.Bits {
		if bit(p.IP, at) != bit(a, at) {
			return false
		}
	}
	return true
}

// model is what a table is held against.
type model struct {
	own   api.Addr
	inner api.Prefix
	l     []api.Rule
}

// isIn tells whether an address is inner.
func (m *model) isIn(a api.Addr) bool { return slowHas(m.inner, a) }

// outer is a rule's outer address.
func (m *model) outer(r api.Rule) api.Addr {
	return map[int]api.Addr{api.RuSource: r.Ext, api.RuOuter: m.own, api.RuStatic: r.Ext}[r.Kind]
}

// check asks for all that a rule of a kind must be.
func (m *model) check(r api.Rule) api.Errno {
	var l []bool
	switch r.Kind {
	case 1, 2:
		l = []bool{slices.Contains([]uint8{0, 1, 6, 17}, r.Proto), slowPrefix(r.Src), slowPrefix(r.Dst), r.From != 0, r.From <= r.To, r.In.IP == 0, r.In.Port == 0}
		if r.Kind == 1 {
			l = append(l, !m.isIn(r.Ext))
		} else {
			l = append(l, r.Ext == 0)
		}
	case 3:
		l = []bool{r.Proto == 6 || r.Proto == 17, r.Src.IP == 0, r.Src.Bits == 0, r.Dst.IP == 0, r.Dst.Bits == 0, !m.isIn(r.Ext), r.From != 0, r.From == r.To, m.isIn(r.In.IP), r.In.Port != 0}
	default:
		return api.ErrArg
	}
	if slices.Contains(l, false) {
		return api.ErrArg
	}
	return api.OK
}

// given tells whether a rule gives out a port, or waits for it, of a protocol.
func (m *model) given(r api.Rule, proto uint8, port uint16) bool {
	return (r.Proto == 0 || r.Proto == proto) && r.From <= port && port <= r.To
}

// clash tells whether two rules can't stand beside each other.
func (m *model) clash(a, b api.Rule) bool {
	if a.Kind != api.RuStatic {
		a, b = b, a
	}
	if a.Kind != api.RuStatic {
		return false
	}
	if b.Kind == api.RuStatic && a.Proto == b.Proto && a.In.IP == b.In.IP && a.In.Port == b.In.Port {
		return true
	}
	return m.outer(b) == a.Ext && m.given(b, a.Proto, a.From)
}

// add is Add, slowly.
func (m *model) add(at int, r api.Rule) api.Errno {
	if m.check(r) != api.OK || at < 0 || at > len(m.l) {
		return api.ErrArg
	}
	if len(m.l) == 32 {
		return api.ErrMany
	}
	for _, one := range m.l {
		if m.clash(one, r) {
			return api.ErrRule
		}
	}
	l := append([]api.Rule{}, m.l[:at]...)
	l = append(l, r)
	m.l = append(l, m.l[at:]...)
	return api.OK
}

// del is Delete, slowly.
func (m *model) del(at int) api.Errno {
	if at < 0 || at >= len(m.l) {
		return api.ErrArg
	}
	l := append([]api.Rule{}, m.l[:at]...)
	m.l = append(l, m.l[at+1:]...)
	return api.OK
}

// static is Static, slowly.
func (m *model) static(proto uint8, e api.Endpoint) (api.Rule, bool) {
	for _, r := range m.l {
		if r.Kind == api.RuStatic && r.Proto == proto && r.Ext == e.IP && r.From == e.Port {
			return r, true
		}
	}
	return api.Rule{}, false
}

// owns is Own, slowly.
func (m *model) owns(proto uint8, in api.Endpoint) (api.Rule, bool) {
	for _, r := range m.l {
		if r.Kind == api.RuStatic && r.Proto == proto && r.In.IP == in.IP && r.In.Port == in.Port {
			return r, true
		}
	}
	return api.Rule{}, false
}

// source is Source, slowly.
func (m *model) source(x api.Tuple) (api.Rule, bool) {
	for _, r := range m.l {
		if r.Kind == api.RuStatic || r.Proto != 0 && r.Proto != x.Proto || !slowHas(r.Src, x.Src.IP) || !slowHas(r.Dst, x.Dst.IP) {
			continue
		}
		r.Ext = m.outer(r)
		return r, true
	}
	return api.Rule{}, false
}

// isOuter is Outer, slowly.
func (m *model) isOuter(a api.Addr) bool {
	for _, r := range m.l {
		if m.outer(r) == a {
			return true
		}
	}
	return m.own == a
}

// hold holds all that a table tells against a model, of such ends and protocols.
func (m *model) hold(t *testing.T, x *rules.Table, protos []uint8, ends []api.Endpoint) {
	t.Helper()
	if l := x.List(); !slices.Equal(l, m.l) {
		t.Fatalf("List: %v, not %v", l, m.l)
	}
	for _, e := range ends {
		if x.Inner(e.IP) != m.isIn(e.IP) || x.Outer(e.IP) != m.isOuter(e.IP) {
			t.Fatalf("%v: Inner %v, Outer %v of %v", e.IP, x.Inner(e.IP), x.Outer(e.IP), m.l)
		}
		for _, proto := range protos {
			m.holdEnd(t, x, proto, e)
		}
	}
}

// holdEnd holds against a model what rules a table tells of an end.
func (m *model) holdEnd(t *testing.T, x *rules.Table, proto uint8, e api.Endpoint) {
	t.Helper()
	want, wantOK := m.static(proto, e)
	if r, ok := x.Static(proto, e); r != want || ok != wantOK {
		t.Fatalf("Static(%d, %v): %v, %v, not %v of %v", proto, e, r, ok, want, m.l)
	}
	want, wantOK = m.owns(proto, e)
	if r, ok := x.Own(proto, e); r != want || ok != wantOK {
		t.Fatalf("Own(%d, %v): %v, %v, not %v of %v", proto, e, r, ok, want, m.l)
	}
	for _, to := range []api.Addr{0, own, other, third, ip(1, 2, 3, 4), host} {
		tuple := api.Tuple{Proto: proto, Src: e, Dst: point(to, 53)}
		want, wantOK = m.source(tuple)
		if r, ok := x.Source(tuple); r != want || ok != wantOK {
			t.Fatalf("Source(%v): %v, %v, not %v of %v", tuple, r, ok, want, m.l)
		}
	}
}

// none is all tables that are none.
func none() []*rules.Table { return []*rules.Table{nil, {}, new(rules.Table)} }

func TestNoTable(t *testing.T) {
	for i, x := range none() {
		good := fixed(api.PrTCP, other, 80, point(host, 80))
		for _, r := range []api.Rule{good, toAll(0, 1, 1), by(0, other, 1, 1), {}} {
			for _, at := range []int{0, 1, -1, math.MaxInt, math.MinInt} {
				if a, b, c := x.Check(r), x.Add(at, r), x.Delete(at); a != api.ErrNil || b != api.ErrNil || c != api.ErrNil {
					t.Error(i, r, at, a, b, c)
				}
			}
		}
		if l := x.List(); len(l) != 0 {
			t.Error(i, l)
		}
		if y := x.Copy(); y != nil {
			t.Error(i, y)
		}
		for _, a := range []api.Addr{0, own, other, host, math.MaxUint32} {
			r, has := x.Static(api.PrTCP, point(a, 80))
			s, owns := x.Own(api.PrTCP, point(a, 80))
			u, out := x.Source(api.Tuple{Proto: api.PrTCP, Src: point(a, 80)})
			if (r != api.Rule{}) || (s != api.Rule{}) || (u != api.Rule{}) || has || owns || out || x.Inner(a) || x.Outer(a) {
				t.Error(i, a, r, has, s, owns, u, out, x.Inner(a), x.Outer(a))
			}
		}
	}
}

func TestTheDocument(t *testing.T) {
	x := table(t)
	if e := x.Add(0, toAll(0, 1000, 1999)); e != api.OK {
		t.Error(e)
	}
	in := point(host, 80)
	if e := x.Add(1, fixed(api.PrTCP, own, 1500, in)); e != api.ErrRule {
		t.Error(e)
	}
	second := fixed(api.PrTCP, own, 2000, in)
	if e := x.Add(1, second); e != api.OK {
		t.Error(e)
	}
	if e := x.Add(1, second); e != api.ErrRule {
		t.Error(e)
	}
	want := toAll(0, 1000, 1999)
	want.Ext = own
	if r, ok := x.Source(api.Tuple{Proto: api.PrUDP, Src: point(ip(10, 0, 0, 1), 5), Dst: point(ip(1, 2, 3, 4), 53)}); r != want || !ok {
		t.Error(r, ok)
	}
	if r, ok := x.Static(api.PrTCP, point(own, 2000)); r != second || !ok {
		t.Error(r, ok)
	}
	if e, f := x.Add(3, toAll(0, 1, 1)), x.Delete(2); e != api.ErrArg || f != api.ErrArg {
		t.Error(e, f)
	}
	if !x.Outer(own) || !x.Inner(ip(10, 1, 1, 1)) {
		t.Error(x.Outer(own), x.Inner(ip(10, 1, 1, 1)))
	}
}

// P11.1

// edgeBits are numbers of bits around those that may be, and such as come round to them in fewer bits.
func edgeBits() []int {
	l := []int{math.MinInt, math.MaxInt, 1 << 32, 1<<32 + 8, -1 << 32, 256, 264, -256, -248}
	for n := -3; n <= 40; n++ {
		l = append(l, n)
	}
	return l
}

// edgeAddrs are addresses at the ends of prefixes, and beside.
func edgeAddrs() []api.Addr {
	return []api.Addr{0, 1, 2, ip(9, 255, 255, 255), ip(10, 0, 0, 0), ip(10, 0, 0, 1), ip(10, 255, 255, 255), ip(11, 0, 0, 0), 1<<31 - 1, 1 << 31, own, own - 1, own + 1, math.MaxUint32 - 1, math.MaxUint32}
}

func TestNewOfEachPrefix(t *testing.T) {
	made, refused := 0, 0
	for _, bits := range edgeBits() {
		for _, a := range edgeAddrs() {
			for _, outer := range edgeAddrs() {
				p := api.Prefix{IP: a, Bits: bits}
				x, e := rules.New(outer, p)
				if !slowPrefix(p) || slowHas(p, outer) {
					refused++
					if x != nil || e != api.ErrArg {
						t.Fatalf("New(%v, %v): %v, %d", outer, p, x, e)
					}
					continue
				}
				made++
				if x == nil || e != api.OK {
					t.Fatalf("New(%v, %v): %v, %d", outer, p, x, e)
				}
				m := model{own: outer, inner: p}
				m.hold(t, x, []uint8{0, 6}, []api.Endpoint{point(outer, 1), point(a, 0), {}})
			}
		}
	}
	if made < 1000 || refused < 1000 {
		t.Error(made, refused)
	}
}

func TestNewOfTheOuterAddressBesideThePrefix(t *testing.T) {
	for bits := 1; bits <= 32; bits++ {
		first := ip(172, 16, 0, 1) >> (32 - bits) << (32 - bits)
		p := api.Prefix{IP: first, Bits: bits}
		last := first + (1<<(32-bits) - 1)
		for _, a := range []api.Addr{first, last} {
			if x, e := rules.New(a, p); x != nil || e != api.ErrArg {
				t.Errorf("New(%v, %v): %v, %d", a, p, x, e)
			}
		}
		for _, a := range []api.Addr{first - 1, last + 1} {
			x, e := rules.New(a, p)
			if x == nil || e != api.OK {
				t.Fatalf("New(%v, %v): %v, %d", a, p, x, e)
			}
			if x.Inner(a) || !x.Outer(a) || !x.Inner(first) || !x.Inner(last) || x.Outer(first) || len(x.List()) != 0 {
				t.Errorf("of New(%v, %v): %v, %v, %v, %v", a, p, x.Inner(a), x.Outer(a), x.Inner(first), x.Inner(last))
			}
		}
	}
}

func TestTablesGoOnByThemselves(t *testing.T) {
	x, y := table(t), table(t)
	if e := x.Add(0, toAll(0, 1, 1)); e != api.OK || len(y.List()) != 0 {
		t.Error(e, y.List())
	}
}

// checkCheck holds Check of a rule against the slow one.
func checkCheck(t *testing.T, x *rules.Table, m *model, r api.Rule) (may bool) {
	t.Helper()
	want := m.check(r)
	if e := x.Check(r); e != want {
		t.Fatalf("Check(%v) is %d, not %d", r, e, want)
	}
	return want == api.OK
}

func TestCheckOfEachOfAll(t *testing.T) {
	prefixes := []api.Prefix{{}, inside, {IP: other, Bits: 32}, {IP: 1}, {Bits: -1}, {Bits: 33}, {Bits: 8}}
	ports := [][2]uint16{{0, 0}, {0, 1}, {1, 1}, {1, 2}, {2, 1}, {1, 65535}, {65535, 65535}, {65535, 65534}, {80, 0}}
	ins := []api.Endpoint{{}, point(host, 0), point(host, 80), point(other, 80), point(0, 80), point(other, 0)}
	exts := []api.Addr{0, own, other, host, inside.IP, inside.IP - 1, ip(10, 255, 255, 255), ip(11, 0, 0, 0)}
	x, m := table(t), &model{own: own, inner: inside}
	may := map[int]int{}
	for _, kind := range []int{math.MinInt, -1, 0, api.RuSource, api.RuOuter, api.RuStatic, 4, 1<<32 + 1, math.MaxInt} {
		for _, proto := range []uint8{0, 1, 2, 6, 17, 255} {
			for _, src := range prefixes {
				for _, dst := range prefixes {
					for _, ext := range exts {
						for _, port := range ports {
							for _, in := range ins {
								r := api.Rule{Kind: kind, Proto: proto, Src: src, Dst: dst, Ext: ext, From: port[0], To: port[1], In: in}
								if checkCheck(t, x, m, r) {
									may[kind]++
								}
							}
						}
					}
				}
			}
		}
	}
	if len(may) != 3 || may[api.RuSource] < 100 || may[api.RuOuter] < 100 || may[api.RuStatic] < 20 {
		t.Error("hardly any of a kind may be:", may)
	}
	if len(x.List()) != 0 {
		t.Error("Check put one in:", x.List())
	}
}

// goods are rules of each kind that may be in a table of the document's, beside each other.
func goods() []api.Rule {
	return []api.Rule{by(0, other, 1, 1), toAll(0, 500, 65535), fixed(api.PrTCP, other, 80, point(host, 8080)), fixed(api.PrUDP, own, 80, point(host, 80))}
}

func TestCheckOfEachProtocol(t *testing.T) {
	x, m := table(t), &model{own: own, inner: inside}
	for _, r := range goods() {
		for proto := range 256 {
			r.Proto = uint8(proto)
			checkCheck(t, x, m, r)
		}
	}
}

func TestCheckOfEachPort(t *testing.T) {
	x, m := table(t), &model{own: own, inner: inside}
	for _, r := range goods() {
		for n := range 65536 {
			from, to, in, same := r, r, r, r
			from.From, to.To, in.In.Port = uint16(n), uint16(n), uint16(n)
			same.From, same.To = uint16(n), uint16(n)
			for _, one := range []api.Rule{from, to, in, same} {
				checkCheck(t, x, m, one)
			}
		}
	}
}

func TestCheckOfEachPrefix(t *testing.T) {
	x, m := table(t), &model{own: own, inner: inside}
	for _, r := range goods() {
		for _, bits := range edgeBits() {
			for _, a := range edgeAddrs() {
				src, dst := r, r
				src.Src = api.Prefix{IP: a, Bits: bits}
				dst.Dst = api.Prefix{IP: a, Bits: bits}
				checkCheck(t, x, m, src)
				checkCheck(t, x, m, dst)
			}
		}
	}
}

func TestCheckByInnerPrefixes(t *testing.T) {
	for bits := 1; bits <= 32; bits++ {
		for _, a := range edgeAddrs() {
			first := a >> (32 - bits) << (32 - bits)
			last := first + (1<<(32-bits) - 1)
			m := &model{own: last + 1, inner: api.Prefix{IP: first, Bits: bits}}
			x := tableOf(t, m.own, m.inner)
			for _, one := range []api.Addr{0, first - 1, first, last, last + 1, own, math.MaxUint32} {
				for _, in := range []api.Addr{0, first - 1, first, last, last + 1, own, math.MaxUint32} {
					for _, r := range []api.Rule{by(0, one, 1, 2), toAll(0, 1, 2), fixed(6, one, 80, point(in, 80))} {
						checkCheck(t, x, m, r)
					}
				}
			}
		}
	}
}

func TestCheckLooksAtNoOtherRule(t *testing.T) {
	full := different(api.MaxRules)
	x := table(t, full...)
	for _, r := range full {
		if e := x.Check(r); e != api.OK {
			t.Errorf("Check(%v) is %d", r, e)
		}
	}
	clashing := fixed(api.PrUDP, other, 1, point(host, 1))
	if e := x.Check(clashing); e != api.OK {
		t.Errorf("Check(%v) is %d", clashing, e)
	}
}

// P11.2

func TestAddAtEachPlace(t *testing.T) {
	for many := range api.MaxRules {
		l := different(many + 1)
		ahead, last := l[:many], l[many]
		for at := range many + 1 {
			x := table(t, ahead...)
			want := slices.Concat(ahead[:at], []api.Rule{last}, ahead[at:])
			if e := x.Add(at, last); e != api.OK || !slices.Equal(x.List(), want) {
				t.Fatalf("Add(%d) to %d: %d, %v", at, many, e, x.List())
			}
		}
	}
}

func TestDeleteAtEachPlace(t *testing.T) {
	for many := 1; many <= api.MaxRules; many++ {
		l := different(many)
		for at := range many {
			x := table(t, l...)
			want := slices.Concat(l[:at], l[at+1:])
			if e := x.Delete(at); e != api.OK || !slices.Equal(x.List(), want) {
				t.Fatalf("Delete(%d) of %d: %d, %v", at, many, e, x.List())
			}
		}
	}
}

// noPlaces are places where no rule is, nor may one be added, of so many.
func noPlaces(many int) []int {
	return []int{-1, -2, -32, math.MinInt, math.MinInt + 1, many + 1, many + 2, 1 << 32, 1<<32 + many, math.MaxInt, math.MaxInt - 1}
}

func TestNoPlace(t *testing.T) {
	for many := range api.MaxRules + 1 {
		l := different(many)
		x := table(t, l...)
		for _, at := range noPlaces(many) {
			// One that clashes, and one that would be too many: the place is asked first.
			for _, r := range append(goods(), l...) {
				if e := x.Add(at, r); e != api.ErrArg {
					t.Fatalf("Add(%d) to %d: %d", at, many, e)
				}
			}
			if e := x.Delete(at); e != api.ErrArg {
				t.Fatalf("Delete(%d) of %d: %d", at, many, e)
			}
		}
		if e := x.Delete(many); e != api.ErrArg {
			t.Fatalf("Delete(%d) of %d: %d", many, many, e)
		}
		if !slices.Equal(x.List(), l) {
			t.Fatalf("of %d are left %v", many, x.List())
		}
	}
}

func TestAddOfTooMany(t *testing.T) {
	l := different(api.MaxRules)
	x := table(t, l...)
	for at := range api.MaxRules + 1 {
		// The first one is there already, the second one clashes, the third one is only one too many.
		for _, r := range []api.Rule{l[2], fixed(api.PrTCP, other, 1, point(host, 9)), toAll(0, 999, 999)} {
			if e := x.Add(at, r); e != api.ErrMany {
				t.Fatalf("Add(%d, %v): %d", at, r, e)
			}
		}
		if e := x.Add(at, api.Rule{}); e != api.ErrArg {
			t.Fatalf("Add(%d) of no rule: %d", at, e)
		}
	}
	if !slices.Equal(x.List(), l) {
		t.Error(x.List())
	}
	if e := x.Delete(7); e != api.OK {
		t.Error(e)
	}
	if e := x.Add(31, l[7]); e != api.OK {
		t.Error(e)
	}
	if e := x.Add(0, toAll(0, 999, 999)); e != api.ErrMany {
		t.Error(e)
	}
	if want := slices.Concat(l[:7], l[8:], l[7:8]); !slices.Equal(x.List(), want) {
		t.Error(x.List())
	}
}

func TestAddOfWhatMayNotBe(t *testing.T) {
	for _, l := range [][]api.Rule{nil, goods(), different(api.MaxRules)} {
		x := table(t, l...)
		for _, r := range []api.Rule{{}, by(2, other, 1, 1), by(0, host, 1, 1), toAll(0, 0, 1), toAll(0, 2, 1), fixed(0, other, 80, point(host, 8080)), fixed(api.PrTCP, other, 80, point(other, 8080)), {Kind: 4, From: 1, To: 1}} {
			for at := range len(l) + 1 {
				if e := x.Add(at, r); e != api.ErrArg {
					t.Fatalf("Add(%d, %v): %d", at, r, e)
				}
			}
		}
		if !slices.Equal(x.List(), l) {
			t.Error(x.List())
		}
	}
}

// manyRules are rules of all kinds, among which all sorts of clashes are; own is the table's address.
func manyRules(own api.Addr) []api.Rule {
	var l []api.Rule
	for _, proto := range []uint8{0, api.PrICMP, api.PrTCP, api.PrUDP} {
		for _, port := range [][2]uint16{{1, 65535}, {1, 79}, {1, 80}, {80, 80}, {80, 81}, {81, 90}, {79, 81}, {79, 79}} {
			l = append(l, toAll(proto, port[0], port[1]))
			for _, ext := range []api.Addr{0, own, other} {
				l = append(l, by(proto, ext, port[0], port[1]))
			}
		}
	}
	narrow := by(api.PrTCP, other, 80, 80)
	narrow.Src, narrow.Dst = api.Prefix{IP: third, Bits: 32}, api.Prefix{IP: third, Bits: 32}
	l = append(l, narrow)
	for _, proto := range []uint8{api.PrTCP, api.PrUDP} {
		for _, ext := range []api.Addr{0, own, other} {
			for _, port := range []uint16{1, 79, 80, 81, 65535} {
				for _, in := range []api.Endpoint{point(host, 80), point(host, 81), point(host+1, 80)} {
					l = append(l, fixed(proto, ext, port, in))
				}
			}
		}
	}
	return l
}

func TestClashOfEachTwo(t *testing.T) {
	for _, outer := range []api.Addr{own, 0, math.MaxUint32} {
		m := &model{own: outer, inner: inside}
		l := manyRules(outer)
		clashes := 0
		for _, a := range l {
			for _, b := range l {
				x := tableOf(t, outer, inside, a)
				want := api.OK
				if m.clash(a, b) {
					clashes++
					want = api.ErrRule
				}
				if e := x.Add(0, b); e != want {
					t.Fatalf("of %v: Add of %v to %v: %d, not %d", outer, b, a, e, want)
				}
			}
		}
		if clashes < 2000 || clashes > len(l)*len(l)/2 {
			t.Error(clashes, "of", len(l)*len(l))
		}
	}
}

func TestClashOfTheEdges(t *testing.T) {
	in, beside := point(host, 80), point(host, 81)
	a := fixed(api.PrTCP, other, 80, in)
	for _, x := range []struct {
		b api.Rule
		e api.Errno
	}{
		{fixed(api.PrTCP, other, 80, beside), api.ErrRule}, // one outer endpoint
		{fixed(api.PrTCP, other, 81, in), api.ErrRule},     // one inner one
		{fixed(api.PrTCP, own, 81, in), api.ErrRule},
		{fixed(api.PrTCP, other, 80, in), api.ErrRule},
		{fixed(api.PrUDP, other, 80, in), api.OK}, // another protocol
		{fixed(api.PrTCP, other, 81, beside), api.OK},
		{fixed(api.PrTCP, own, 80, beside), api.OK},
		{fixed(api.PrTCP, other, 81, point(host+1, 80)), api.OK},
		{by(0, other, 80, 80), api.ErrRule},
		{by(0, other, 1, 80), api.ErrRule},
		{by(0, other, 80, 65535), api.ErrRule},
		{by(0, other, 1, 65535), api.ErrRule},
		{by(api.PrTCP, other, 80, 80), api.ErrRule},
		{by(0, other, 1, 79), api.OK},
		{by(0, other, 81, 65535), api.OK},
		{by(api.PrUDP, other, 1, 65535), api.OK},
		{by(api.PrICMP, other, 1, 65535), api.OK},
		{by(0, own, 1, 65535), api.OK},
		{by(0, 0, 1, 65535), api.OK},
		{toAll(0, 1, 65535), api.OK}, // the table's own address is another one
	} {
		both := [2]api.Rule{a, x.b}
		for i := range both {
			y := table(t, both[i])
			if e := y.Add(1, both[1-i]); e != x.e || len(y.List()) != map[api.Errno]int{api.OK: 2, api.ErrRule: 1}[e] {
				t.Errorf("%v beside %v: %d, not %d", both[1-i], both[i], e, x.e)
			}
		}
	}
}

func TestClashWithTheTablesOwnAddress(t *testing.T) {
	for _, x := range []struct {
		a, b api.Rule
		e    api.Errno
	}{
		{fixed(api.PrUDP, own, 80, point(host, 80)), toAll(0, 80, 80), api.ErrRule},
		{fixed(api.PrUDP, own, 80, point(host, 80)), toAll(api.PrUDP, 70, 90), api.ErrRule},
		{fixed(api.PrUDP, own, 80, point(host, 80)), toAll(api.PrTCP, 70, 90), api.OK},
		{fixed(api.PrUDP, own, 80, point(host, 80)), toAll(0, 81, 90), api.OK},
		{fixed(api.PrUDP, own, 80, point(host, 80)), by(0, own, 80, 80), api.ErrRule},
		{fixed(api.PrUDP, 0, 80, point(host, 80)), toAll(0, 80, 80), api.OK},
		{fixed(api.PrUDP, 0, 80, point(host, 80)), by(0, 0, 80, 80), api.ErrRule},
		{toAll(0, 80, 80), toAll(0, 80, 80), api.OK},
		{toAll(0, 80, 80), by(0, own, 80, 80), api.OK},
		{by(0, own, 80, 80), by(0, own, 80, 80), api.OK},
	} {
		y, z := table(t, x.a), table(t, x.b)
		if e, f := y.Add(0, x.b), z.Add(0, x.a); e != x.e || f != x.e {
			t.Errorf("%v beside %v: %d, %d, not %d", x.a, x.b, e, f, x.e)
		}
	}
}

func TestClashWithOneAtEachPlace(t *testing.T) {
	bad := fixed(api.PrUDP, own, 500, point(host, 500))
	for place := range api.MaxRules - 1 {
		l := slices.Insert(different(api.MaxRules-2), place, toAll(api.PrUDP, 400, 600))
		x := table(t, l...)
		for at := range len(l) + 1 {
			if e := x.Add(at, bad); e != api.ErrRule {
				t.Fatalf("Add(%d) beside the one at %d: %d", at, place, e)
			}
		}
		if !slices.Equal(x.List(), l) {
			t.Fatalf("%v is left", x.List())
		}
		if e := x.Delete(place); e != api.OK {
			t.Fatal(e)
		}
		if e := x.Add(place, bad); e != api.OK {
			t.Fatalf("Add(%d) without the one at %d: %d", place, place, e)
		}
	}
}

// P11.3

func TestListTellsAsAdded(t *testing.T) {
	l := goods()
	x := table(t, l...)
	if got := x.List(); !slices.Equal(got, l) || got[1].Ext != 0 {
		t.Error(got)
	}
	if _, ok := x.Source(api.Tuple{Proto: 1}); !ok || !slices.Equal(x.List(), l) {
		t.Error(ok, x.List())
	}
}

func TestListIsNewMemory(t *testing.T) {
	l := different(10)
	x := table(t, l...)
	a, b := x.List(), x.List()
	a[0], a[9] = api.Rule{}, api.Rule{}
	_ = append(b[:1], toAll(0, 9, 9))
	_ = append(x.List(), toAll(0, 8, 8))
	if !slices.Equal(x.List(), l) || b[0] != l[0] || b[9] != l[9] {
		t.Error(x.List())
	}
	told := x.List()
	for range 10 {
		if e := x.Delete(0); e != api.OK {
			t.Fatal(e)
		}
	}
	if !slices.Equal(told, l) || len(x.List()) != 0 {
		t.Error(told, x.List())
	}
	for i := range l {
		if e := x.Add(0, l[i]); e != api.OK || !slices.Equal(told, l) {
			t.Fatal(e, told)
		}
	}
}

func TestCopyGoesOnByItself(t *testing.T) {
	l := different(api.MaxRules)
	for many := range api.MaxRules {
		for at := range many {
			x := table(t, l[:many]...)
			if e := x.Delete(at); e != api.OK {
				t.Fatal(e)
			}
			left := x.List()
			y := x.Copy()
			z := y.Copy()
			three := []*rules.Table{y, x, z}
			for i, one := range three { // each may have room where the others have theirs
				if e := one.Add(many-1, toAll(0, uint16(900+i), 999)); e != api.OK {
					t.Fatal(e)
				}
			}
			for i, one := range three {
				if want := append(slices.Clone(left), toAll(0, uint16(900+i), 999)); !slices.Equal(one.List(), want) {
					t.Fatalf("of %d: %v, not %v", many, one.List(), want)
				}
			}
			for many > 1 && len(x.List()) > 0 {
				x.Delete(0)
			}
			if len(y.List()) != many || len(z.List()) != many {
				t.Fatal(y.List(), z.List())
			}
		}
	}
}

func TestCopyHasAll(t *testing.T) {
	protos := []uint8{0, 1, 6, 17}
	ends := []api.Endpoint{point(own, 2), point(other, 1), point(third, 3), point(host, 3), {}}
	for _, outer := range []api.Addr{own, 0, math.MaxUint32} {
		for many := range api.MaxRules + 1 {
			m := &model{own: outer, inner: inside, l: different(many)}
			y := tableOf(t, outer, inside, m.l...).Copy()
			if y == nil {
				t.Fatal("no copy")
			}
			m.hold(t, y, protos, ends)
			for _, r := range []api.Rule{by(0, host, 1, 1), fixed(api.PrUDP, other, 1, point(host, 7)), toAll(0, 7, 7)} {
				if e, want := y.Check(r), m.check(r); e != want {
					t.Fatalf("Check(%v) is %d", r, e)
				}
				if e, want := y.Add(many, r), m.add(many, r); e != want {
					t.Fatalf("Add(%v) is %d, not %d", r, e, want)
				}
			}
			m.hold(t, y, protos, ends)
		}
	}
}

// P11.4

func TestStaticAndOwn(t *testing.T) {
	a := fixed(api.PrTCP, other, 80, point(host, 8080))
	b := fixed(api.PrUDP, other, 80, point(host, 8080))
	c := fixed(api.PrTCP, own, 80, point(host, 8081))
	x := table(t, toAll(0, 90, 99), a, b, by(0, other, 90, 99), c)
	for _, want := range []api.Rule{a, b, c} {
		if r, ok := x.Static(want.Proto, point(want.Ext, want.From)); r != want || !ok {
			t.Error(r, ok, "not", want)
		}
		if r, ok := x.Own(want.Proto, want.In); r != want || !ok {
			t.Error(r, ok, "not", want)
		}
	}
	for proto := range 256 {
		is := proto == api.PrTCP || proto == api.PrUDP
		r, has := x.Static(uint8(proto), point(other, 80))
		s, owns := x.Own(uint8(proto), point(host, 8080))
		if has != is || owns != is || !is && (r != api.Rule{} || s != api.Rule{}) {
			t.Error(proto, r, has, s, owns)
		}
	}
	for _, e := range []api.Endpoint{{}, point(other, 81), point(other, 79), point(other, 0), point(other+1, 80), point(third, 80), point(host, 8080), point(other, 90), point(own, 90), point(own, 8080)} {
		if r, ok := x.Static(api.PrTCP, e); ok || (r != api.Rule{}) {
			t.Error(e, r, ok)
		}
	}
	for _, e := range []api.Endpoint{{}, point(host, 8082), point(host, 80), point(host, 0), point(host+1, 8080), point(other, 80), point(other, 8080)} {
		if r, ok := x.Own(api.PrTCP, e); ok || (r != api.Rule{}) {
			t.Error(e, r, ok)
		}
	}
}

func TestSourceTellsTheFirstOne(t *testing.T) {
	var l []api.Rule
	for i := range api.MaxRules {
		r := by(0, other, uint16(i+1), 1000)
		if i%2 == 1 {
			r = toAll(0, uint16(i+1), 1000)
		}
		l = append(l, r)
	}
	x := table(t, l...)
	tuple := api.Tuple{Proto: api.PrTCP, Src: point(host, 1), Dst: point(third, 2)}
	for i, want := range l {
		if want.Kind == api.RuOuter {
			want.Ext = own
		}
		if r, ok := x.Source(tuple); r != want || !ok {
			t.Fatalf("%d: %v, %v, not %v", i, r, ok, want)
		}
		x.Delete(0)
	}
	if r, ok := x.Source(tuple); ok || (r != api.Rule{}) {
		t.Error(r, ok)
	}
}

func TestSourceOfEachProtocol(t *testing.T) {
	for _, r := range []api.Rule{by(0, other, 1, 2), toAll(0, 1, 2), by(6, other, 1, 2), toAll(17, 1, 2), by(1, 0, 1, 2)} {
		x, m := table(t, r), &model{own: own, inner: inside, l: []api.Rule{r}}
		for proto := range 256 {
			m.holdEnd(t, x, uint8(proto), point(host, 1))
			if _, ok := x.Source(api.Tuple{Proto: uint8(proto)}); ok != (r.Proto == 0 || int(r.Proto) == proto) {
				t.Error(r, proto, ok)
			}
		}
	}
}

func TestSourceByPrefixes(t *testing.T) {
	for bits := range 33 {
		for _, a := range edgeAddrs() {
			p := api.Prefix{IP: api.Addr(uint64(a) >> (32 - bits) << (32 - bits)), Bits: bits}
			last := api.Addr(uint64(p.IP) + 1<<(32-bits) - 1)
			from, to := toAll(0, 1, 2), by(0, other, 3, 4)
			from.Src, to.Dst = p, p
			both := toAll(0, 5, 6)
			both.Src, both.Dst = p, p
			for _, r := range []api.Rule{from, to, both} {
				x, m := table(t, r), &model{own: own, inner: inside, l: []api.Rule{r}}
				for _, src := range []api.Addr{p.IP, last, p.IP - 1, last + 1, host} {
					for _, dst := range []api.Addr{p.IP, last, p.IP - 1, last + 1, third} {
						tuple := api.Tuple{Proto: 17, Src: point(src, 7), Dst: point(dst, 9)}
						want, wantOK := m.source(tuple)
						if got, ok := x.Source(tuple); got != want || ok != wantOK {
							t.Fatalf("Source(%v): %v, %v of %v", tuple, got, ok, r)
						}
					}
				}
			}
		}
	}
}

func TestSourceLooksAtNoPortsAndNoStaticRule(t *testing.T) {
	static := fixed(api.PrTCP, other, 80, point(host, 80))
	x := table(t, static)
	tuple := api.Tuple{Proto: api.PrTCP, Src: point(host, 80), Dst: point(other, 80)}
	if r, ok := x.Source(tuple); ok || (r != api.Rule{}) {
		t.Error(r, ok)
	}
	want := by(0, other, 5, 6)
	if e := x.Add(1, want); e != api.OK {
		t.Fatal(e)
	}
	for _, port := range []uint16{0, 1, 5, 6, 7, 80, 65535} {
		tuple.Src.Port, tuple.Dst.Port = port, 65535-port
		if r, ok := x.Source(tuple); r != want || !ok {
			t.Error(port, r, ok)
		}
	}
	// Whether the source is inside is not asked for.
	tuple.Src.IP = third
	if r, ok := x.Source(tuple); r != want || !ok {
		t.Error(r, ok)
	}
}

// P11.5

func TestInner(t *testing.T) {
	x := table(t, goods()...)
	for _, a := range []api.Addr{ip(10, 0, 0, 0), ip(10, 255, 255, 255), host, ip(10, 1, 1, 1)} {
		if !x.Inner(a) || x.Outer(a) {
			t.Error(a, x.Inner(a), x.Outer(a))
		}
	}
	for _, a := range []api.Addr{0, own, other, ip(9, 255, 255, 255), ip(11, 0, 0, 0), math.MaxUint32} {
		if x.Inner(a) {
			t.Error(a)
		}
	}
}

func TestOuter(t *testing.T) {
	x := table(t)
	if !x.Outer(own) || x.Outer(0) || x.Outer(other) || x.Outer(third) || x.Outer(own+1) || x.Outer(own-1) {
		t.Error("of no rules")
	}
	// A rule of each kind: what RuOuter has is the table's own address, though its Ext is 0.
	for i, r := range []api.Rule{by(0, other, 1, 1), toAll(0, 1, 1), fixed(6, third, 80, point(host, 80)), by(0, 0, 1, 1)} {
		y := table(t, r)
		for _, a := range []api.Addr{0, own, other, third, host, own + 1, math.MaxUint32} {
			want := a == own || r.Kind != api.RuOuter && a == r.Ext
			if y.Outer(a) != want {
				t.Error(i, a, !want)
			}
		}
		if e := y.Delete(0); e != api.OK || y.Outer(other) || y.Outer(third) || y.Outer(0) || !y.Outer(own) {
			t.Error(i, e)
		}
	}
	full := table(t, different(api.MaxRules)...)
	if !full.Outer(own) || !full.Outer(other) || !full.Outer(third) || full.Outer(0) {
		t.Error("of all")
	}
}

// P11.6

// anyRule is one that often may be, and often clashes with another one.
func anyRule(r *rand.Rand) api.Rule {
	exts := []api.Addr{own, other, third, 0}
	ext, port := exts[r.Intn(len(exts))], uint16(1+r.Intn(12))
	switch r.Intn(8) {
	case 0, 1:
		x := by([]uint8{0, 1, 6, 17}[r.Intn(4)], ext, port, port+uint16(r.Intn(3)))
		x.Src, x.Dst = anyPrefix(r), anyPrefix(r)
		return x
	case 2, 3:
		x := toAll([]uint8{0, 1, 6, 17}[r.Intn(4)], port, port+uint16(r.Intn(3)))
		x.Src, x.Dst = anyPrefix(r), anyPrefix(r)
		return x
	case 4: // one that may well not be
		return api.Rule{Kind: r.Intn(5), Proto: uint8(r.Intn(18)), Src: anyPrefix(r), Ext: ext, From: port, To: uint16(r.Intn(13)), In: point(host, uint16(r.Intn(2)))}
	}
	return fixed([]uint8{6, 17}[r.Intn(2)], ext, port, point(host+api.Addr(r.Intn(3)), uint16(1+r.Intn(9))))
}

// anyPrefix is one of few.
func anyPrefix(r *rand.Rand) api.Prefix {
	return []api.Prefix{{}, {}, {}, inside, {IP: host, Bits: 32}, {IP: host &^ 1, Bits: 31}, {IP: ip(1, 0, 0, 0), Bits: 8}}[r.Intn(7)]
}

// pair is a table and what it is held against.
type pair struct {
	x *rules.Table
	m model
}

// step does anything of a pair; it tells what came of an Add.
func (p *pair) step(t *testing.T, r *rand.Rand) (e api.Errno) {
	t.Helper()
	if r.Intn(4) == 0 {
		at := r.Intn(len(p.m.l)+3) - 1
		if e, want := p.x.Delete(at), p.m.del(at); e != want {
			t.Fatalf("Delete(%d) is %d, not %d", at, e, want)
		}
		return api.ErrNone
	}
	at, rule := r.Intn(len(p.m.l)+3)-1, anyRule(r)
	e = p.x.Add(at, rule)
	if want := p.m.add(at, rule); e != want {
		t.Fatalf("Add(%d, %v) is %d, not %d", at, rule, e, want)
	}
	return e
}

// follows asks of a table for all that follows from the promises.
func (p *pair) follows(t *testing.T) {
	t.Helper()
	l := p.x.List()
	for i, a := range l {
		if e := p.x.Check(a); e != api.OK {
			t.Fatalf("%v is there: %d", a, e)
		}
		for j, b := range l {
			if i != j && p.m.clash(a, b) {
				t.Fatalf("%v and %v are there", a, b)
			}
		}
		if a.Kind != api.RuStatic {
			continue
		}
		r, has := p.x.Static(a.Proto, point(a.Ext, a.From))
		s, owns := p.x.Own(a.Proto, a.In)
		if r != a || s != a || !has || !owns {
			t.Fatalf("of %v are told %v, %v", a, r, s)
		}
	}
	for _, a := range []api.Addr{0, own, other, third, host, host + 1, host &^ 1, ip(1, 2, 3, 4)} {
		if p.x.Outer(a) && p.x.Inner(a) {
			t.Fatal(a, "is outer and inner")
		}
	}
}

func TestWhatFollows(t *testing.T) {
	r := source(111)
	protos := []uint8{0, 1, 6, 17, 99}
	seen := map[api.Errno]int{}
	for range 60 {
		l := []pair{{table(t), model{own: own, inner: inside}}}
		for range 150 {
			i := r.Intn(len(l))
			if r.Intn(20) == 0 {
				l = append(l, pair{l[i].x.Copy(), l[i].m})
			}
			seen[l[i].step(t, r)]++
			for j := range l {
				ends := []api.Endpoint{point([]api.Addr{own, other, third, 0}[r.Intn(4)], uint16(1+r.Intn(12))), point(host+api.Addr(r.Intn(3)), uint16(1+r.Intn(9))), point(ip(1, 2, 3, 4), 5)}
				l[j].m.hold(t, l[j].x, protos, ends)
				l[j].follows(t)
			}
		}
	}
	for _, e := range []api.Errno{api.OK, api.ErrArg, api.ErrRule} {
		if seen[e] < 500 {
			t.Error("hardly ever:", e, seen)
		}
	}
}

func TestAddedAndDeletedOrRefusedMakesNoDifference(t *testing.T) {
	r := source(112)
	protos := []uint8{1, 6, 17}
	refused, gone := 0, 0
	for range 300 {
		p := pair{table(t), model{own: own, inner: inside}}
		for range 30 {
			p.step(t, r)
		}
		for range 20 {
			at, rule := r.Intn(len(p.m.l)+1), anyRule(r)
			if p.x.Add(at, rule) != api.OK {
				refused++
			} else {
				gone++
				if e := p.x.Delete(at); e != api.OK {
					t.Fatal(e)
				}
			}
			p.m.hold(t, p.x, protos, []api.Endpoint{point(rule.Ext, rule.From), rule.In, point(host, 1)})
		}
	}
	if refused < 1000 || gone < 1000 {
		t.Error(refused, gone)
	}
}
