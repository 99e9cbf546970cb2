package rewrite_test

import (
	"math/rand"
	"strings"
	"testing"

	"porter/api"
	"porter/icmp"
	"porter/ip"
	"porter/rewrite"
	"porter/sums"
	"porter/tcp"
	"porter/tuples"
	"porter/udp"
)

// source tells the same numbers each time.
func source(seed int64) *rand.Rand { return rand.New(rand.NewSource(seed)) }

// one is a number's lowest byte.
func one(n int) string { return string([]byte{byte(n)}) }

// two is a number's two lowest bytes.
func two(n int) string { return string([]byte{byte(n >> 8), byte(n)}) }

// four is an address's bytes.
func four(a api.Addr) string { return two(int(a>>16)) + two(int(a)) }

// with is a text with bytes in the place of as many.
func with(s string, at int, part string) string {
	return s[:at] + part + s[at+len(part):]
}

// cut is so many bytes of a piece, told again and again.
func cut(piece string, many int) string { return strings.Repeat(piece, many)[:many] }

// at16 is the number of two bytes at a place.
func at16(s string, at int) int { return int(s[at])*256 + int(s[at+1]) }

// src and dst are the addresses of packets that are not any.
const src, dst = api.Addr(0x0a000001), api.Addr(0x01020304)

// point is an endpoint.
func point(a api.Addr, port int) api.Endpoint { return api.Endpoint{IP: a, Port: uint16(port)} }

// change is one to these ends.
func change(from api.Addr, fromPort int, to api.Addr, toPort int) rewrite.Change {
	return rewrite.Change{Src: point(from, fromPort), Dst: point(to, toPort)}
}

// ofDocument is the document's own change.
func ofDocument() rewrite.Change { return change(0x05060708, 9000, 0x01020304, 53) }

// far is a change to which each byte is another one.
func far() rewrite.Change { return change(0xa1a2a3a4, 0xb1b2, 0xc1c2c3c4, 0xd1d2) }

// put is what Put tells of a packet that may be.
func put(t *testing.T, h ip.Header, load string) string {
	t.Helper()
	s, e := ip.Put(h, load)
	if e != api.OK {
		t.Fatalf("Put(%v, %d bytes): %d", h, len(load), e)
	}
	return s
}

// carry is a packet between src and dst with a load.
func carry(t *testing.T, proto uint8, load string) string {
	t.Helper()
	return put(t, ip.Header{TTL: 64, Proto: proto, Src: src, Dst: dst}, load)
}

// segment is the bytes of one that may be.
func segment(t *testing.T, h tcp.Header, data string) string {
	t.Helper()
	s, e := tcp.Put(h, data)
	if e != api.OK {
		t.Fatalf("Put(%v): %d", h, e)
	}
	return s
}

// message is the bytes of one that may be.
func message(t *testing.T, kind, code uint8, rest, data string) string {
	t.Helper()
	s, e := icmp.Put(icmp.Message{Type: kind, Code: code, Rest: rest, Data: data})
	if e != api.OK {
		t.Fatalf("Put with %d bytes of Rest: %d", len(rest), e)
	}
	return s
}

// places is where the Sum stands in what a protocol carries.
func places() map[byte]int { return map[byte]int{1: 2, 6: 16, 17: 6} }

// own is how many bytes a packet's header has.
func own(s string) int { return int(s[0]%16) * 4 }

// sumAt is where the Sum stands of what a packet carries.
func sumAt(s string) int { return own(s) + places()[s[9]] }

// sumOf is the Sum of what a packet carries.
func sumOf(s string) int { return at16(s, sumAt(s)) }

// hasSum is a packet that carries what has that Sum.
func hasSum(s string, n int) string { return with(s, sumAt(s), two(n)) }

// sealed is a packet that carries what has a right Sum.
func sealed(s string) string {
	from, to, load := api.Addr(at16(s, 12)<<16|at16(s, 14)), api.Addr(at16(s, 16)<<16|at16(s, 18)), s[own(s):]
	switch s[9] {
	case 6:
		load = tcp.Seal(from, to, load)
	case 17:
		load = udp.Seal(from, to, load)
	case 1:
		load = icmp.Seal(load)
	}
	return s[:own(s)] + load
}

// right tells whether what a packet carries has a right Sum.
func right(t *testing.T, s string) bool {
	t.Helper()
	h, load, reason := ip.Parse(s)
	if reason != api.ReNone {
		t.Fatalf("%x .. is no packet: %d", s[:min(len(s), 60)], reason)
	}
	switch h.Proto {
	case 6:
		return tcp.Check(h.Src, h.Dst, load)
	case 17:
		return udp.Check(h.Src, h.Dst, load)
	}
	return icmp.Check(load)
}

// slowMove is a sum that goes along, word by word.
func slowMove(sum int, from, to string) int {
	n := 65535 - sum
	for at := 0; at < len(from); at += 2 {
		for _, word := range []int{65535 - at16(from, at), at16(to, at)} {
			n += word
			if n > 65535 {
				n -= 65535
			}
		}
	}
	return 65535 - n
}

// slowApply changes a packet's bytes one after the other, where they stand.
func slowApply(s string, c rewrite.Change) (out string, reason int) {
	x, reason := tuples.Of(s)
	if reason != api.ReNone {
		return "", reason
	}
	if x.TTL == 0 || x.TTL == 1 {
		return "", api.ReTTL
	}
	s = s[:at16(s, 2)]
	ports := two(int(c.Src.Port)) + two(int(c.Dst.Port))
	out = with(s, 8, one(int(s[8])-1))
	out = with(out, 12, four(c.Src.IP)+four(c.Dst.IP))
	out = with(out, 10, two(slowMove(at16(s, 10), s[8:10]+s[12:20], out[8:10]+out[12:20])))
	at := own(s)
	if s[9] == 1 {
		return slowMessage(out, at, ports), api.ReNone
	}
	if s[9] == 17 && sumOf(s) == 0 {
		return with(out, at, ports), api.ReNone
	}
	sum := slowMove(sumOf(s), s[12:20]+s[at:at+4], out[12:20]+ports)
	if s[9] == 17 && sum == 0 {
		sum = 65535
	}
	return hasSum(with(out, at, ports), sum), api.ReNone
}

// slowMessage changes the ID of a query that stands at a place.
func slowMessage(s string, at int, ports string) string {
	id := ""
	switch at16(s, at) {
	case 8 * 256, 13 * 256:
		id = ports[:2]
	case 0, 14 * 256:
		id = ports[2:]
	default:
		return s
	}
	sum := slowMove(at16(s, at+2), s[at+4:at+6], id)
	return with(with(s, at+4, id), at+2, two(sum))
}

// short is the bytes of a text that are worth telling.
func short(s string) string { return s[:min(len(s), 64)] }

// checkApply holds what Apply tells against the slow way.
func checkApply(t *testing.T, s string, c rewrite.Change) int {
	t.Helper()
	out, reason := rewrite.Apply(s, c)
	wantOut, want := slowApply(s, c)
	if out != wantOut || reason != want {
		t.Fatalf("Apply(%x .., %d bytes, %v) is %x .., %d bytes, %d, not %x .., %d bytes, %d", short(s), len(s), c, short(out), len(out), reason, short(wantOut), len(wantOut), want)
	}
	return reason
}

// wantApply holds what Apply tells against a packet that is known ahead.
func wantApply(t *testing.T, s string, c rewrite.Change, want string) {
	t.Helper()
	if out, reason := rewrite.Apply(s, c); out != want || reason != api.ReNone {
		t.Fatalf("Apply(%x .., %d bytes, %v) is %x .., %d bytes, %d, not %x .., %d bytes", short(s), len(s), c, short(out), len(out), reason, short(want), len(want))
	}
}

// wantReason asks that Apply tells just why nothing is changed.
func wantReason(t *testing.T, s string, c rewrite.Change, want int) {
	t.Helper()
	if out, reason := rewrite.Apply(s, c); out != "" || reason != want {
		t.Fatalf("Apply(%x .., %d bytes, %v) is %x .., %d bytes, %d, not %d", short(s), len(s), c, short(out), len(out), reason, want)
	}
}

// apply is a packet that must be changed.
func apply(t *testing.T, s string, c rewrite.Change) string {
	t.Helper()
	out, reason := rewrite.Apply(s, c)
	if reason != api.ReNone {
		t.Fatalf("Apply(%x .., %d bytes, %v): %d", short(s), len(s), c, reason)
	}
	return out
}

// anyByte is often the lowest or the highest.
func anyByte(r *rand.Rand) byte {
	return [4]byte{0, 255, byte(r.Intn(256)), byte(r.Intn(256))}[r.Intn(4)]
}

// anyText is so many such bytes.
func anyText(r *rand.Rand, many int) string {
	b := make([]byte, many)
	for i := range b {
		b[i] = anyByte(r)
	}
	return string(b)
}

// any16 is made of such bytes.
func any16(r *rand.Rand) uint16 { return uint16(anyByte(r))<<8 | uint16(anyByte(r)) }

// anyEnd is an endpoint of such numbers.
func anyEnd(r *rand.Rand) api.Endpoint {
	return api.Endpoint{IP: api.Addr(any16(r))<<16 | api.Addr(any16(r)), Port: any16(r)}
}

// anyChange is one to such ends.
func anyChange(r *rand.Rand) rewrite.Change {
	return rewrite.Change{Src: anyEnd(r), Dst: anyEnd(r)}
}

// anyHeader is a header of a packet that may go on, with options or without.
func anyHeader(r *rand.Rand) ip.Header {
	return ip.Header{
		TOS:     anyByte(r),
		ID:      any16(r),
		Flag:    r.Intn(2) == 0,
		TTL:     uint8(2 + r.Intn(254)),
		Proto:   []uint8{api.PrICMP, api.PrTCP, api.PrUDP}[r.Intn(3)],
		Src:     anyEnd(r).IP,
		Dst:     anyEnd(r).IP,
		Options: anyText(r, 4*r.Intn(11)*r.Intn(2)),
	}
}

// anyLoad is what a packet of a protocol may carry.
func anyLoad(t *testing.T, r *rand.Rand, proto uint8) string {
	t.Helper()
	data := anyText(r, r.Intn(20))
	switch proto {
	case api.PrTCP:
		return segment(t, tcp.Header{Src: any16(r), Dst: any16(r), Low: uint8(r.Intn(16)), Flags: anyByte(r), Sum: any16(r), Options: anyText(r, 4*r.Intn(11))}, data)
	case api.PrUDP:
		return udp.Put(udp.Header{Src: any16(r), Dst: any16(r), Sum: any16(r)}, data)
	}
	kinds := []uint8{0, 3, 8, 11, 12, 13, 14}
	m := icmp.Message{Type: kinds[r.Intn(len(kinds))], Sum: any16(r), Rest: anyText(r, 4), Data: data}
	if icmp.Error(m) {
		m.Code = anyByte(r)
	}
	s, _ := icmp.Put(m)
	return s
}

// anyPacket is one that is changed, its sums being right or not.
func anyPacket(t *testing.T, r *rand.Rand) string {
	t.Helper()
	h := anyHeader(r)
	s := put(t, h, anyLoad(t, r, h.Proto))
	if r.Intn(2) == 0 {
		return sealed(s)
	}
	return s
}

// sorts are packets of each sort, with loads of even and of odd lengths.
func sorts(t *testing.T) map[string]string {
	t.Helper()
	h := tcp.Header{Src: 0x1112, Dst: 0x1314, Seq: 0x21222324, Ack: 0x31323334, Low: 5, Flags: tcp.FlSyn, Window: 0x4142, Sum: 0x5152, Urgent: 0x6162}
	optional := h
	optional.Options = "\x71\x72\x73\x74"
	l := map[string]string{
		"tcp":          carry(t, api.PrTCP, segment(t, h, "")),
		"tcp, options": carry(t, api.PrTCP, segment(t, optional, "odd")),
		"udp":          carry(t, api.PrUDP, udp.Put(udp.Header{Src: 0x1112, Dst: 0x1314, Sum: 0x5152}, "data")),
		"udp, alone":   carry(t, api.PrUDP, udp.Put(udp.Header{Src: 0x1112, Dst: 0x1314, Sum: 0x5152}, "")),
		"udp, no sum":  carry(t, api.PrUDP, udp.Put(udp.Header{Src: 0x1112, Dst: 0x1314}, "odd")),
	}
	for name, kind := range map[string]uint8{"echo": 8, "reply": 0, "stamp": 13, "stamped": 14, "nowhere": 3, "time": 11, "wrong": 12} {
		l[name] = carry(t, api.PrICMP, message(t, kind, 0, "\x11\x12\x13\x14", "odd"))
	}
	return l
}

// few are one packet of each sort whose Sum goes its own way.
func few(t *testing.T) map[string]string {
	t.Helper()
	all, l := sorts(t), map[string]string{}
	for _, name := range []string{"tcp, options", "udp", "echo", "reply", "time"} {
		l[name] = all[name]
	}
	return l
}

// the document's examples

const (
	document = "\x45\x00\x00\x1e\x00\x00\x00\x00\x40\x11\x6c\xc9\x0a\x00\x00\x01\x01\x02\x03\x04\x00\x05\x00\x35\x00\x0a\x90\x37ab"
	changed  = "\x45\x00\x00\x1e\x00\x00\x00\x00\x3f\x11\x6b\xbc\x05\x06\x07\x08\x01\x02\x03\x04\x23\x28\x00\x35\x00\x0a\x6b\x07ab"
)

func TestADatagramOfTheDocument(t *testing.T) {
	wantApply(t, document, ofDocument(), changed)
	x, reason := tuples.Of(changed)
	if tuples.Text(x.T) != "udp 5.6.7.8:9000 1.2.3.4:53" || x.TTL != 63 || reason != api.ReNone {
		t.Error(x, reason)
	}
}

func TestReasonsOfTheDocument(t *testing.T) {
	d := udp.Put(udp.Header{Src: 5, Dst: 53}, "")
	wantReason(t, put(t, ip.Header{TTL: 1, Proto: api.PrUDP, Src: src, Dst: dst}, d), ofDocument(), api.ReTTL)
	wantReason(t, document[:3], ofDocument(), api.ReShort)
}

func TestQueriesOfTheDocument(t *testing.T) {
	for kind, want := range map[uint8]uint16{icmp.TyEcho: 9000, icmp.TyReply: 53} {
		out := apply(t, carry(t, api.PrICMP, message(t, kind, 0, "\x00\x07\x00\x01", "")), ofDocument())
		if m, ok := icmp.Parse(out[20:]); icmp.ID(m) != want || m.Rest[2:] != "\x00\x01" || !ok {
			t.Error(kind, m, ok)
		}
	}
}

// P9.1

func TestApplyOfASegment(t *testing.T) {
	wantApply(t,
		"\x45\x00\x00\x28\x00\x00\x00\x00\x40\x06\x6c\xca\x0a\x00\x00\x01\x01\x02\x03\x04\x00\x05\x00\x35\x00\x00\x00\x03\x00\x00\x00\x04\x50\x02\x00\x05\xa1\x96\x00\x00",
		ofDocument(),
		"\x45\x00\x00\x28\x00\x00\x00\x00\x3f\x06\x6b\xbd\x05\x06\x07\x08\x01\x02\x03\x04\x23\x28\x00\x35\x00\x00\x00\x03\x00\x00\x00\x04\x50\x02\x00\x05\x7c\x66\x00\x00")
}

func TestApplyOfQueries(t *testing.T) {
	wantApply(t,
		"\x45\x00\x00\x1e\x00\x00\x00\x00\x40\x01\x6c\xd9\x0a\x00\x00\x01\x01\x02\x03\x04\x08\x00\x96\x95\x00\x07\x00\x01ab",
		ofDocument(),
		"\x45\x00\x00\x1e\x00\x00\x00\x00\x3f\x01\x6b\xcc\x05\x06\x07\x08\x01\x02\x03\x04\x08\x00\x73\x74\x23\x28\x00\x01ab")
	wantApply(t,
		"\x45\x00\x00\x1e\x00\x00\x00\x00\x40\x01\x6c\xd9\x0a\x00\x00\x01\x01\x02\x03\x04\x00\x00\x9e\x95\x00\x07\x00\x01ab",
		ofDocument(),
		"\x45\x00\x00\x1e\x00\x00\x00\x00\x3f\x01\x6b\xcc\x05\x06\x07\x08\x01\x02\x03\x04\x00\x00\x9e\x67\x00\x35\x00\x01ab")
}

func TestApplyOfAnError(t *testing.T) {
	wantApply(t,
		"\x45\x00\x00\x1e\x00\x00\x00\x00\x40\x01\x6c\xd9\x0a\x00\x00\x01\x01\x02\x03\x04\x0b\x00\x12\x34\x00\x07\x00\x01ab",
		ofDocument(),
		"\x45\x00\x00\x1e\x00\x00\x00\x00\x3f\x01\x6b\xcc\x05\x06\x07\x08\x01\x02\x03\x04\x0b\x00\x12\x34\x00\x07\x00\x01ab")
}

// piece is a packet that tells of pieces, its header's sum going along.
func piece(s, what string) string {
	sum := slowMove(at16(s, 10), s[6:8], what)
	return with(with(s, 6, what), 10, two(sum))
}

// TestApplyTellsTheReasonsOfTuples has packets whose TTL is 0 or 1, too: that
// is asked behind all these.
func TestApplyTellsTheReasonsOfTuples(t *testing.T) {
	for _, s := range sorts(t) {
		for _, ttl := range []uint8{0, 1, 2, 64} {
			h, load, _ := ip.Parse(s)
			h.TTL = ttl
			p := put(t, h, load)
			wantReason(t, "", far(), api.ReShort)
			wantReason(t, p[:19], far(), api.ReShort)
			wantReason(t, with(p, 0, "\x65"), far(), api.ReVersion)
			wantReason(t, with(p, 0, "\x44"), far(), api.ReLength)
			wantReason(t, p[:len(p)-1], far(), api.ReLength)
			wantReason(t, with(p, 8, one(int(ttl)+1)), far(), api.ReSum)
			wantReason(t, piece(p, "\x20\x00"), far(), api.ReFragment)
			wantReason(t, piece(p, "\x00\x01"), far(), api.ReFragment)
			wantReason(t, put(t, h, load[:7]), far(), api.ReHeader)
			h.Proto = 2
			wantReason(t, put(t, h, load), far(), api.ReProto)
			h.Proto = api.PrICMP
			wantReason(t, put(t, h, "\x05\x00\x00\x00\x00\x07\x00\x01"), far(), api.ReProto)
			wantReason(t, put(t, h, "\x08\x01\x00\x00\x00\x07\x00\x01"), far(), api.ReProto)
			h.Proto = api.PrUDP
			wantReason(t, put(t, h, udp.Put(udp.Header{}, "data")+"x"), far(), api.ReHeader)
			h.Proto = api.PrTCP
			wantReason(t, put(t, h, cut("\x00", 20)), far(), api.ReHeader)
		}
	}
}

func TestApplyOfEachTTL(t *testing.T) {
	for name, s := range sorts(t) {
		h, load, _ := ip.Parse(s)
		for ttl := range 256 {
			h.TTL = uint8(ttl)
			p := put(t, h, load)
			if ttl < 2 {
				wantReason(t, p, far(), api.ReTTL)
				wantReason(t, p+"behind", rewrite.Change{}, api.ReTTL)
				continue
			}
			checkApply(t, p, far())
			if out := apply(t, p, far()); int(out[8]) != ttl-1 || out[9] != p[9] {
				t.Fatalf("%s, TTL %d: %x", name, ttl, out[8:10])
			}
		}
	}
}

func TestApplyOfEachSum(t *testing.T) {
	for _, s := range few(t) {
		for n := range 65536 {
			checkApply(t, hasSum(s, n), ofDocument())
		}
	}
}

func TestApplyOfEachSumOfHeaders(t *testing.T) {
	for name, s := range few(t) {
		h, load, _ := ip.Parse(s)
		seen := map[int]bool{}
		for n := range 65536 {
			h.ID = uint16(n)
			p := put(t, h, load)
			seen[at16(p, 10)] = true
			checkApply(t, p, ofDocument())
			checkApply(t, p, rewrite.Change{})
		}
		// 0 and 65535, as IDs, come to the same sum.
		if len(seen) != 65535 {
			t.Error(name, len(seen))
		}
	}
}

func TestApplyOfASumOf65535OfHeaders(t *testing.T) {
	for name, s := range sorts(t) {
		h, load, _ := ip.Parse(s)
		h.ID = uint16(at16(s, 10))
		p := put(t, h, load)
		if at16(p, 10) != 0 {
			t.Fatal(name, at16(p, 10))
		}
		// Both sums hold, and both come to the same one.
		want := apply(t, p, far())
		p = with(p, 10, "\xff\xff")
		checkApply(t, p, far())
		wantApply(t, p, far(), want)
	}
}

func TestApplyOfEachPort(t *testing.T) {
	for name, s := range few(t) {
		for n := range 65536 {
			c := change(0x05060708, n, 0x090a0b0c, 65535-n)
			checkApply(t, s, c)
		}
		if s[9] != api.PrICMP {
			out := apply(t, s, change(0x05060708, 0x1234, 0x090a0b0c, 0x5678))
			if out[12:24] != "\x05\x06\x07\x08\x09\x0a\x0b\x0c\x12\x34\x56\x78" {
				t.Errorf("%s: %x", name, out[12:24])
			}
		}
	}
}

func TestApplyOfEachByteOfAddresses(t *testing.T) {
	for _, s := range sorts(t) {
		for shift := 0; shift < 32; shift += 8 {
			for b := range 256 {
				a := api.Addr(b) << shift
				for _, c := range []rewrite.Change{change(a, 5, dst, 53), change(src, 5, a, 53), change(^a, 5, a, 53)} {
					checkApply(t, s, c)
				}
			}
		}
	}
}

func TestApplyOfEachByteAtEachPlaceOfLoads(t *testing.T) {
	for _, s := range sorts(t) {
		for at := 20; at < len(s); at++ {
			for b := range 256 {
				checkApply(t, with(s, at, one(b)), far())
			}
		}
	}
}

// TestApplyLeavesAllElse looks at each byte's place, so that no other one may
// be changed, whatever the slow way does.
func TestApplyLeavesAllElse(t *testing.T) {
	loads := map[byte][]int{6: {0, 1, 2, 3, 16, 17}, 17: {0, 1, 2, 3, 6, 7}, 1: {2, 3, 4, 5}}
	for name, s := range sorts(t) {
		mayChange := map[int]bool{8: true, 10: true, 11: true}
		for at := 12; at < 20; at++ {
			mayChange[at] = true
		}
		for _, at := range loads[s[9]] {
			mayChange[20+at] = name != "nowhere" && name != "time" && name != "wrong"
		}
		out := apply(t, s, far())
		if len(out) != len(s) {
			t.Fatalf("%s: %d bytes of %d", name, len(out), len(s))
		}
		for at := range s {
			if s[at] != out[at] && !mayChange[at] {
				t.Errorf("%s: the byte at %d", name, at)
			}
		}
	}
}

func TestApplyOfAnyOptions(t *testing.T) {
	for name, s := range sorts(t) {
		h, load, _ := ip.Parse(s)
		for many := 0; many <= 40; many += 4 {
			h.TOS, h.ID, h.Flag, h.Options = uint8(0xf1+many), 0xf2f3, many%8 == 0, cut("\xf4\xf5\xf6", many)
			p := put(t, h, load)
			checkApply(t, p, far())
			got, _, reason := ip.Parse(apply(t, p, far()))
			want := h
			want.TTL, want.Src, want.Dst = 63, far().Src.IP, far().Dst.IP
			if got != want || reason != api.ReNone {
				t.Error(name, got, reason)
			}
		}
	}
}

func TestApplyDropsWhatStandsBehind(t *testing.T) {
	r := source(91)
	for _, s := range sorts(t) {
		want := apply(t, s, far())
		for _, many := range []int{1, 2, 3, 20, 2048, 65536, 1 << 20} {
			wantApply(t, s+anyText(r, many), far(), want)
		}
		wantApply(t, s+s, far(), want)
	}
}

func TestApplyOfEachLength(t *testing.T) {
	for many := 0; many <= api.MaxPacket-20-8; many++ {
		data := cut("\x01\xfe\x80", many)
		checkApply(t, carry(t, api.PrUDP, udp.Put(udp.Header{Src: 1, Dst: 2, Sum: 3}, data)), far())
		checkApply(t, carry(t, api.PrICMP, message(t, icmp.TyEcho, 0, "\x00\x07\x00\x01", data)), far())
		checkApply(t, carry(t, api.PrICMP, message(t, icmp.TyTime, 0, "\x00\x07\x00\x01", data)), far())
		if many <= api.MaxPacket-20-20 {
			checkApply(t, carry(t, api.PrTCP, segment(t, tcp.Header{Src: 1, Dst: 2, Sum: 3}, data)), far())
		}
	}
	greatest := carry(t, api.PrUDP, udp.Put(udp.Header{Src: 1, Dst: 2}, cut("x", api.MaxPacket-28)))
	if out := apply(t, greatest, far()); len(out) != api.MaxPacket {
		t.Error(len(out))
	}
}

func TestADatagramWithoutASumHasNone(t *testing.T) {
	for n := range 65536 {
		s := carry(t, api.PrUDP, udp.Put(udp.Header{Src: uint16(n), Dst: 53}, "data"))
		if out := apply(t, s, change(0xffff0000, 65535-n, 0x0000ffff, n)); sumOf(out) != 0 {
			t.Fatal(n, sumOf(out))
		}
	}
}

// TestASumThatWouldBe0 has, for each port, the Sum from which it comes to 0.
func TestASumThatWouldBe0(t *testing.T) {
	for n := range 65536 {
		c := change(0x05060708, n, 0x01020304, 53)
		from, to := four(src)+four(dst)+"\x11\x12\x13\x14", four(c.Src.IP)+four(c.Dst.IP)+two(n)+two(53)
		sum := slowMove(65535, to, from)
		if sum == 0 {
			sum = 65535
		}
		if slowMove(sum, from, to) != 0 {
			t.Fatal(n, sum, slowMove(sum, from, to))
		}
		d := hasSum(carry(t, api.PrUDP, udp.Put(udp.Header{Src: 0x1112, Dst: 0x1314}, "data")), sum)
		if out := apply(t, d, c); sumOf(out) != 65535 {
			t.Fatal(n, sum, sumOf(out))
		}
		g := hasSum(carry(t, api.PrTCP, segment(t, tcp.Header{Src: 0x1112, Dst: 0x1314}, "data")), sum)
		if out := apply(t, g, c); sumOf(out) != 0 {
			t.Fatal(n, sum, sumOf(out))
		}
	}
}

func TestASumThatIsRightAndWouldBe0(t *testing.T) {
	// With this data what is summed comes to nothing behind the change.
	c := change(0x05060708, 9000, 0x01020304, 53)
	data := ""
	for n := range 65536 {
		s := sealed(put(t, ip.Header{TTL: 63, Proto: api.PrUDP, Src: c.Src.IP, Dst: c.Dst.IP}, udp.Put(udp.Header{Src: 9000, Dst: 53}, two(n))))
		if sumOf(s) == 65535 {
			data = two(n)
		}
	}
	out := apply(t, sealed(carry(t, api.PrUDP, udp.Put(udp.Header{Src: 5, Dst: 53}, data))), c)
	if sumOf(out) != 65535 || !right(t, out) || data == "" {
		t.Errorf("%x, %x", out, data)
	}
}

func TestSumsOf65535(t *testing.T) {
	all, none := change(0xffffffff, 65535, 0xffffffff, 65535), rewrite.Change{}
	for _, x := range []struct {
		proto     uint8
		load      string
		from, to  rewrite.Change
		was, want int
	}{
		// a sum of 65535 comes to 0 by words that are alike
		{api.PrTCP, segment(t, tcp.Header{}, ""), none, none, 65535, 0},
		{api.PrTCP, segment(t, tcp.Header{Src: 65535, Dst: 65535}, ""), all, all, 65535, 0},
		{api.PrICMP, message(t, 8, 0, "\x00\x00ab", ""), none, none, 65535, 0},
		{api.PrICMP, message(t, 0, 0, "\xff\xffab", ""), all, all, 65535, 0},
		{api.PrTCP, segment(t, tcp.Header{}, ""), none, none, 0, 0},
		{api.PrICMP, message(t, 8, 0, "\x00\x00ab", ""), none, none, 0, 0},
		// it stays, where each word goes from 65535 to 0
		{api.PrTCP, segment(t, tcp.Header{Src: 65535, Dst: 65535}, ""), all, none, 65535, 65535},
		{api.PrICMP, message(t, 8, 0, "\xff\xffab", ""), all, none, 65535, 65535},
		{api.PrICMP, message(t, 14, 0, "\xff\xffab", ""), all, none, 65535, 65535},
		{api.PrTCP, segment(t, tcp.Header{Src: 65535, Dst: 65535}, ""), all, none, 0, 0},
		{api.PrTCP, segment(t, tcp.Header{}, ""), none, all, 65535, 0},
		// of a datagram it is 65535, each time
		{api.PrUDP, udp.Put(udp.Header{}, ""), none, none, 65535, 65535},
		{api.PrUDP, udp.Put(udp.Header{Src: 65535, Dst: 65535}, ""), all, all, 65535, 65535},
		{api.PrUDP, udp.Put(udp.Header{Src: 65535, Dst: 65535}, ""), all, none, 65535, 65535},
		{api.PrUDP, udp.Put(udp.Header{}, ""), none, all, 65535, 65535},
		{api.PrUDP, udp.Put(udp.Header{}, ""), none, all, 0, 0},
	} {
		s := hasSum(put(t, ip.Header{TTL: 2, Proto: x.proto, Src: x.from.Src.IP, Dst: x.from.Dst.IP}, x.load), x.was)
		checkApply(t, s, x.to)
		if out := apply(t, s, x.to); sumOf(out) != x.want {
			t.Errorf("%x to %v: %d, not %d", s, x.to, sumOf(out), x.want)
		}
	}
}

func TestOfAnErrorNothingIsChanged(t *testing.T) {
	r := source(92)
	for _, kind := range []uint8{3, 11, 12} {
		for code := range 256 {
			load := message(t, kind, uint8(code), anyText(r, 4), anyText(r, r.Intn(60)))
			for _, load := range []string{load, icmp.Seal(load)} {
				s := carry(t, api.PrICMP, load)
				checkApply(t, s, far())
				if out := apply(t, s, far()); out[20:] != load || out[12:20] != "\xa1\xa2\xa3\xa4\xc1\xc2\xc3\xc4" {
					t.Fatalf("%x", out)
				}
			}
		}
	}
}

func TestWhichPortsAreLookedAt(t *testing.T) {
	for name, s := range sorts(t) {
		c := far()
		out := apply(t, s, c)
		c.Src.Port ^= 1
		bySrc := apply(t, s, c) != out
		c = far()
		c.Dst.Port ^= 1
		byDst := apply(t, s, c) != out
		want := [2]bool{true, true}
		switch name {
		case "echo", "stamp":
			want = [2]bool{true, false}
		case "reply", "stamped":
			want = [2]bool{false, true}
		case "nowhere", "time", "wrong":
			want = [2]bool{false, false}
		}
		if bySrc != want[0] || byDst != want[1] {
			t.Error(name, bySrc, byDst)
		}
	}
}

func TestApplyOfEachTypeAndCode(t *testing.T) {
	whole := 0
	for n := range 65536 {
		s := carry(t, api.PrICMP, message(t, uint8(n/256), uint8(n%256), "\x11\x12\x13\x14", "data"))
		if checkApply(t, s, far()) == api.ReNone {
			whole++
		}
	}
	if whole != 4+3*256 {
		t.Error(whole)
	}
}

func TestApplyOfAnyPackets(t *testing.T) {
	r := source(93)
	for range 100000 {
		s := anyPacket(t, r)
		if checkApply(t, s, anyChange(r)) != api.ReNone {
			t.Fatalf("%x is not changed", s)
		}
	}
}

func TestApplyOfPacketsThatAreAlmostRight(t *testing.T) {
	r := source(94)
	told := [16]int{}
	for range 100000 {
		s := anyPacket(t, r)
		switch r.Intn(4) {
		case 0:
			s = s[:r.Intn(len(s))]
		case 1:
			s = with(s, r.Intn(len(s)), one(int(anyByte(r))))
		case 2:
			h, load, _ := ip.Parse(s)
			h.TTL, h.Proto = anyByte(r), []uint8{1, 2, 6, 17}[r.Intn(4)]
			s = put(t, h, load)
		}
		told[checkApply(t, s, anyChange(r))]++
	}
	for _, reason := range []int{api.ReNone, api.ReShort, api.ReLength, api.ReSum, api.ReProto, api.ReHeader, api.ReTTL} {
		if told[reason] < 500 {
			t.Errorf("the reason %d was told %d times", reason, told[reason])
		}
	}
}

func TestApplyOfAnyTexts(t *testing.T) {
	r := source(95)
	for range 50000 {
		checkApply(t, anyText(r, r.Intn(70)), anyChange(r))
	}
	for _, many := range []int{0, 19, 20, 2047, 2048, 2049, 65535, 65536, 1 << 20} {
		for _, piece := range []string{"\x00", "\xff", "\x45\x00\x00\x1c", "\x45"} {
			checkApply(t, cut(piece, many), far())
		}
	}
}

func TestApplyTellsTheSameAgain(t *testing.T) {
	for _, s := range sorts(t) {
		first := apply(t, s, far())
		apply(t, s, ofDocument())
		wantReason(t, s[:5], far(), api.ReShort)
		wantApply(t, s, far(), first)
	}
}

// P9.2

// seenBehind is what is seen of a packet behind a change.
func seenBehind(x tuples.Seen, c rewrite.Change) tuples.Seen {
	x.TTL--
	x.T.Src.IP, x.T.Dst.IP = c.Src.IP, c.Dst.IP
	if x.Kind == tuples.KiError {
		return x
	}
	if x.T.Proto != api.PrICMP || x.Ask {
		x.T.Src.Port = c.Src.Port
	}
	if x.T.Proto != api.PrICMP || !x.Ask {
		x.T.Dst.Port = c.Dst.Port
	}
	return x
}

func TestWhatIsSeenOfAPacketThatIsChanged(t *testing.T) {
	r := source(96)
	for range 50000 {
		s, c := anyPacket(t, r), anyChange(r)
		was, _ := tuples.Of(s)
		x, reason := tuples.Of(apply(t, s, c))
		if x != seenBehind(was, c) || reason != api.ReNone {
			t.Fatalf("%x, %v: %v, %d", s, c, x, reason)
		}
	}
	for name, s := range sorts(t) {
		was, _ := tuples.Of(s)
		if x, reason := tuples.Of(apply(t, s, far())); x != seenBehind(was, far()) || reason != api.ReNone {
			t.Errorf("%s: %v, %d", name, x, reason)
		}
	}
}

func TestItsHeaderHolds(t *testing.T) {
	r := source(97)
	for range 50000 {
		s := anyPacket(t, r)
		out := apply(t, s, anyChange(r))
		if !sums.Holds(out[:own(out)]) || own(out) != own(s) {
			t.Fatalf("%x", out)
		}
	}
}

func TestWhatItCarriesIsRightJustIfItWas(t *testing.T) {
	for name, s := range few(t) {
		c, many := ofDocument(), 0
		for n := range 65536 {
			p := hasSum(s, n)
			ok := right(t, p)
			if right(t, apply(t, p, c)) != ok {
				t.Fatalf("%s with the Sum %d: not %v", name, n, ok)
			}
			if ok {
				many++
			}
		}
		// Of a datagram a Sum of 0 is right beside the one that is; no other
		// one of these packets comes to nothing.
		want := 1
		if s[9] == api.PrUDP {
			want = 2
		}
		if many != want {
			t.Error(name, many)
		}
	}
}

func TestAnySumIsRightJustIfItWas(t *testing.T) {
	r := source(98)
	many := 0
	for range 50000 {
		s, c := anyPacket(t, r), anyChange(r)
		ok, nothing := right(t, s), cut("\x00", len(s)-own(s))
		out := apply(t, s, c)
		if s[9] == api.PrICMP && (s[own(s):] == nothing || out[own(s):] == nothing) {
			continue
		}
		if right(t, out) != ok {
			t.Fatalf("%x is %v, %x is not", s, ok, out)
		}
		if ok {
			many++
		}
	}
	if many < 20000 || many > 35000 {
		t.Error(many)
	}
}

func TestAQueryThatIsNothingButBytes0(t *testing.T) {
	to5, to0 := change(src, 9, dst, 5), change(src, 9, dst, 0)
	for _, data := range []string{"", "\x00", "\x00\x00"} {
		wrong := carry(t, api.PrICMP, message(t, icmp.TyReply, 0, "\x00\x00\x00\x00", data))
		out := apply(t, wrong, to5)
		if right(t, wrong) || out[20:] != "\x00\x00\xff\xfa\x00\x05\x00\x00"+data || !right(t, out) {
			t.Errorf("%x", out)
		}
		out = apply(t, out, to0)
		if out[20:] != cut("\x00", 8+len(data)) || right(t, out) {
			t.Errorf("%x", out)
		}
		// A sum of 65535 is right, and is so behind the change.
		out = apply(t, hasSum(wrong, 65535), to5)
		if !right(t, hasSum(wrong, 65535)) || out[20:28] != "\x00\x00\xff\xfa\x00\x05\x00\x00" || !right(t, out) {
			t.Errorf("%x", out)
		}
	}
}

// P9.3

// alike tells whether two packets are the same, but for their TTLs, their
// headers' sums, and Sums of 0 and 65535 in what they carry. Of a datagram the
// one tells that there is no sum, so that there it may not be the other one.
func alike(a, b string) bool {
	if len(a) != len(b) || a == "" || a[9] != b[9] {
		return false
	}
	if n, m := sumOf(a), sumOf(b); a[9] != api.PrUDP && n != m && n%65535 == 0 && m%65535 == 0 {
		b = hasSum(b, n)
	}
	return a[:8] == b[:8] && a[12:] == b[12:]
}

// wantAlike asks that a packet is another one, so much of its TTL aside.
func wantAlike(t *testing.T, a, b string, less int) {
	t.Helper()
	if !alike(a, b) || int(a[8])-int(b[8]) != less || !sums.Holds(b[:own(b)]) {
		t.Fatalf("%x is %x", a, b)
	}
}

// changeBack is the change to a packet's own ends.
func changeBack(t *testing.T, s string) rewrite.Change {
	t.Helper()
	x, reason := tuples.Of(s)
	if reason != api.ReNone {
		t.Fatal(reason)
	}
	return rewrite.Change{Src: x.T.Src, Dst: x.T.Dst}
}

func TestChangedAndChangedBackItIsThePacket(t *testing.T) {
	r := source(99)
	for range 50000 {
		s := anyPacket(t, r)
		if s[8] < 3 {
			continue
		}
		wantAlike(t, s, apply(t, apply(t, s, anyChange(r)), changeBack(t, s)), 2)
	}
}

func TestEachSumIsThereWhenItIsChangedBack(t *testing.T) {
	for _, s := range few(t) {
		back := changeBack(t, s)
		for n := range 65536 {
			p := hasSum(s, n)
			wantAlike(t, p, apply(t, apply(t, p, ofDocument()), back), 2)
		}
	}
}

func TestChangedTwiceItIsAsChangedTheSecondWay(t *testing.T) {
	r := source(910)
	for range 50000 {
		s, c, d := anyPacket(t, r), anyChange(r), anyChange(r)
		if s[8] < 3 {
			continue
		}
		wantAlike(t, apply(t, s, d), apply(t, apply(t, s, c), d), 1)
	}
}

func TestAPacketGoesOnUntilItsTTLIsOver(t *testing.T) {
	for _, s := range sorts(t) {
		ways := []rewrite.Change{far(), changeBack(t, s), ofDocument(), {}}
		for n := range 63 {
			s = apply(t, s, ways[n%len(ways)])
		}
		if s[8] != 1 {
			t.Error(s[8])
		}
		wantReason(t, s, far(), api.ReTTL)
	}
}
