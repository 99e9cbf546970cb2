package embeds_test

import (
	"math/rand"
	"strings"
	"testing"

	"porter/api"
	"porter/embeds"
	"porter/icmp"
	"porter/ip"
	"porter/rewrite"
	"porter/sums"
	"porter/tcp"
	"porter/tuples"
	"porter/udp"
)

// source tells the same numbers each time.
func source(seed int64) *rand.Rand { return rand.New(rand.NewSource(seed)) }

// one is a number's lowest byte.
func one(n int) string { return string([]byte{byte(n)}) }

// two is a number's two lowest bytes.
func two(n int) string { return string([]byte{byte(n >> 8), byte(n)}) }

// four is an address's bytes.
func four(a api.Addr) string { return two(int(a>>16)) + two(int(a)) }

// with is a text with bytes in the place of as many.
func with(s string, at int, part string) string {
	return s[:at] + part + s[at+len(part):]
}

// cut is so many bytes of a piece, told again and again.
func cut(piece string, many int) string { return strings.Repeat(piece, many)[:many] }

// at16 is the number of two bytes at a place.
func at16(s string, at int) int { return int(s[at])*256 + int(s[at+1]) }

// short is the bytes of a text that are worth telling.
func short(s string) string { return s[:min(len(s), 96)] }

// own is how many bytes a packet's header has.
func own(s string) int { return int(s[0]%16) * 4 }

// dataAt is where the Data stands of a message that a packet carries.
func dataAt(s string) int { return own(s) + 8 }

// dataOf is that Data.
func dataOf(s string) string { return s[dataAt(s):at16(s, 2)] }

// src and dst are the addresses of inner packets that are not any.
const src, dst = api.Addr(0x0a000001), api.Addr(0x01020304)

// host and box are those of errors that are not any.
const host, box = api.Addr(0x08080808), api.Addr(0x09090909)

// point is an endpoint.
func point(a api.Addr, port int) api.Endpoint { return api.Endpoint{IP: a, Port: uint16(port)} }

// change is one to these ends.
func change(from api.Addr, fromPort int, to api.Addr, toPort int) rewrite.Change {
	return rewrite.Change{Src: point(from, fromPort), Dst: point(to, toPort)}
}

// far and deep are changes to which each byte is another one: of the error,
// and of what it is about.
func far() rewrite.Change  { return change(0x81828384, 0x9192, 0x85868788, 0x9394) }
func deep() rewrite.Change { return change(0xa1a2a3a4, 0xb1b2, 0xc1c2c3c4, 0xd1d2) }

// inward is the inner change of those that are known ahead.
func inward() rewrite.Change { return change(src, 5, dst, 53) }

// put is what Put tells of a packet that may be.
func put(t *testing.T, h ip.Header, load string) string {
	t.Helper()
	s, e := ip.Put(h, load)
	if e != api.OK {
		t.Fatalf("Put(%v, %d bytes): %d", h, len(load), e)
	}
	return s
}

// inside is an inner packet that carries a load.
func inside(t *testing.T, proto uint8, load string) string {
	t.Helper()
	return put(t, ip.Header{TTL: 1, Proto: proto, Src: src, Dst: dst}, load)
}

// segment is the bytes of one that may be.
func segment(t *testing.T, h tcp.Header, data string) string {
	t.Helper()
	s, e := tcp.Put(h, data)
	if e != api.OK {
		t.Fatalf("Put(%v): %d", h, e)
	}
	return s
}

// message is the bytes of one that may be.
func message(t *testing.T, m icmp.Message) string {
	t.Helper()
	s, e := icmp.Put(m)
	if e != api.OK {
		t.Fatalf("Put with %d bytes of Rest: %d", len(m.Rest), e)
	}
	return s
}

// query is the bytes of one of a Type and Code.
func query(t *testing.T, kind, code uint8) string {
	t.Helper()
	return icmp.Seal(message(t, icmp.Message{Type: kind, Code: code, Rest: "\x11\x12\x13\x14", Data: "data"}))
}

// about is an error that has Data.
func about(t *testing.T, data string) string {
	t.Helper()
	m := icmp.Message{Type: icmp.TyNowhere, Code: 1, Rest: "\x01\x02\x03\x04", Data: data}
	return put(t, ip.Header{TTL: 64, Proto: api.PrICMP, Src: host, Dst: box}, icmp.Seal(message(t, m)))
}

// places is where the sum stands in the inner bytes of a protocol.
func places() map[byte]int { return map[byte]int{1: 2, 6: 16, 17: 6} }

// sumAt is where the inner bytes of an error's Data have their sum.
func sumAt(s string) int {
	data := s[dataAt(s):]
	return dataAt(s) + own(data) + places()[data[9]]
}

// hasSum tells whether there is one.
func hasSum(s string) bool { return sumAt(s)+2 <= len(s) }

// withInner is an error, other bytes being at a place of its Data.
func withInner(s string, at int, part string) string { return with(s, dataAt(s)+at, part) }

// sealed is an error whose message has a right Sum.
func sealed(s string) string { return s[:own(s)] + icmp.Seal(s[own(s):]) }

// right tells whether an error's message has one.
func right(s string) bool { return icmp.Check(s[own(s):]) }

// sorts are Data of each sort, of even and of odd lengths.
func sorts(t *testing.T) map[string]string {
	t.Helper()
	h := tcp.Header{Src: 0x1112, Dst: 0x1314, Seq: 0x21222324, Ack: 0x31323334, Flags: tcp.FlAck, Window: 0x4142, Urgent: 0x6162}
	g := inside(t, api.PrTCP, tcp.Seal(src, dst, segment(t, h, "odd")))
	d := udp.Seal(src, dst, udp.Put(udp.Header{Src: 0x1112, Dst: 0x1314}, "data"))
	bare := udp.Put(udp.Header{Src: 0x1112, Dst: 0x1314}, "odd")
	optional := ip.Header{TOS: 9, ID: 8, Flag: true, TTL: 7, Proto: api.PrUDP, Src: src, Dst: dst, Options: "\x71\x72\x73\x74"}
	return map[string]string{
		"tcp":             g,
		"tcp of 8 bytes":  g[:28],
		"tcp of 17 bytes": g[:37],
		"tcp of 18 bytes": g[:38],
		"udp":             inside(t, api.PrUDP, d),
		"udp of 9 bytes":  inside(t, api.PrUDP, d)[:29],
		"udp, no sum":     inside(t, api.PrUDP, bare),
		"udp, options":    put(t, optional, d),
		"echo":            inside(t, api.PrICMP, query(t, icmp.TyEcho, 0)),
		"reply":           inside(t, api.PrICMP, query(t, icmp.TyReply, 0)),
		"stamp":           inside(t, api.PrICMP, query(t, icmp.TyStamp, 0))[:29],
		"stamped":         inside(t, api.PrICMP, query(t, icmp.TyStamped, 0))[:28],
	}
}

// few are one of each sort whose sum goes its own way.
func few(t *testing.T) map[string]string {
	t.Helper()
	all, l := sorts(t), map[string]string{}
	for _, name := range []string{"tcp", "udp, options", "echo", "reply"} {
		l[name] = all[name]
	}
	return l
}

// the slow way

// slowInner asks for each thing on its own, where it stands.
func slowInner(s string) (tuple api.Tuple, reason int) {
	x, reason := tuples.Of(s)
	if reason != api.ReNone {
		return api.Tuple{}, reason
	}
	if x.Kind != tuples.KiError {
		return api.Tuple{}, api.ReEmbed
	}
	data := dataOf(s)
	if len(data) < 20 || data[0]/16 != 4 || data[0]%16 < 5 || len(data) < own(data) {
		return api.Tuple{}, api.ReEmbed
	}
	load := data[own(data):]
	if len(load) < 8 || data[6]%32 != 0 || data[7] != 0 {
		return api.Tuple{}, api.ReEmbed
	}
	tuple.Proto = data[9]
	tuple.Src.IP = api.Addr(at16(data, 12)<<16 | at16(data, 14))
	tuple.Dst.IP = api.Addr(at16(data, 16)<<16 | at16(data, 18))
	switch data[9] {
	case 6, 17:
		tuple.Src.Port, tuple.Dst.Port = uint16(at16(load, 0)), uint16(at16(load, 2))
		return tuple, api.ReNone
	case 1:
		return slowQuery(tuple, load)
	}
	return api.Tuple{}, api.ReProto
}

// slowQuery is a tuple with the ID of what a query's bytes are.
func slowQuery(tuple api.Tuple, load string) (with api.Tuple, reason int) {
	switch at16(load, 0) {
	case 8 * 256, 13 * 256:
		tuple.Src.Port = uint16(at16(load, 4))
	case 0, 14 * 256:
		tuple.Dst.Port = uint16(at16(load, 4))
	default:
		return api.Tuple{}, api.ReEmbed
	}
	return tuple, api.ReNone
}

// slowMove is a sum that goes along, word by word.
func slowMove(sum int, from, to string) int {
	n := 65535 - sum
	for at := 0; at < len(from)-1; at += 2 {
		for _, word := range []int{65535 - at16(from, at), at16(to, at)} {
			n += word
			if n > 65535 {
				n -= 65535
			}
		}
	}
	return 65535 - n
}

// slowData changes what a Data begins with, byte by byte.
func slowData(s string, c rewrite.Change) string {
	ends, ports := four(c.Src.IP)+four(c.Dst.IP), two(int(c.Src.Port))+two(int(c.Dst.Port))
	out := with(s, 12, ends)
	out = with(out, 10, two(slowMove(at16(s, 10), s[12:20], ends)))
	at := own(s)
	sum := at + places()[s[9]]
	if s[9] == 1 {
		id := ports[:2]
		if s[at] == 0 || s[at] == 14 {
			id = ports[2:]
		}
		out = with(out, at+4, id)
		return with(out, sum, two(slowMove(at16(s, sum), s[at+4:at+6], id)))
	}
	out = with(out, at, ports)
	if len(s) < sum+2 || s[9] == 17 && s[sum:sum+2] == "\x00\x00" {
		return out
	}
	n := slowMove(at16(s, sum), s[12:20]+s[at:at+4], ends+ports)
	if s[9] == 17 && n == 0 {
		n = 65535
	}
	return with(out, sum, two(n))
}

// slowTranslate changes an error's bytes one after the other.
func slowTranslate(s string, outer, inner rewrite.Change) (out string, reason int) {
	if _, reason = slowInner(s); reason != api.ReNone {
		return "", reason
	}
	if s[8] == 0 || s[8] == 1 {
		return "", api.ReTTL
	}
	data := dataOf(s)
	changed := slowData(data, inner)
	out = s[:dataAt(s)] + changed
	out = with(out, own(s)+2, two(slowMove(at16(s, own(s)+2), data, changed)))
	return rewrite.Apply(out, outer)
}

// what is asked

// checkInner holds what Inner tells against the slow way.
func checkInner(t *testing.T, s string) int {
	t.Helper()
	x, reason := embeds.Inner(s)
	wantX, want := slowInner(s)
	if x != wantX || reason != want {
		t.Fatalf("Inner(%x .., %d bytes) is %v, %d, not %v, %d", short(s), len(s), x, reason, wantX, want)
	}
	return reason
}

// check holds what Inner and Translate tell against the slow way.
func check(t *testing.T, s string, outer, inner rewrite.Change) int {
	t.Helper()
	checkInner(t, s)
	out, reason := embeds.Translate(s, outer, inner)
	wantOut, want := slowTranslate(s, outer, inner)
	if out != wantOut || reason != want {
		t.Fatalf("Translate(%x .., %d bytes, %v, %v) is %x .., %d bytes, %d, not %x .., %d bytes, %d", short(s), len(s), outer, inner, short(out), len(out), reason, short(wantOut), len(wantOut), want)
	}
	return reason
}

// wantTuple asks that what an error is about has just that tuple.
func wantTuple(t *testing.T, s string, want api.Tuple) {
	t.Helper()
	if x, reason := embeds.Inner(s); x != want || reason != api.ReNone {
		t.Fatalf("Inner(%x .., %d bytes) is %v, %d, not %v", short(s), len(s), x, reason, want)
	}
}

// wantText asks that it has the tuple with a text.
func wantText(t *testing.T, s, text string) {
	t.Helper()
	want, e := tuples.Parse(text)
	if e != api.OK {
		t.Fatal(text, e)
	}
	wantTuple(t, s, want)
}

// wantOut asks that an error is translated to one that is known ahead.
func wantOut(t *testing.T, s string, outer, inner rewrite.Change, want string) {
	t.Helper()
	if out, reason := embeds.Translate(s, outer, inner); out != want || reason != api.ReNone {
		t.Fatalf("Translate(%x .., %d bytes, %v, %v) is %x .., %d bytes, %d, not %x .., %d bytes", short(s), len(s), outer, inner, short(out), len(out), reason, short(want), len(want))
	}
}

// wantReason asks that both calls tell why there is nothing, and nothing else.
func wantReason(t *testing.T, s string, want int) {
	t.Helper()
	if x, reason := embeds.Inner(s); x != (api.Tuple{}) || reason != want {
		t.Fatalf("Inner(%x .., %d bytes) is %v, %d, not %d", short(s), len(s), x, reason, want)
	}
	if out, reason := embeds.Translate(s, far(), deep()); out != "" || reason != want {
		t.Fatalf("Translate(%x .., %d bytes) is %x .., %d bytes, %d, not %d", short(s), len(s), short(out), len(out), reason, want)
	}
}

// translate is an error that must be translated.
func translate(t *testing.T, s string, outer, inner rewrite.Change) string {
	t.Helper()
	out, reason := embeds.Translate(s, outer, inner)
	if reason != api.ReNone {
		t.Fatalf("Translate(%x .., %d bytes, %v, %v): %d", short(s), len(s), outer, inner, reason)
	}
	return out
}

// anyByte is often the lowest or the highest.
func anyByte(r *rand.Rand) byte {
	return [4]byte{0, 255, byte(r.Intn(256)), byte(r.Intn(256))}[r.Intn(4)]
}

// anyText is so many such bytes.
func anyText(r *rand.Rand, many int) string {
	b := make([]byte, many)
	for i := range b {
		b[i] = anyByte(r)
	}
	return string(b)
}

// any16 is made of such bytes.
func any16(r *rand.Rand) uint16 { return uint16(anyByte(r))<<8 | uint16(anyByte(r)) }

// anyEnd is an endpoint of such numbers.
func anyEnd(r *rand.Rand) api.Endpoint {
	return api.Endpoint{IP: api.Addr(any16(r))<<16 | api.Addr(any16(r)), Port: any16(r)}
}

// anyChange is one to such ends.
func anyChange(r *rand.Rand) rewrite.Change {
	return rewrite.Change{Src: anyEnd(r), Dst: anyEnd(r)}
}

// anyData is what an error may be about: its header may hold or not.
func anyData(t *testing.T, r *rand.Rand) string {
	t.Helper()
	proto := []uint8{api.PrICMP, api.PrTCP, api.PrUDP}[r.Intn(3)]
	load := anyText(r, 8+r.Intn(24))
	if proto == api.PrICMP {
		load = with(load, 0, one([]int{0, 8, 13, 14}[r.Intn(4)])+"\x00")
	}
	h := ip.Header{TOS: anyByte(r), ID: any16(r), Flag: r.Intn(2) == 0, TTL: anyByte(r), Proto: proto, Src: anyEnd(r).IP, Dst: anyEnd(r).IP, Options: anyText(r, 4*r.Intn(11)*r.Intn(2))}
	s := put(t, h, load)
	if r.Intn(2) == 0 {
		s = with(s, 2, anyText(r, 2)) // the length, by which the header does not hold
	}
	if r.Intn(4) == 0 {
		s = with(s, 10, anyText(r, 2))
	}
	if r.Intn(4) == 0 {
		s = with(s, 6, one(32*r.Intn(8))) // bits of pieces that are not looked at
	}
	return s
}

// anyError is one that is translated, its message's Sum being right or not.
func anyError(t *testing.T, r *rand.Rand) string {
	t.Helper()
	kind := []uint8{icmp.TyNowhere, icmp.TyTime, icmp.TyWrong}[r.Intn(3)]
	m := icmp.Message{Type: kind, Code: anyByte(r), Sum: any16(r), Rest: anyText(r, 4), Data: anyData(t, r)}
	h := ip.Header{TOS: anyByte(r), ID: any16(r), TTL: uint8(2 + r.Intn(254)), Proto: api.PrICMP, Src: anyEnd(r).IP, Dst: anyEnd(r).IP, Options: anyText(r, 4*r.Intn(11)*r.Intn(2))}
	s := put(t, h, message(t, m))
	if r.Intn(2) == 0 {
		return sealed(s)
	}
	return s
}

// the document's examples

const (
	document  = "\x45\x00\x00\x38\x00\x00\x00\x00\x40\x01\x6c\xbf\x01\x02\x03\x04\x0a\x00\x00\x01\x03\x01\x0b\x1f\x00\x00\x00\x00\x45\x00\x00\x1c\x00\x00\x00\x00\x40\x11\x6c\xcb\x0a\x00\x00\x01\x01\x02\x03\x04\x00\x05\x00\x35\x00\x08\xf1\x9d"
	documents = "\x45\x00\x00\x38\x00\x00\x00\x00\x3f\x01\x6b\xb2\x01\x02\x03\x04\x05\x06\x07\x08\x03\x01\x0d\x2c\x00\x00\x00\x00\x45\x00\x00\x1c\x00\x00\x00\x00\x40\x11\x6a\xbe\x05\x06\x07\x08\x01\x02\x03\x04\x23\x28\x00\x35\x00\x08\xcc\x6d"
)

func TestAnErrorOfTheDocument(t *testing.T) {
	wantText(t, document, "udp 10.0.0.1:5 1.2.3.4:53")
	wantOut(t, document, change(dst, 0, 0x05060708, 0), change(0x05060708, 9000, dst, 53), documents)
	wantText(t, documents, "udp 5.6.7.8:9000 1.2.3.4:53")
}

func TestReasonsOfTheDocument(t *testing.T) {
	d := inside(t, api.PrUDP, udp.Put(udp.Header{Src: 5, Dst: 53}, ""))
	wantReason(t, about(t, d[:27]), api.ReEmbed)
	wantReason(t, d, api.ReEmbed)
	wantReason(t, about(t, inside(t, api.PrICMP, query(t, icmp.TyNowhere, 0))), api.ReEmbed)
}

// P10.1

func TestInnerOfEachSort(t *testing.T) {
	for name, data := range sorts(t) {
		want := api.Tuple{Proto: data[9], Src: point(src, 0x1112), Dst: point(dst, 0x1314)}
		switch name {
		case "echo", "stamp":
			want.Dst.Port = 0
		case "reply", "stamped":
			want.Src.Port, want.Dst.Port = 0, 0x1112
		}
		wantTuple(t, about(t, data), want)
	}
}

func TestInnerOfEachTypeAndCodeOfErrors(t *testing.T) {
	d := sorts(t)["udp"]
	want, _ := embeds.Inner(about(t, d))
	for _, kind := range []uint8{icmp.TyNowhere, icmp.TyTime, icmp.TyWrong} {
		for code := range 256 {
			m := icmp.Message{Type: kind, Code: uint8(code), Rest: two(code) + "\xff\x00", Data: d}
			wantTuple(t, put(t, ip.Header{Proto: api.PrICMP, Options: cut("opt.", 4*(code%11))}, message(t, m)), want)
		}
	}
}

// piece is a packet that tells of pieces, its header's sum going along.
func piece(s, what string) string {
	sum := slowMove(at16(s, 10), s[6:8], what)
	return with(with(s, 6, what), 10, two(sum))
}

// TestTheReasonsOfTuples has errors about nothing that can be read, and a TTL
// of 0 or 1, too: all that is asked behind these.
func TestTheReasonsOfTuples(t *testing.T) {
	for _, data := range []string{"", sorts(t)["udp"], sorts(t)["udp"][:27], with(sorts(t)["udp"], 9, "\x02")} {
		for _, ttl := range []uint8{0, 1, 2, 64} {
			h := ip.Header{TTL: ttl, Proto: api.PrICMP, Src: host, Dst: box}
			load := message(t, icmp.Message{Type: icmp.TyTime, Rest: "rest", Data: data})
			p := put(t, h, load)
			wantReason(t, "", api.ReShort)
			wantReason(t, p[:19], api.ReShort)
			wantReason(t, with(p, 0, "\x65"), api.ReVersion)
			wantReason(t, with(p, 0, "\x44"), api.ReLength)
			wantReason(t, p[:len(p)-1], api.ReLength)
			wantReason(t, with(p, 8, one(int(ttl)+1)), api.ReSum)
			wantReason(t, piece(p, "\x20\x00"), api.ReFragment)
			wantReason(t, piece(p, "\x00\x01"), api.ReFragment)
			wantReason(t, put(t, h, load[:7]), api.ReHeader)
			wantReason(t, put(t, h, with(load, 0, "\x05")), api.ReProto)
			wantReason(t, put(t, h, with(load, 0, "\x08\x01")), api.ReProto)
			h.Proto = 2
			wantReason(t, put(t, h, load), api.ReProto)
			h.Proto = api.PrUDP
			wantReason(t, put(t, h, udp.Put(udp.Header{}, data)+"x"), api.ReHeader)
			h.Proto = api.PrTCP
			wantReason(t, put(t, h, cut("\x00", 20)+data), api.ReHeader)
		}
	}
}

// TestWhatIsNoError has packets that carry what would be an error's Data, and
// a TTL of 0 or 1, too.
func TestWhatIsNoError(t *testing.T) {
	for _, data := range sorts(t) {
		for _, ttl := range []uint8{0, 1, 2, 64} {
			h := ip.Header{TTL: ttl, Proto: api.PrTCP, Src: host, Dst: box}
			wantReason(t, put(t, h, segment(t, tcp.Header{Src: 0x0301}, data)), api.ReEmbed)
			h.Proto = api.PrUDP
			wantReason(t, put(t, h, udp.Put(udp.Header{Src: 0x0301}, data)), api.ReEmbed)
			h.Proto = api.PrICMP
			for _, kind := range []uint8{icmp.TyEcho, icmp.TyReply, icmp.TyStamp, icmp.TyStamped} {
				wantReason(t, put(t, h, message(t, icmp.Message{Type: kind, Rest: "rest", Data: data})), api.ReEmbed)
			}
		}
		check(t, data, far(), deep())
	}
}

func TestEachLengthOfData(t *testing.T) {
	for name, data := range sorts(t) {
		for many := range len(data) + 1 {
			s := about(t, data[:many])
			want := api.ReNone
			if many < own(data)+8 {
				want = api.ReEmbed
			}
			if got := check(t, s, far(), deep()); got != want {
				t.Fatalf("%s, %d bytes: %d", name, many, got)
			}
		}
	}
}

func TestEachFirstByteOfDataOfEachLength(t *testing.T) {
	for _, proto := range []int{1, 2, 6, 17} {
		many := with(cut("\x00", 80), 9, one(proto))
		for first := range 256 {
			for length := 1; length <= len(many); length++ {
				s := about(t, with(many, 0, one(first))[:length])
				want := api.ReEmbed
				if first/16 == 4 && first%16 >= 5 && length >= first%16*4+8 {
					want = map[int]int{1: api.ReNone, 2: api.ReProto, 6: api.ReNone, 17: api.ReNone}[proto]
				}
				if got := checkInner(t, s); got != want {
					t.Fatalf("protocol %d, first byte %x, %d bytes: %d", proto, first, length, got)
				}
			}
		}
	}
}

// TestNoBytesBehindAreTheDatas has all that is missing behind the packet.
func TestNoBytesBehindAreTheDatas(t *testing.T) {
	for _, data := range sorts(t) {
		for many := range own(data) + 8 {
			wantReason(t, about(t, data[:many])+data[many:], api.ReEmbed)
			wantReason(t, about(t, data[:many])+cut("\x45", 100), api.ReEmbed)
		}
	}
}

func TestAllThatTellsOfPieces(t *testing.T) {
	s := about(t, sorts(t)["udp"])
	whole := 0
	for n := range 65536 {
		want := api.ReEmbed
		if n%8192 == 0 {
			want = api.ReNone
			whole++
		}
		if got := checkInner(t, withInner(s, 6, two(n))); got != want {
			t.Fatalf("%x: %d", n, got)
		}
	}
	if whole != 8 {
		t.Error(whole)
	}
}

func TestEachInnerProtocol(t *testing.T) {
	for name, data := range sorts(t) {
		s := about(t, data)
		for proto := range 256 {
			want := api.ReProto
			switch {
			case proto == 6 || proto == 17:
				want = api.ReNone
			case proto == 1 && data[9] == 1:
				want = api.ReNone
			case proto == 1: // ports where a query has its Type and Code
				want = api.ReEmbed
			}
			if got := check(t, withInner(s, 9, one(proto)), far(), deep()); got != want {
				t.Fatalf("%s, protocol %d: %d", name, proto, got)
			}
		}
	}
}

func TestEachInnerTypeAndCode(t *testing.T) {
	s := about(t, sorts(t)["echo"])
	whole := 0
	for n := range 65536 {
		if check(t, withInner(s, 20, two(n)), far(), deep()) == api.ReNone {
			whole++
		}
	}
	if whole != 4 {
		t.Error(whole)
	}
}

// TestWhichReasonIsFirst has two faults of the Data at once.
func TestWhichReasonIsFirst(t *testing.T) {
	d := sorts(t)["udp"]
	other := with(d, 9, "\x02")
	wantReason(t, about(t, other), api.ReProto)
	wantReason(t, about(t, other[:28]), api.ReProto)
	wantReason(t, about(t, other[:27]), api.ReEmbed)
	wantReason(t, about(t, with(other, 0, "\x55")), api.ReEmbed)
	wantReason(t, about(t, with(other, 0, "\x44")), api.ReEmbed)
	wantReason(t, about(t, with(other, 0, "\x4f")), api.ReEmbed)
	wantReason(t, about(t, with(other, 7, "\x01")), api.ReEmbed)
	bad := with(sorts(t)["echo"], 20, "\x05")
	wantReason(t, about(t, bad), api.ReEmbed)
	wantReason(t, about(t, with(bad, 9, "\x02")), api.ReProto)
}

func TestEachPortAndIDOfInner(t *testing.T) {
	for name, data := range few(t) {
		s := about(t, data)
		for n := range 65536 {
			p := withInner(s, own(data), two(n)+two(65535-n))
			want := api.Tuple{Proto: data[9], Src: point(src, n), Dst: point(dst, 65535-n)}
			switch name {
			case "echo":
				p = withInner(s, 24, two(n))
				want.Dst.Port = 0
			case "reply":
				p = withInner(s, 24, two(n))
				want.Src.Port, want.Dst.Port = 0, uint16(n)
			}
			wantTuple(t, p, want)
		}
	}
}

func TestWhatInnerDoesNotLookAt(t *testing.T) {
	for name, data := range sorts(t) {
		s := about(t, data)
		want, reason := embeds.Inner(s)
		if reason != api.ReNone {
			t.Fatal(name, reason)
		}
		others := []int{1, 2, 3, 4, 5, 8, 10, 11}
		for at := 20; at < len(data); at++ {
			if data[9] != 1 && at >= own(data)+4 || data[9] == 1 && at > 21 && at != 24 && at != 25 || at < own(data) {
				others = append(others, at)
			}
		}
		for _, at := range others {
			for b := range 256 {
				wantTuple(t, withInner(s, at, one(b)), want)
			}
		}
		for n := range 65536 {
			wantTuple(t, with(s, 22, two(n)), want)
		}
	}
}

// P10.2

func TestTranslateOfADatagram(t *testing.T) {
	wantOut(t,
		"\x45\x00\x00\x3a\x00\x00\x00\x00\x40\x01\x58\xa2\x08\x08\x08\x08\x09\x09\x09\x09\x03\x01\x13\x32\x00\x00\x00\x00\x45\x00\x00\x1e\x00\x00\x00\x00\x01\x11\xa3\xb8\x09\x09\x09\x09\x01\x02\x03\x04\x23\x28\x00\x35\x00\x0a\x65\x03ab",
		change(host, 1, src, 2), inward(),
		"\x45\x00\x00\x3a\x00\x00\x00\x00\x3f\x01\x61\xb3\x08\x08\x08\x08\x0a\x00\x00\x01\x03\x01\x0b\x21\x00\x00\x00\x00\x45\x00\x00\x1e\x00\x00\x00\x00\x01\x11\xab\xc9\x0a\x00\x00\x01\x01\x02\x03\x04\x00\x05\x00\x35\x00\x0a\x90\x37ab")
}

// TestTranslateOfASegment has an odd length, and a segment of which the first
// 8 bytes are there alone, so that the message's Sum goes along otherwise.
func TestTranslateOfASegment(t *testing.T) {
	wantOut(t,
		"\x45\x00\x00\x45\x00\x00\x00\x00\x40\x01\x58\x97\x08\x08\x08\x08\x09\x09\x09\x09\x03\x01\x13\x32\x00\x00\x00\x00\x45\x00\x00\x29\x00\x00\x00\x00\x01\x06\xa3\xb8\x09\x09\x09\x09\x01\x02\x03\x04\x23\x28\x00\x35\x00\x00\x00\x03\x00\x00\x00\x04\x50\x10\x00\x05\x15\x53\x00\x00a",
		change(host, 1, src, 2), inward(),
		"\x45\x00\x00\x45\x00\x00\x00\x00\x3f\x01\x61\xa8\x08\x08\x08\x08\x0a\x00\x00\x01\x03\x01\x0b\x21\x00\x00\x00\x00\x45\x00\x00\x29\x00\x00\x00\x00\x01\x06\xab\xc9\x0a\x00\x00\x01\x01\x02\x03\x04\x00\x05\x00\x35\x00\x00\x00\x03\x00\x00\x00\x04\x50\x10\x00\x05\x40\x87\x00\x00a")
	wantOut(t,
		"\x45\x00\x00\x38\x00\x00\x00\x00\x40\x01\x58\xa4\x08\x08\x08\x08\x09\x09\x09\x09\x03\x01\xd9\x9e\x00\x00\x00\x00\x45\x00\x00\x29\x00\x00\x00\x00\x01\x06\xa3\xb8\x09\x09\x09\x09\x01\x02\x03\x04\x23\x28\x00\x35\x00\x00\x00\x03",
		change(host, 1, src, 2), inward(),
		"\x45\x00\x00\x38\x00\x00\x00\x00\x3f\x01\x61\xb5\x08\x08\x08\x08\x0a\x00\x00\x01\x03\x01\xfc\xc1\x00\x00\x00\x00\x45\x00\x00\x29\x00\x00\x00\x00\x01\x06\xab\xc9\x0a\x00\x00\x01\x01\x02\x03\x04\x00\x05\x00\x35\x00\x00\x00\x03")
}

func TestTranslateOfQueries(t *testing.T) {
	wantOut(t,
		"\x45\x00\x00\x3a\x00\x00\x00\x00\x40\x01\x58\xa2\x08\x08\x08\x08\x09\x09\x09\x09\x03\x01\xfc\xfe\x00\x00\x00\x00\x45\x00\x00\x1e\x00\x00\x00\x00\x01\x01\xa3\xc8\x09\x09\x09\x09\x01\x02\x03\x04\x08\x00\x73\x74\x23\x28\x00\x01ab",
		change(host, 1, src, 2), inward(),
		"\x45\x00\x00\x3a\x00\x00\x00\x00\x3f\x01\x61\xb3\x08\x08\x08\x08\x0a\x00\x00\x01\x03\x01\xfc\xfe\x00\x00\x00\x00\x45\x00\x00\x1e\x00\x00\x00\x00\x01\x01\xab\xd9\x0a\x00\x00\x01\x01\x02\x03\x04\x08\x00\x96\x97\x00\x05\x00\x01ab")
	wantOut(t,
		"\x45\x00\x00\x38\x00\x00\x00\x00\x40\x01\x58\xa4\x08\x08\x08\x08\x09\x09\x09\x09\x03\x01\xfc\xfe\x00\x00\x00\x00\x45\x00\x00\x1c\x00\x00\x00\x00\x01\x01\xa3\xca\x01\x02\x03\x04\x09\x09\x09\x09\x00\x00\xdc\xd6\x23\x28\x00\x01",
		change(host, 1, src, 2), change(dst, 53, src, 5),
		"\x45\x00\x00\x38\x00\x00\x00\x00\x3f\x01\x61\xb5\x08\x08\x08\x08\x0a\x00\x00\x01\x03\x01\xfc\xfe\x00\x00\x00\x00\x45\x00\x00\x1c\x00\x00\x00\x00\x01\x01\xab\xdb\x01\x02\x03\x04\x0a\x00\x00\x01\x00\x00\xff\xf9\x00\x05\x00\x01")
}

// TestEachTTL has errors about nothing that can be read, too, of which that is
// told, whatever their TTL.
func TestEachTTL(t *testing.T) {
	for _, data := range sorts(t) {
		h, load, _ := ip.Parse(about(t, data))
		for ttl := range 256 {
			h.TTL = uint8(ttl)
			s := put(t, h, load)
			reason := check(t, s, far(), deep())
			if (reason == api.ReTTL) != (ttl < 2) || (reason == api.ReNone) != (ttl >= 2) {
				t.Fatal(ttl, reason)
			}
			if ttl >= 2 && int(translate(t, s, far(), deep())[8]) != ttl-1 {
				t.Fatal(ttl)
			}
			wantReason(t, put(t, h, load[:35]), api.ReEmbed)
			wantReason(t, put(t, h, with(load, 17, "\x02")), api.ReProto)
		}
	}
}

func TestInnerDoesNotLookAtTheTTL(t *testing.T) {
	for _, data := range sorts(t) {
		h, load, _ := ip.Parse(about(t, data))
		want, _ := embeds.Inner(about(t, data))
		for ttl := range 256 {
			h.TTL = uint8(ttl)
			wantTuple(t, put(t, h, load), want)
		}
	}
}

// sumsOf is an error whose three sums come from a number, each in its own
// way: over all numbers each of them is each number once.
func sumsOf(s string, n int) string {
	s = withInner(with(s, 22, two(n)), 10, two(65535-n))
	if hasSum(s) {
		s = with(s, sumAt(s), two(n^0x5a5a))
	}
	return s
}

func TestEachSum(t *testing.T) {
	for _, data := range few(t) {
		s := about(t, data)
		for n := range 65536 {
			check(t, sumsOf(s, n), far(), deep())
		}
	}
}

func TestEachPortAndIDOfChanges(t *testing.T) {
	for _, data := range few(t) {
		s := about(t, data)
		for n := range 65536 {
			check(t, s, change(box, 65535-n, host, n), change(src, n, dst, 65535-n))
		}
	}
}

func TestEachByteOfAddresses(t *testing.T) {
	for _, data := range sorts(t) {
		s := about(t, data)
		for shift := 0; shift < 32; shift += 8 {
			for b := range 256 {
				a := api.Addr(b) << shift
				check(t, s, change(a, 1, box, 2), change(host, 5, a, 53))
				check(t, s, change(host, 1, a, 2), change(a, 5, ^a, 53))
			}
		}
	}
}

func TestEachByteAtEachPlaceOfData(t *testing.T) {
	for _, data := range sorts(t) {
		s := about(t, data)
		for at := range data {
			for b := range 256 {
				check(t, withInner(s, at, one(b)), far(), deep())
			}
		}
	}
}

func TestTranslateOfAnyOptions(t *testing.T) {
	for _, data := range sorts(t) {
		inner, load, _ := ip.Parse(put(t, ip.Header{TTL: 1, Proto: data[9], Src: src, Dst: dst}, data[own(data):]))
		outer := ip.Header{TOS: 0xf1, ID: 0xf2f3, Flag: true, TTL: 9, Proto: api.PrICMP, Src: host, Dst: box}
		for many := 0; many <= 40; many += 4 {
			for most := 0; most <= 40; most += 4 {
				inner.Options, outer.Options = cut("\xf4\xf5\xf6", many), cut("\x01\xfe\x80", most)
				m := icmp.Message{Type: icmp.TyWrong, Rest: "rest", Data: put(t, inner, load)}
				s := put(t, outer, message(t, m))
				if reason := check(t, s, far(), deep()); reason != api.ReNone {
					t.Fatal(many, most, reason)
				}
				out := translate(t, s, far(), deep())
				if out[20:20+most] != outer.Options || out[48+most:48+most+many] != inner.Options {
					t.Fatal(many, most)
				}
			}
		}
	}
}

func TestTranslateDropsWhatStandsBehind(t *testing.T) {
	r := source(101)
	for _, data := range sorts(t) {
		s := about(t, data)
		want := translate(t, s, far(), deep())
		for _, many := range []int{1, 2, 3, 20, 2048, 65536, 1 << 20} {
			wantOut(t, s+anyText(r, many), far(), deep(), want)
		}
		wantOut(t, s+s, far(), deep(), want)
	}
}

func TestTranslateOfEachLength(t *testing.T) {
	for _, data := range few(t) {
		for many := len(data); many <= api.MaxPacket-28; many++ {
			s := about(t, data+cut("\x01\xfe\x80", many-len(data)))
			if check(t, s, far(), deep()) != api.ReNone {
				t.Fatal(many)
			}
		}
		s := about(t, data+cut("\xff", api.MaxPacket-28-len(data)))
		if out := translate(t, s, far(), deep()); len(out) != api.MaxPacket {
			t.Error(len(out))
		}
	}
}

func TestADatagramWithoutASumHasNone(t *testing.T) {
	s := about(t, sorts(t)["udp, no sum"])
	for n := range 65536 {
		out := translate(t, s, far(), change(0xffff0000, 65535-n, 0x0000ffff, n))
		if at16(out, sumAt(out)) != 0 || at16(out, sumAt(out)-6) != 65535-n {
			t.Fatal(n, at16(out, sumAt(out)))
		}
	}
}

// TestASumThatWouldBe0 has, for each port, the sum from which it comes to 0.
func TestASumThatWouldBe0(t *testing.T) {
	datagram, seg := about(t, sorts(t)["udp"]), about(t, sorts(t)["tcp of 18 bytes"])
	for n := range 65536 {
		c := change(0x05060708, n, 0x01020304, 53)
		from := four(src) + four(dst) + "\x11\x12\x13\x14"
		to := four(c.Src.IP) + four(c.Dst.IP) + two(n) + two(53)
		sum := slowMove(65535, to, from)
		if sum == 0 {
			sum = 65535
		}
		if slowMove(sum, from, to) != 0 {
			t.Fatal(n, sum, slowMove(sum, from, to))
		}
		out := translate(t, sealed(with(datagram, sumAt(datagram), two(sum))), far(), c)
		if at16(out, sumAt(out)) != 65535 || !right(out) {
			t.Fatal(n, sum, at16(out, sumAt(out)))
		}
		out = translate(t, sealed(with(seg, sumAt(seg), two(sum))), far(), c)
		if at16(out, sumAt(out)) != 0 || !right(out) {
			t.Fatal(n, sum, at16(out, sumAt(out)))
		}
	}
}

// TestInnerBytesOf0 has no sum that would be none: of ICMP and of TCP 0 is one.
func TestInnerBytesOf0(t *testing.T) {
	q := about(t, inside(t, api.PrICMP, cut("\x00", 8)))
	out := translate(t, q, far(), change(src, 9, dst, 5))
	if dataOf(out)[20:] != "\x00\x00\xff\xfa\x00\x05\x00\x00" || !right(out) {
		t.Errorf("%x", out)
	}
	g := about(t, inside(t, api.PrTCP, cut("\x00", 20)))
	out = translate(t, g, far(), change(src, 9, dst, 5))
	if dataOf(out)[20:] != "\x00\x09\x00\x05"+cut("\x00", 12)+"\xff\xf1\x00\x00" || !right(out) {
		t.Errorf("%x", out)
	}
}

// TestSumsOf65535 has changes to the same ends: such words are gone over, too.
func TestSumsOf65535(t *testing.T) {
	for name, data := range sorts(t) {
		s := about(t, data)
		x, _ := embeds.Inner(s)
		same := rewrite.Change{Src: x.Src, Dst: x.Dst}
		s = with(withInner(s, 10, "\xff\xff"), 22, "\xff\xff")
		if hasSum(s) && name != "udp, no sum" {
			s = with(s, sumAt(s), "\xff\xff")
		}
		out := translate(t, s, far(), same)
		if at16(dataOf(out), 10) != 0 || at16(out, 22) != 0 {
			t.Errorf("%s: %x", name, out)
		}
		want := 0
		if data[9] == 17 && name != "udp, no sum" {
			want = 65535
		}
		if hasSum(s) && at16(out, sumAt(out)) != want {
			t.Errorf("%s: %x", name, out)
		}
	}
}

func TestWhichPortsAreLookedAt(t *testing.T) {
	for name, data := range sorts(t) {
		s, c := about(t, data), deep()
		out := translate(t, s, far(), c)
		c.Src.Port ^= 1
		bySrc := translate(t, s, far(), c) != out
		c = deep()
		c.Dst.Port ^= 1
		byDst := translate(t, s, far(), c) != out
		want := [2]bool{true, true}
		switch name {
		case "echo", "stamp":
			want = [2]bool{true, false}
		case "reply", "stamped":
			want = [2]bool{false, true}
		}
		if bySrc != want[0] || byDst != want[1] {
			t.Error(name, bySrc, byDst)
		}
		c = far()
		c.Src.Port, c.Dst.Port = 0, 65535
		wantOut(t, s, c, deep(), out)
	}
}

func TestTranslateOfAnyErrors(t *testing.T) {
	r := source(102)
	for range 100000 {
		s := anyError(t, r)
		if check(t, s, anyChange(r), anyChange(r)) != api.ReNone {
			t.Fatalf("%x is not translated", s)
		}
	}
}

func TestTranslateOfErrorsThatAreAlmostRight(t *testing.T) {
	r := source(103)
	told := [16]int{}
	for range 100000 {
		s := anyError(t, r)
		h, load, _ := ip.Parse(s)
		switch r.Intn(5) {
		case 0:
			s = s[:r.Intn(len(s))]
		case 1:
			s = with(s, r.Intn(len(s)), one(int(anyByte(r))))
		case 2:
			h.TTL, h.Proto = anyByte(r), []uint8{1, 1, 2, 6, 17}[r.Intn(5)]
			s = put(t, h, load)
		case 3:
			s = put(t, h, with(load, 8+r.Intn(len(load)-8), one(int(anyByte(r)))))
		case 4:
			s = put(t, h, load[:r.Intn(len(load))])
		}
		told[check(t, s, anyChange(r), anyChange(r))]++
	}
	for _, reason := range []int{api.ReNone, api.ReShort, api.ReLength, api.ReSum, api.ReProto, api.ReHeader, api.ReTTL, api.ReEmbed} {
		if told[reason] < 500 {
			t.Errorf("the reason %d was told %d times", reason, told[reason])
		}
	}
}

func TestAnyTexts(t *testing.T) {
	r := source(104)
	for range 50000 {
		check(t, anyText(r, r.Intn(90)), anyChange(r), anyChange(r))
		check(t, about(t, anyText(r, r.Intn(90))), anyChange(r), anyChange(r))
		check(t, about(t, one(0x45+r.Intn(11))+anyText(r, r.Intn(90))), anyChange(r), anyChange(r))
	}
	for _, many := range []int{0, 19, 20, 2047, 2048, 2049, 65535, 65536, 1 << 20} {
		for _, piece := range []string{"\x00", "\xff", "\x45\x00\x00\x1c", "\x45"} {
			check(t, cut(piece, many), far(), deep())
		}
	}
}

func TestTheSameIsToldAgain(t *testing.T) {
	for _, data := range sorts(t) {
		s := about(t, data)
		x, _ := embeds.Inner(s)
		first := translate(t, s, far(), deep())
		translate(t, s, deep(), far())
		wantReason(t, s[:5], api.ReShort)
		wantTuple(t, s, x)
		wantOut(t, s, far(), deep(), first)
	}
}

// P10.3

// innerBehind is the inner tuple behind a change.
func innerBehind(x api.Tuple, kind byte, c rewrite.Change) api.Tuple {
	want := api.Tuple{Proto: x.Proto, Src: c.Src, Dst: c.Dst}
	if x.Proto == api.PrICMP && (kind == 8 || kind == 13) {
		want.Dst.Port = 0
	}
	if x.Proto == api.PrICMP && (kind == 0 || kind == 14) {
		want.Src.Port = 0
	}
	return want
}

func TestInnerOfWhatWasTranslated(t *testing.T) {
	r := source(105)
	for range 50000 {
		s, c := anyError(t, r), anyChange(r)
		x, _ := embeds.Inner(s)
		kind := dataOf(s)[own(dataOf(s))]
		wantTuple(t, translate(t, s, anyChange(r), c), innerBehind(x, kind, c))
	}
}

func TestWhatIsSeenIsWhatApplyMakes(t *testing.T) {
	r := source(106)
	for range 50000 {
		s, c := anyError(t, r), anyChange(r)
		applied, _ := rewrite.Apply(s, c)
		want, _ := tuples.Of(applied)
		out := translate(t, s, c, anyChange(r))
		x, reason := tuples.Of(out)
		if x != want || reason != api.ReNone || x.Kind != tuples.KiError {
			t.Fatalf("%x: %v, %d, not %v", s, x, reason, want)
		}
		if out[:own(out)] != applied[:own(applied)] || len(out) != len(applied) {
			t.Fatalf("%x is %x, not %x", s, out, applied)
		}
	}
}

func TestTheInnerHeaderHoldsJustIfItDid(t *testing.T) {
	r := source(107)
	many := 0
	for range 50000 {
		s := anyError(t, r)
		out := translate(t, s, anyChange(r), anyChange(r))
		was, is := dataOf(s), dataOf(out)
		held := sums.Holds(was[:own(was)])
		if sums.Holds(is[:own(is)]) != held {
			t.Fatalf("%x: not %v", s, held)
		}
		if held {
			many++
		}
	}
	if many < 10000 || many > 35000 {
		t.Error(many)
	}
}

func TestTheMessagesSumIsRightJustIfItWas(t *testing.T) {
	r := source(108)
	many := 0
	for range 50000 {
		s := anyError(t, r)
		ok := right(s)
		if right(translate(t, s, anyChange(r), anyChange(r))) != ok {
			t.Fatalf("%x: not %v", s, ok)
		}
		if ok {
			many++
		}
	}
	if many < 20000 || many > 35000 {
		t.Error(many)
	}
	for name, data := range few(t) {
		s, many := about(t, data), 0
		for n := range 65536 {
			p := with(s, 22, two(n))
			ok := right(p)
			if right(translate(t, p, far(), deep())) != ok {
				t.Fatal(name, n, ok)
			}
			if ok {
				many++
			}
		}
		if many != 1 {
			t.Error(name, many)
		}
	}
}

// TestWhatIsCarriedIsRightJustIfItWas has packets that are whole in the Data.
func TestWhatIsCarriedIsRightJustIfItWas(t *testing.T) {
	holds := func(data string, from, to api.Addr) bool {
		switch load := data[own(data):]; data[9] {
		case 6:
			return tcp.Check(from, to, load)
		case 17:
			return udp.Check(from, to, load)
		default:
			return icmp.Check(load)
		}
	}
	for _, name := range []string{"tcp", "udp", "udp, options", "udp, no sum", "echo", "reply"} {
		s := about(t, sorts(t)[name])
		for n := range 65536 {
			p := with(s, sumAt(s), two(n))
			ok := holds(dataOf(p), src, dst)
			out := translate(t, p, far(), deep())
			if holds(dataOf(out), deep().Src.IP, deep().Dst.IP) != ok {
				t.Fatal(name, n, ok)
			}
		}
	}
}

// TestTranslateLeavesAllElse looks at each byte's place, so that no other one
// may be changed, whatever the slow way does.
func TestTranslateLeavesAllElse(t *testing.T) {
	loads := map[byte][]int{6: {0, 1, 2, 3, 16, 17}, 17: {0, 1, 2, 3, 6, 7}, 1: {2, 3, 4, 5}}
	for name, data := range sorts(t) {
		s := about(t, data)
		mayChange := map[int]bool{8: true, 10: true, 11: true, 22: true, 23: true, 38: true, 39: true}
		for at := range 8 {
			mayChange[12+at], mayChange[40+at] = true, true
		}
		for _, at := range loads[data[9]] {
			mayChange[28+own(data)+at] = name != "udp, no sum" || at < 4
		}
		out := translate(t, s, far(), deep())
		if len(out) != len(s) {
			t.Fatalf("%s: %d bytes of %d", name, len(out), len(s))
		}
		for at := range s {
			if s[at] != out[at] && !mayChange[at] {
				t.Errorf("%s: the byte at %d", name, at)
			}
		}
	}
}

// P10.4

// sameSum tells whether two numbers are one, or both come to nothing.
func sameSum(a, b int) bool { return a == b || a%65535 == 0 && b%65535 == 0 }

// alike tells whether two errors are the same, but for their TTLs, their
// headers' sums, and sums of 0 and 65535. Of an inner datagram 0 tells that
// there is no sum, so that there it may not be the other one.
func alike(a, b string) bool {
	if len(a) != len(b) || own(a) != own(b) {
		return false
	}
	sumsAt := []int{own(a) + 2, dataAt(a) + 10}
	if dataOf(a)[9] != 17 && hasSum(a) {
		sumsAt = append(sumsAt, sumAt(a))
	}
	for _, at := range sumsAt {
		if !sameSum(at16(a, at), at16(b, at)) {
			return false
		}
		b = with(b, at, a[at:at+2])
	}
	return a[:8] == b[:8] && a[9] == b[9] && a[12:] == b[12:]
}

// wantBack asks that an error that was translated is itself when it is
// translated back.
func wantBack(t *testing.T, s string, outer, inner rewrite.Change) {
	t.Helper()
	x, _ := tuples.Of(s)
	y, _ := embeds.Inner(s)
	out := translate(t, s, outer, inner)
	back := translate(t, out, rewrite.Change{Src: x.T.Src, Dst: x.T.Dst}, rewrite.Change{Src: y.Src, Dst: y.Dst})
	if !alike(s, back) || int(s[8])-int(back[8]) != 2 || !sums.Holds(back[:own(back)]) {
		t.Fatalf("%x is %x, and %x", s, out, back)
	}
}

func TestTranslatedAndTranslatedBackItIsThePacket(t *testing.T) {
	r := source(109)
	for range 50000 {
		if s := anyError(t, r); s[8] >= 3 {
			wantBack(t, s, anyChange(r), anyChange(r))
		}
	}
	for _, data := range sorts(t) {
		wantBack(t, about(t, data), far(), deep())
		wantBack(t, about(t, data), rewrite.Change{}, rewrite.Change{})
	}
}

func TestEachSumIsThereWhenItIsTranslatedBack(t *testing.T) {
	for _, data := range few(t) {
		s := about(t, data)
		for n := range 65536 {
			wantBack(t, sumsOf(s, n), far(), deep())
		}
	}
}
