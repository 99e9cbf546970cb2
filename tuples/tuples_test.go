package tuples_test

import (
	"fmt"
	"math/rand"
	"regexp"
	"slices"
	"strconv"
	"strings"
	"testing"

	"porter/api"
	"porter/icmp"
	"porter/ip"
	"porter/tcp"
	"porter/tuples"
	"porter/udp"
)

// source tells the same numbers each time.
func source(seed int64) *rand.Rand { return rand.New(rand.NewSource(seed)) }

// two is a number's two lowest bytes.
func two(n int) string { return string([]byte{byte(n >> 8), byte(n)}) }

// one is a number's lowest byte.
func one(n int) string { return string([]byte{byte(n)}) }

// with is a text with bytes in the place of as many.
func with(s string, at int, part string) string {
	return s[:at] + part + s[at+len(part):]
}

// cut is so many bytes of a piece, told again and again.
func cut(piece string, many int) string { return strings.Repeat(piece, many)[:many] }

// at16 is the number of two bytes at a place.
func at16(s string, at int) uint16 { return uint16(s[at])*256 + uint16(s[at+1]) }

// src and dst are the addresses of packets that are not any.
const src, dst = api.Addr(0x0a000001), api.Addr(0x01020304)

// tuple is one between these.
func tuple(proto uint8, from, to uint16) api.Tuple {
	return api.Tuple{Proto: proto, Src: api.Endpoint{IP: src, Port: from}, Dst: api.Endpoint{IP: dst, Port: to}}
}

// put is what Put tells of a packet that may be.
func put(t *testing.T, h ip.Header, load string) string {
	t.Helper()
	s, e := ip.Put(h, load)
	if e != api.OK {
		t.Fatalf("Put(%v, %d bytes): %d", h, len(load), e)
	}
	return s
}

// carry is a packet between these with a load.
func carry(t *testing.T, proto uint8, load string) string {
	t.Helper()
	return put(t, ip.Header{TTL: 64, Proto: proto, Src: src, Dst: dst}, load)
}

// segment is the bytes of one that may be.
func segment(t *testing.T, h tcp.Header, data string) string {
	t.Helper()
	s, e := tcp.Put(h, data)
	if e != api.OK {
		t.Fatalf("Put(%v): %d", h, e)
	}
	return s
}

// message is the bytes of one that may be.
func message(t *testing.T, kind, code uint8, rest, data string) string {
	t.Helper()
	s, e := icmp.Put(icmp.Message{Type: kind, Code: code, Rest: rest, Data: data})
	if e != api.OK {
		t.Fatalf("Put with %d bytes of Rest: %d", len(rest), e)
	}
	return s
}

// slowOf reads what a packet carries byte by byte.
func slowOf(s string) (x tuples.Seen, reason int) {
	h, load, reason := ip.Parse(s)
	if reason != api.ReNone {
		return x, reason
	}
	x.TTL, x.Kind = h.TTL, tuples.KiFlow
	x.T.Proto, x.T.Src.IP, x.T.Dst.IP = h.Proto, h.Src, h.Dst
	ok := false
	switch h.Proto {
	case 1:
		return slowMessage(x, load)
	case 6:
		ok = len(load) >= 20 && load[12] >= 5*16 && int(load[12]/16)*4 <= len(load)
		if ok {
			x.Flags = load[13]
			x.Kind = slowKind(load[13])
		}
	case 17:
		ok = len(load) >= 8 && int(at16(load, 4)) == len(load)
	default:
		return tuples.Seen{}, api.ReProto
	}
	if !ok {
		return tuples.Seen{}, api.ReHeader
	}
	x.T.Src.Port, x.T.Dst.Port = at16(load, 0), at16(load, 2)
	return x, api.ReNone
}

// slowKind looks at a segment's flags one by one.
func slowKind(flags uint8) int {
	ack, rst, syn, fin := flags/16%2, flags/4%2, flags/2%2, flags%2
	if syn == 1 && ack == 0 && rst == 0 && fin == 0 {
		return tuples.KiFirst
	}
	return tuples.KiFlow
}

// slowMessage adds what is seen of a message.
func slowMessage(x tuples.Seen, load string) (tuples.Seen, int) {
	if len(load) < 8 {
		return tuples.Seen{}, api.ReHeader
	}
	switch at16(load, 0) {
	case 8 * 256, 13 * 256:
		x.Ask, x.T.Src.Port = true, at16(load, 4)
		return x, api.ReNone
	case 0, 14 * 256:
		x.T.Dst.Port = at16(load, 4)
		return x, api.ReNone
	}
	switch load[0] {
	case 3, 11, 12:
		x.Kind = tuples.KiError
		return x, api.ReNone
	}
	return tuples.Seen{}, api.ReProto
}

// slowMay asks all that is asked.
func slowMay(t api.Tuple) bool {
	switch t.Proto {
	case 1:
		return t.Src.Port == 0 || t.Dst.Port == 0
	case 6, 17:
		return true
	}
	return false
}

// slowKey is bytes that stand as tuples do.
func slowKey(t api.Tuple) string {
	key := one(int(t.Proto))
	for _, end := range []api.Endpoint{t.Src, t.Dst} {
		key += two(int(end.IP>>16)) + two(int(end.IP)) + two(int(end.Port))
	}
	return key
}

// slowText writes all numbers of a tuple.
func slowText(t api.Tuple) string {
	if !slowMay(t) {
		return ""
	}
	s := map[uint8]string{1: "icmp", 6: "tcp", 17: "udp"}[t.Proto]
	for _, end := range []api.Endpoint{t.Src, t.Dst} {
		s += fmt.Sprintf(" %d.%d.%d.%d:%d", end.IP>>24, end.IP>>16&255, end.IP>>8&255, end.IP&255, end.Port)
	}
	return s
}

// pointForm is what an endpoint's text looks like, how great its numbers are aside.
const pointForm = `(0|[1-9][0-9]*)\.(0|[1-9][0-9]*)\.(0|[1-9][0-9]*)\.(0|[1-9][0-9]*):(0|[1-9][0-9]*)`

var tupleForm = regexp.MustCompile(`\A(icmp|tcp|udp) ` + pointForm + ` ` + pointForm + `\z`)

// slowParse reads a text by what it looks like.
func slowParse(s string) (t api.Tuple, e api.Errno) {
	found := tupleForm.FindStringSubmatch(s)
	if found == nil {
		return t, api.ErrForm
	}
	var n [10]uint64
	for i, digits := range found[2:] {
		most := uint64(255)
		if i%5 == 4 {
			most = 65535
		}
		var err error
		if n[i], err = strconv.ParseUint(digits, 10, 64); err != nil || n[i] > most {
			return t, api.ErrForm
		}
	}
	x := api.Tuple{Proto: map[string]uint8{"icmp": 1, "tcp": 6, "udp": 17}[found[1]], Src: slowPoint(n[:5]), Dst: slowPoint(n[5:])}
	if !slowMay(x) {
		return t, api.ErrForm
	}
	return x, api.OK
}

// slowPoint is the endpoint of five numbers.
func slowPoint(n []uint64) api.Endpoint {
	return api.Endpoint{IP: api.Addr(n[0]*16777216 + n[1]*65536 + n[2]*256 + n[3]), Port: uint16(n[4])}
}

// checkOf holds what Of tells against the slow reading.
func checkOf(t *testing.T, s string) int {
	t.Helper()
	x, reason := tuples.Of(s)
	wantX, want := slowOf(s)
	if x != wantX || reason != want {
		t.Fatalf("Of(%x .., %d bytes) is %v, %d, not %v, %d", s[:min(len(s), 60)], len(s), x, reason, wantX, want)
	}
	return reason
}

// wantSeen holds what Of tells against what is known ahead.
func wantSeen(t *testing.T, s string, want tuples.Seen) {
	t.Helper()
	if x, reason := tuples.Of(s); x != want || reason != api.ReNone {
		t.Fatalf("Of(%x .., %d bytes) is %v, %d, not %v", s[:min(len(s), 60)], len(s), x, reason, want)
	}
}

// wantReason asks that Of tells just why nothing is seen.
func wantReason(t *testing.T, s string, want int) {
	t.Helper()
	if x, reason := tuples.Of(s); x != (tuples.Seen{}) || reason != want {
		t.Fatalf("Of(%x .., %d bytes) is %v, %d, not %d", s[:min(len(s), 60)], len(s), x, reason, want)
	}
}

// checkParse holds what Parse tells against the slow reading.
func checkParse(t *testing.T, s string) bool {
	t.Helper()
	x, e := tuples.Parse(s)
	wantX, want := slowParse(s)
	if x != wantX || e != want {
		t.Fatalf("Parse(%.80q, %d bytes) is %v, %d, not %v, %d", s, len(s), x, e, wantX, want)
	}
	return e == api.OK
}

// checkTuple holds what is told of a tuple alone against the slow ways.
func checkTuple(t *testing.T, x api.Tuple) {
	t.Helper()
	if may := tuples.May(x); may != slowMay(x) {
		t.Fatalf("May(%v) is %v", x, may)
	}
	if s := tuples.Text(x); s != slowText(x) {
		t.Fatalf("Text(%v) is %q, not %q", x, s, slowText(x))
	}
	if back := tuples.Back(x); back != (api.Tuple{Proto: x.Proto, Src: x.Dst, Dst: x.Src}) {
		t.Fatalf("Back(%v) is %v", x, back)
	}
}

// checkLess holds what Less tells against the slow keys.
func checkLess(t *testing.T, a, b api.Tuple) {
	t.Helper()
	if less := tuples.Less(a, b); less != (slowKey(a) < slowKey(b)) {
		t.Fatalf("Less(%v, %v) is %v", a, b, less)
	}
}

// anyByte is often the lowest or the highest.
func anyByte(r *rand.Rand) byte {
	return [4]byte{0, 255, byte(r.Intn(256)), byte(r.Intn(256))}[r.Intn(4)]
}

// anyText is so many such bytes.
func anyText(r *rand.Rand, many int) string {
	b := make([]byte, many)
	for i := range b {
		b[i] = anyByte(r)
	}
	return string(b)
}

// any16 is made of such bytes.
func any16(r *rand.Rand) uint16 { return uint16(anyByte(r))<<8 | uint16(anyByte(r)) }

// anyEnd is an endpoint of such numbers.
func anyEnd(r *rand.Rand) api.Endpoint {
	return api.Endpoint{IP: api.Addr(any16(r))<<16 | api.Addr(any16(r)), Port: any16(r)}
}

// anyProto is often one of the three.
func anyProto(r *rand.Rand) uint8 {
	return [4]uint8{api.PrICMP, api.PrTCP, api.PrUDP, anyByte(r)}[r.Intn(4)]
}

// anyTuple has often a port 0.
func anyTuple(r *rand.Rand) api.Tuple {
	x := api.Tuple{Proto: anyProto(r), Src: anyEnd(r), Dst: anyEnd(r)}
	x.Src.Port *= uint16(r.Intn(2))
	x.Dst.Port *= uint16(r.Intn(2))
	return x
}

// anyPossible is a tuple that may be.
func anyPossible(r *rand.Rand) api.Tuple {
	for {
		if x := anyTuple(r); slowMay(x) {
			return x
		}
	}
}

// anyHeader is a header of a packet, with options or without.
func anyHeader(r *rand.Rand) ip.Header {
	return ip.Header{
		TOS:     anyByte(r),
		ID:      any16(r),
		Flag:    r.Intn(2) == 0,
		TTL:     anyByte(r),
		Proto:   anyProto(r),
		Src:     anyEnd(r).IP,
		Dst:     anyEnd(r).IP,
		Options: anyText(r, 4*r.Intn(11)*r.Intn(2)),
	}
}

// anyLoad is mostly what a packet of a protocol may carry.
func anyLoad(t *testing.T, r *rand.Rand, proto uint8) string {
	data := anyText(r, r.Intn(20))
	switch {
	case r.Intn(8) == 0:
		return anyText(r, r.Intn(40))
	case proto == api.PrTCP:
		return segment(t, tcp.Header{Src: any16(r), Dst: any16(r), Flags: uint8(r.Intn(64)), Options: anyText(r, 4*r.Intn(3))}, data)
	case proto == api.PrUDP:
		return udp.Put(udp.Header{Src: any16(r), Dst: any16(r), Sum: any16(r)}, data)
	}
	kinds := []uint8{0, 3, 8, 11, 12, 13, 14, anyByte(r)}
	return message(t, kinds[r.Intn(len(kinds))], anyByte(r)*byte(r.Intn(2)), anyText(r, 4), data)
}

// loads are one of each sort that is seen.
func loads(t *testing.T) map[string]string {
	return map[string]string{
		"tcp":     segment(t, tcp.Header{Src: 0x1112, Dst: 0x1314, Seq: 0x21222324, Ack: 0x31323334, Flags: tcp.FlSyn, Window: 0x4142, Sum: 0x5152, Urgent: 0x6162, Options: "\x71\x72\x73\x74"}, "data"),
		"udp":     udp.Put(udp.Header{Src: 0x1112, Dst: 0x1314, Sum: 0x5152}, "data"),
		"echo":    message(t, icmp.TyEcho, 0, "\x11\x12\x13\x14", "data"),
		"reply":   message(t, icmp.TyReply, 0, "\x11\x12\x13\x14", "data"),
		"stamp":   message(t, icmp.TyStamp, 0, "\x11\x12\x13\x14", "data"),
		"stamped": message(t, icmp.TyStamped, 0, "\x11\x12\x13\x14", "data"),
		"nowhere": message(t, icmp.TyNowhere, 4, "\x11\x12\x13\x14", "data"),
		"time":    message(t, icmp.TyTime, 1, "\x11\x12\x13\x14", "data"),
		"wrong":   message(t, icmp.TyWrong, 0, "\x11\x12\x13\x14", "data"),
	}
}

// sorts is what is seen of these, in packets whose TTL is 64.
func sorts() map[string]tuples.Seen {
	return map[string]tuples.Seen{
		"tcp":     {T: tuple(6, 0x1112, 0x1314), Kind: tuples.KiFirst, Flags: tcp.FlSyn, TTL: 64},
		"udp":     {T: tuple(17, 0x1112, 0x1314), Kind: tuples.KiFlow, TTL: 64},
		"echo":    {T: tuple(1, 0x1112, 0), Kind: tuples.KiFlow, Ask: true, TTL: 64},
		"reply":   {T: tuple(1, 0, 0x1112), Kind: tuples.KiFlow, TTL: 64},
		"stamp":   {T: tuple(1, 0x1112, 0), Kind: tuples.KiFlow, Ask: true, TTL: 64},
		"stamped": {T: tuple(1, 0, 0x1112), Kind: tuples.KiFlow, TTL: 64},
		"nowhere": {T: tuple(1, 0, 0), Kind: tuples.KiError, TTL: 64},
		"time":    {T: tuple(1, 0, 0), Kind: tuples.KiError, TTL: 64},
		"wrong":   {T: tuple(1, 0, 0), Kind: tuples.KiError, TTL: 64},
	}
}

// the document's examples

func TestSeenOfTheDocument(t *testing.T) {
	wantSeen(t, carry(t, api.PrUDP, udp.Put(udp.Header{Src: 5, Dst: 53}, "")), tuples.Seen{T: tuple(17, 5, 53), Kind: tuples.KiFlow, TTL: 64})
	wantSeen(t, carry(t, api.PrTCP, segment(t, tcp.Header{Src: 5, Dst: 80, Flags: tcp.FlSyn}, "")), tuples.Seen{T: tuple(6, 5, 80), Kind: tuples.KiFirst, Flags: 2, TTL: 64})
	wantSeen(t, carry(t, api.PrTCP, segment(t, tcp.Header{Src: 5, Dst: 80, Flags: tcp.FlSyn | tcp.FlAck}, "")), tuples.Seen{T: tuple(6, 5, 80), Kind: tuples.KiFlow, Flags: 18, TTL: 64})
	wantSeen(t, carry(t, api.PrICMP, message(t, icmp.TyEcho, 0, "\x00\x07\x00\x01", "")), tuples.Seen{T: tuple(1, 7, 0), Kind: tuples.KiFlow, Ask: true, TTL: 64})
	wantSeen(t, carry(t, api.PrICMP, message(t, icmp.TyReply, 0, "\x00\x07\x00\x01", "")), tuples.Seen{T: tuple(1, 0, 7), Kind: tuples.KiFlow, TTL: 64})
}

func TestTextsOfTheDocument(t *testing.T) {
	for s, x := range map[string]api.Tuple{
		"udp 10.0.0.1:5 1.2.3.4:53": tuple(17, 5, 53),
		"icmp 10.0.0.1:7 1.2.3.4:0": tuple(1, 7, 0),
		"icmp 10.0.0.1:0 1.2.3.4:7": tuple(1, 0, 7),
	} {
		if got := tuples.Text(x); got != s {
			t.Error(got)
		}
		if got, e := tuples.Parse(s); got != x || e != api.OK {
			t.Error(got, e)
		}
	}
}

func TestReasonsOfTheDocument(t *testing.T) {
	wantReason(t, carry(t, 2, "12345678"), api.ReProto)
	wantReason(t, carry(t, api.PrICMP, message(t, 5, 0, "1234", "")), api.ReProto)
	wantReason(t, carry(t, api.PrUDP, "1234567"), api.ReHeader)
}

func TestParseOfTheDocument(t *testing.T) {
	for _, s := range []string{"icmp 1.2.3.4:5 1.2.3.4:6", "tcp 1.2.3.4:5"} {
		if x, e := tuples.Parse(s); x != (api.Tuple{}) || e != api.ErrForm {
			t.Error(s, x, e)
		}
	}
}

func TestKindsOfTheDocument(t *testing.T) {
	if got := [3]int{tuples.KiFirst, tuples.KiFlow, tuples.KiError}; got != [3]int{1, 2, 3} {
		t.Error(got)
	}
}

// P8.1

func TestOfEachSort(t *testing.T) {
	for sort, load := range loads(t) {
		want := sorts()[sort]
		wantSeen(t, carry(t, want.T.Proto, load), want)
	}
}

func TestOfTellsTheReasonsOfIP(t *testing.T) {
	for _, proto := range []uint8{api.PrICMP, api.PrTCP, api.PrUDP, 2} {
		for _, load := range loads(t) {
			s := carry(t, proto, load)
			h, _, _ := ip.Parse(s)
			wantReason(t, s[:19], api.ReShort)
			wantReason(t, "", api.ReShort)
			wantReason(t, with(s, 0, "\x65"), api.ReVersion)
			wantReason(t, with(s, 0, "\x44"), api.ReLength)
			wantReason(t, s[:len(s)-1], api.ReLength)
			wantReason(t, with(s, 8, one(int(h.TTL)-1)), api.ReSum)
			wantReason(t, piece(s, "\x20\x00"), api.ReFragment)
			wantReason(t, piece(s, "\x00\x01"), api.ReFragment)
		}
	}
}

// piece is a packet with that in its header which tells of pieces, its sum going along.
func piece(s, what string) string {
	total := 0
	s = with(with(s, 6, what), 10, "\x00\x00")
	for at := 0; at < 20; at += 2 {
		total += int(at16(s, at))
	}
	return with(s, 10, two(65535-(total%65536+total/65536)))
}

func TestOfEachProto(t *testing.T) {
	for proto := range 256 {
		load := message(t, icmp.TyEcho, 0, two(28)+"\x00\x00", "\x50\x50\x50\x50\x50\x50\x50\x50\x50\x50\x50\x50\x50\x50\x50\x50\x50\x50\x50\x50")
		s := carry(t, uint8(proto), load)
		_, reason := tuples.Of(s)
		want := api.ReProto
		switch proto {
		case 1, 6, 17:
			want = api.ReNone
		}
		if reason != want || checkOf(t, s) != want {
			t.Errorf("of the protocol %d: %d", proto, reason)
		}
	}
}

func TestOfEachProtoWithLoadsThatAreNone(t *testing.T) {
	for proto := range 256 {
		for _, load := range []string{"", "\x08", "1234567", "\x00\x00\x00\x00\x00\x00\x00"} {
			want := api.ReProto
			switch proto {
			case 1, 6, 17:
				want = api.ReHeader
			}
			wantReason(t, carry(t, uint8(proto), load), want)
		}
	}
}

func TestOfLoadsThatAreCut(t *testing.T) {
	for sort, load := range loads(t) {
		proto := sorts()[sort].T.Proto
		for many := range len(load) {
			checkOf(t, carry(t, proto, load[:many]))
		}
	}
	load := loads(t)
	for many := range 24 {
		wantReason(t, carry(t, api.PrTCP, load["tcp"][:many]), api.ReHeader)
	}
	for many := range len(load["udp"]) {
		wantReason(t, carry(t, api.PrUDP, load["udp"][:many]), api.ReHeader)
	}
	for many := range 8 {
		wantReason(t, carry(t, api.PrICMP, load["echo"][:many]), api.ReHeader)
		wantReason(t, carry(t, api.PrICMP, message(t, 5, 0, "1234", "")[:many]), api.ReHeader)
	}
}

func TestOfLoadsThatAreLonger(t *testing.T) {
	for sort, load := range loads(t) {
		want := sorts()[sort]
		for many := 1; many < 40; many++ {
			s := carry(t, want.T.Proto, load+cut("\xff\x00\x7f", many))
			if want.T.Proto == api.PrUDP {
				wantReason(t, s, api.ReHeader)
				continue
			}
			wantSeen(t, s, want)
		}
	}
}

func TestOfEachByteAtEachPlaceOfLoads(t *testing.T) {
	for sort, load := range loads(t) {
		for at := range load {
			for b := range 256 {
				checkOf(t, carry(t, sorts()[sort].T.Proto, with(load, at, one(b))))
			}
		}
	}
}

func TestOfEachFlags(t *testing.T) {
	firsts := 0
	for flags := range 256 {
		for _, data := range []string{"", "data"} {
			want := tuples.Seen{T: tuple(6, 1, 2), Kind: slowKind(uint8(flags)), Flags: uint8(flags), TTL: 64}
			wantSeen(t, carry(t, api.PrTCP, segment(t, tcp.Header{Src: 1, Dst: 2, Low: 15, Flags: uint8(flags)}, data)), want)
			if want.Kind == tuples.KiFirst {
				firsts++
			}
		}
	}
	// Of the eight flags four are as they must be.
	if firsts != 2*16 {
		t.Error(firsts)
	}
}

func TestOfEachPort(t *testing.T) {
	for n := range 65536 {
		from, to := uint16(n), uint16(65535-n)
		wantSeen(t, carry(t, api.PrTCP, segment(t, tcp.Header{Src: from, Dst: to}, "")), tuples.Seen{T: tuple(6, from, to), Kind: tuples.KiFlow, TTL: 64})
		wantSeen(t, carry(t, api.PrUDP, udp.Put(udp.Header{Src: from, Dst: to}, "")), tuples.Seen{T: tuple(17, from, to), Kind: tuples.KiFlow, TTL: 64})
	}
}

func TestOfEachID(t *testing.T) {
	for n := range 65536 {
		rest, id := two(n)+"\xff\xff", uint16(n)
		wantSeen(t, carry(t, api.PrICMP, message(t, icmp.TyEcho, 0, rest, "")), tuples.Seen{T: tuple(1, id, 0), Kind: tuples.KiFlow, Ask: true, TTL: 64})
		wantSeen(t, carry(t, api.PrICMP, message(t, icmp.TyStamped, 0, rest, "")), tuples.Seen{T: tuple(1, 0, id), Kind: tuples.KiFlow, TTL: 64})
		wantSeen(t, carry(t, api.PrICMP, message(t, icmp.TyNowhere, 0, rest, "")), tuples.Seen{T: tuple(1, 0, 0), Kind: tuples.KiError, TTL: 64})
	}
}

func TestOfEachTypeAndCode(t *testing.T) {
	asking, told, errors, none := 0, 0, 0, 0
	for n := range 65536 {
		s := carry(t, api.PrICMP, message(t, uint8(n/256), uint8(n%256), "\x00\x07\x00\x01", "data"))
		checkOf(t, s)
		switch x, reason := tuples.Of(s); {
		case reason == api.ReProto:
			none++
		case x.Ask:
			asking++
		case x.Kind == tuples.KiFlow:
			told++
		case x.Kind == tuples.KiError:
			errors++
		}
	}
	if asking != 2 || told != 2 || errors != 3*256 || none != 65536-4-3*256 {
		t.Error(asking, told, errors, none)
	}
}

func TestOfEachTTL(t *testing.T) {
	for sort, load := range loads(t) {
		want := sorts()[sort]
		for ttl := range 256 {
			want.TTL = uint8(ttl)
			wantSeen(t, put(t, ip.Header{TTL: uint8(ttl), Proto: want.T.Proto, Src: src, Dst: dst}, load), want)
		}
	}
}

func TestOfAnyHeader(t *testing.T) {
	for sort, load := range loads(t) {
		want := sorts()[sort]
		for many := 0; many <= 40; many += 4 {
			h := ip.Header{TOS: 0xf1, ID: 0xf2f3, Flag: many%8 == 0, TTL: 64, Proto: want.T.Proto, Src: src, Dst: dst, Options: cut("\x01\xf4\xf5", many)}
			wantSeen(t, put(t, h, load), want)
		}
		turned := want
		turned.T.Src.IP, turned.T.Dst.IP = dst, src
		wantSeen(t, put(t, ip.Header{TTL: 64, Proto: want.T.Proto, Src: dst, Dst: src}, load), turned)
	}
}

func TestOfAnyPackets(t *testing.T) {
	r := source(81)
	seen := [16]int{}
	for range 100000 {
		h := anyHeader(r)
		s := put(t, h, anyLoad(t, r, h.Proto))
		if r.Intn(4) == 0 {
			s = with(s, r.Intn(len(s)), one(int(anyByte(r))))
		}
		if r.Intn(20) == 0 {
			s = s[:r.Intn(len(s))]
		}
		seen[checkOf(t, s)]++
	}
	for _, reason := range []int{api.ReNone, api.ReShort, api.ReLength, api.ReSum, api.ReProto, api.ReHeader} {
		if seen[reason] < 500 {
			t.Errorf("the reason %d was told %d times", reason, seen[reason])
		}
	}
}

func TestOfAnyTexts(t *testing.T) {
	r := source(82)
	for range 50000 {
		checkOf(t, anyText(r, r.Intn(70)))
	}
	for _, many := range []int{2047, 2048, 2049, 65535, 65536, 65537, 1 << 20} {
		checkOf(t, cut("\x45\x00\x00\x1c", many))
	}
}

// P8.2

// edgePorts are the lowest, the highest, and those beside.
var edgePorts = []uint16{0, 1, 2, 255, 256, 32768, 65534, 65535}

func TestTuplesOfEachProtoAndEdgePorts(t *testing.T) {
	for proto := range 256 {
		for _, from := range edgePorts {
			for _, to := range edgePorts {
				checkTuple(t, tuple(uint8(proto), from, to))
			}
		}
	}
}

func TestMayOfICMP(t *testing.T) {
	for n := 1; n < 65536; n++ {
		for _, x := range []api.Tuple{tuple(1, uint16(n), 0), tuple(1, 0, uint16(n)), tuple(6, uint16(n), 5), tuple(17, 5, uint16(n))} {
			if !tuples.May(x) {
				t.Fatal(x)
			}
		}
		for _, x := range []api.Tuple{tuple(1, uint16(n), 1), tuple(1, 1, uint16(n)), tuple(1, uint16(n), uint16(n)), tuple(2, uint16(n), 0)} {
			if tuples.May(x) {
				t.Fatal(x)
			}
		}
	}
	if !tuples.May(tuple(1, 0, 0)) || tuples.May(api.Tuple{}) {
		t.Error(tuples.May(tuple(1, 0, 0)), tuples.May(api.Tuple{}))
	}
}

func TestAnyTuples(t *testing.T) {
	r := source(83)
	for range 100000 {
		checkTuple(t, anyTuple(r))
	}
}

// edgeTuples have each of some numbers at each place.
func edgeTuples() (l []api.Tuple) {
	var ends []api.Endpoint
	for _, a := range []api.Addr{0, 1, 0x7fffffff, 0x80000000, 0xffffffff} {
		for _, port := range []uint16{0, 1, 65535} {
			ends = append(ends, api.Endpoint{IP: a, Port: port})
		}
	}
	for _, proto := range []uint8{0, 1, 6, 255} {
		for _, from := range ends {
			for _, to := range ends {
				l = append(l, api.Tuple{Proto: proto, Src: from, Dst: to})
			}
		}
	}
	return l
}

func TestLessOfEdges(t *testing.T) {
	l := edgeTuples()
	for _, a := range l {
		for _, b := range l {
			checkLess(t, a, b)
		}
	}
}

func TestLessLooksAtTheFirstThatIsAnother(t *testing.T) {
	low, high := api.Endpoint{IP: 5, Port: 5}, api.Endpoint{IP: 5, Port: 6}
	for _, l := range [][2]api.Tuple{
		{{Proto: 1, Src: high, Dst: high}, {Proto: 2, Src: low, Dst: low}},
		{{Proto: 2, Src: low, Dst: high}, {Proto: 2, Src: high, Dst: low}},
		{{Proto: 2, Src: low, Dst: low}, {Proto: 2, Src: low, Dst: high}},
		{{Proto: 2, Src: api.Endpoint{IP: 4, Port: 9}, Dst: low}, {Proto: 2, Src: low, Dst: low}},
		{{Proto: 2, Src: low, Dst: api.Endpoint{IP: 4, Port: 9}}, {Proto: 2, Src: low, Dst: low}},
	} {
		if !tuples.Less(l[0], l[1]) || tuples.Less(l[1], l[0]) || tuples.Less(l[0], l[0]) {
			t.Error(l)
		}
	}
}

func TestLessOfAnyTuples(t *testing.T) {
	r := source(84)
	for range 100000 {
		a, b := anyTuple(r), anyTuple(r)
		if r.Intn(2) == 0 {
			b.Proto = a.Proto
		}
		if r.Intn(2) == 0 {
			b.Src = a.Src
		}
		checkLess(t, a, b)
	}
}

// P8.3

func TestTextsOfEdges(t *testing.T) {
	for s, x := range map[string]api.Tuple{
		"udp 0.0.0.0:0 0.0.0.0:0":                         {Proto: 17},
		"tcp 255.255.255.255:65535 255.255.255.255:65535": {Proto: 6, Src: api.Endpoint{IP: 0xffffffff, Port: 65535}, Dst: api.Endpoint{IP: 0xffffffff, Port: 65535}},
		"icmp 0.0.0.0:0 0.0.0.0:0":                        {Proto: 1},
		"icmp 0.0.0.0:65535 0.0.0.0:0":                    {Proto: 1, Src: api.Endpoint{Port: 65535}},
		"icmp 0.0.0.0:0 0.0.0.0:65535":                    {Proto: 1, Dst: api.Endpoint{Port: 65535}},
		"tcp 1.2.3.4:5 6.7.8.9:10":                        {Proto: 6, Src: api.Endpoint{IP: 0x01020304, Port: 5}, Dst: api.Endpoint{IP: 0x06070809, Port: 10}},
		"udp 10.0.0.1:4000 8.8.8.8:53":                    {Proto: 17, Src: api.Endpoint{IP: 0x0a000001, Port: 4000}, Dst: api.Endpoint{IP: 0x08080808, Port: 53}},
	} {
		if got := tuples.Text(x); got != s {
			t.Errorf("%q, not %q", got, s)
		}
		if got, e := tuples.Parse(s); got != x || e != api.OK {
			t.Errorf("%q is %v, %d", s, got, e)
		}
	}
}

func TestTextOfWhatMayNotBe(t *testing.T) {
	for _, x := range []api.Tuple{{}, tuple(0, 0, 0), tuple(2, 1, 2), tuple(5, 1, 2), tuple(7, 1, 2), tuple(16, 1, 2), tuple(18, 1, 2), tuple(255, 0, 0), tuple(1, 1, 1), tuple(1, 65535, 1)} {
		if s := tuples.Text(x); s != "" {
			t.Errorf("%v is %q", x, s)
		}
	}
}

func TestParseOfWhatIsNone(t *testing.T) {
	for _, s := range []string{
		"", " ", "  ", "   ", "tcp", "tcp ", "tcp  ", "udp 1.2.3.4:5", "udp 1.2.3.4:5 ", "1.2.3.4:5 1.2.3.4:6", " 1.2.3.4:5 1.2.3.4:6",
		"TCP 1.2.3.4:5 1.2.3.4:6", "Tcp 1.2.3.4:5 1.2.3.4:6", "igmp 1.2.3.4:5 1.2.3.4:0", "tc 1.2.3.4:5 1.2.3.4:6", "tcpp 1.2.3.4:5 1.2.3.4:6", "6 1.2.3.4:5 1.2.3.4:6",
		" tcp 1.2.3.4:5 1.2.3.4:6", "tcp  1.2.3.4:5 1.2.3.4:6", "tcp 1.2.3.4:5  1.2.3.4:6", "tcp 1.2.3.4:5 1.2.3.4:6 ", "tcp 1.2.3.4:5 1.2.3.4:6 1.2.3.4:7",
		"tcp\t1.2.3.4:5 1.2.3.4:6", "tcp 1.2.3.4:5\t1.2.3.4:6", "tcp 1.2.3.4:5 1.2.3.4:6\n", "tcp 1.2.3.4:5,1.2.3.4:6", "tcp 1.2.3.4:5 1.2.3.4:6\x00",
		"tcp 1.2.3.4 1.2.3.4:6", "tcp 1.2.3.4:5 1.2.3.4", "tcp 1.2.3.4: 1.2.3.4:6", "tcp 1.2.3:5 1.2.3.4:6", "tcp 1.2.3.4:5 1.2.3.4.5:6",
		"tcp 1.2.3.4:65536 1.2.3.4:6", "tcp 1.2.3.4:5 1.2.3.4:65536", "tcp 256.2.3.4:5 1.2.3.4:6", "tcp 1.2.3.4:5 1.2.3.256:6",
		"tcp 01.2.3.4:5 1.2.3.4:6", "tcp 1.2.3.4:05 1.2.3.4:6", "tcp 1.2.3.4:5 1.2.3.4:06", "tcp 1.2.3.4:5 1.2.3.4:-6", "tcp 1.2.3.4:+5 1.2.3.4:6",
		"icmp 1.2.3.4:5 1.2.3.4:6", "icmp 1.2.3.4:1 1.2.3.4:1", "icmp 1.2.3.4:65535 1.2.3.4:65535", "icmp 1.2.3.4:00 1.2.3.4:6",
	} {
		if x, e := tuples.Parse(s); x != (api.Tuple{}) || e != api.ErrForm {
			t.Errorf("%q is %v, %d", s, x, e)
		}
		checkParse(t, s)
	}
}

func TestParseOfTextsThatAreAlmostRight(t *testing.T) {
	r := source(85)
	for _, s := range []string{"tcp 10.0.0.1:65535 1.2.3.4:0", "udp 0.0.0.0:0 255.255.255.255:80", "icmp 1.2.3.4:5 6.7.8.9:0", "icmp 1.2.3.4:0 6.7.8.9:65530"} {
		if !checkParse(t, s) {
			t.Errorf("%q is none", s)
		}
		for at := range len(s) + 1 {
			checkParse(t, s[:at])
			checkParse(t, s[at:])
			for b := range 256 {
				checkParse(t, s[:at]+one(b)+s[at:])
				if at < len(s) {
					checkParse(t, with(s, at, one(b)))
				}
			}
			checkParse(t, s[:at]+s[min(at+1, len(s)):])
			checkParse(t, s[:at]+anyText(r, 3)+s[at:])
		}
	}
}

func TestParseOfAnyTexts(t *testing.T) {
	r := source(86)
	parts := []string{"tcp", "udp", "icmp", " ", " ", " ", "1.2.3.4", "1.2.3.4:0", "255.0.255.0:65535", ":", "0", "65536", ".", "10.0.0.1:7", "\x00", "\n"}
	right := 0
	for range 200000 {
		s := parts[r.Intn(3)] + " "
		for range r.Intn(6) {
			s += parts[r.Intn(len(parts))]
		}
		if checkParse(t, s) {
			right++
		}
	}
	if right < 50 {
		t.Error("hardly any text was right:", right)
	}
}

func TestParseOfLongTexts(t *testing.T) {
	for _, many := range []int{65535, 65536, 1 << 20} {
		for _, piece := range []string{" ", "0", "tcp ", "tcp 1.2.3.4:5 1.2.3.4:6 ", "\x00", "1.2.3.4:5 "} {
			if x, e := tuples.Parse(cut(piece, many)); x != (api.Tuple{}) || e != api.ErrForm {
				t.Errorf("%d bytes of %q: %v, %d", many, piece, x, e)
			}
		}
	}
}

// P8.4

func TestWhatWasPutIsSeen(t *testing.T) {
	r := source(87)
	for range 20000 {
		h := anyHeader(r)
		x := tuples.Seen{T: api.Tuple{Src: api.Endpoint{IP: h.Src}, Dst: api.Endpoint{IP: h.Dst}}, Kind: tuples.KiFlow, TTL: h.TTL}
		from, to, data := any16(r), any16(r), anyText(r, r.Intn(30))

		h.Proto = api.PrTCP
		x.T.Proto, x.T.Src.Port, x.T.Dst.Port = h.Proto, from, to
		x.Flags = uint8(r.Intn(256))
		x.Kind = slowKind(x.Flags)
		wantSeen(t, put(t, h, segment(t, tcp.Header{Src: from, Dst: to, Flags: x.Flags, Sum: any16(r), Options: anyText(r, 4*r.Intn(11))}, data)), x)

		h.Proto = api.PrUDP
		x.T.Proto, x.Flags, x.Kind = h.Proto, 0, tuples.KiFlow
		wantSeen(t, put(t, h, udp.Put(udp.Header{Src: from, Dst: to, Sum: any16(r)}, data)), x)

		h.Proto = api.PrICMP
		x.T.Proto, x.T.Dst.Port, x.Ask = h.Proto, 0, true
		wantSeen(t, put(t, h, message(t, []uint8{8, 13}[r.Intn(2)], 0, two(int(from))+anyText(r, 2), data)), x)

		x.T.Src.Port, x.T.Dst.Port, x.Ask = 0, to, false
		wantSeen(t, put(t, h, message(t, []uint8{0, 14}[r.Intn(2)], 0, two(int(to))+anyText(r, 2), data)), x)

		x.T.Dst.Port, x.Kind = 0, tuples.KiError
		wantSeen(t, put(t, h, message(t, []uint8{3, 11, 12}[r.Intn(3)], anyByte(r), anyText(r, 4), data)), x)
	}
}

func TestWhatIsSeenMayBe(t *testing.T) {
	r := source(88)
	seen := 0
	for range 50000 {
		h := anyHeader(r)
		x, reason := tuples.Of(put(t, h, anyLoad(t, r, h.Proto)))
		if reason != api.ReNone {
			continue
		}
		seen++
		if !tuples.May(x.T) || !slowMay(x.T) || tuples.Text(x.T) == "" {
			t.Fatal(x)
		}
	}
	if seen < 20000 {
		t.Error("hardly any packet was seen:", seen)
	}
}

func TestWhatStandsBehindIsNotLookedAt(t *testing.T) {
	r := source(89)
	for sort, load := range loads(t) {
		want := sorts()[sort]
		s := carry(t, want.T.Proto, load)
		for _, many := range []int{1, 2, 7, 8, 20, 2048, 65536, 1 << 20} {
			wantSeen(t, s+anyText(r, many), want)
		}
		wantSeen(t, s+s, want)
	}
}

func TestSumsOfWhatItCarriesAreNotLookedAt(t *testing.T) {
	places := map[uint8]int{api.PrICMP: 2, api.PrTCP: 16, api.PrUDP: 6}
	for sort, load := range loads(t) {
		want := sorts()[sort]
		for n := range 65536 {
			wantSeen(t, carry(t, want.T.Proto, with(load, places[want.T.Proto], two(n))), want)
		}
	}
}

// P8.5

func TestBackTwiceIsTheTuple(t *testing.T) {
	r := source(810)
	for range 50000 {
		x := anyTuple(r)
		back := tuples.Back(x)
		if tuples.Back(back) != x || tuples.May(back) != tuples.May(x) || (back == x) != (x.Src == x.Dst) {
			t.Fatalf("%v, %v, %v", x, back, tuples.Back(back))
		}
	}
}

func TestWhatIsToldIsRead(t *testing.T) {
	r := source(811)
	for range 100000 {
		x := anyPossible(r)
		if got, e := tuples.Parse(tuples.Text(x)); got != x || e != api.OK {
			t.Fatalf("%v is told as %q, read as %v, %d", x, tuples.Text(x), got, e)
		}
	}
}

func TestWhatIsReadIsToldSo(t *testing.T) {
	r := source(812)
	bytes := "tcpudim 0123456789.:"
	for range 100000 {
		s := slowText(anyPossible(r))
		if r.Intn(2) == 0 {
			s = with(s, r.Intn(len(s)), one(int(bytes[r.Intn(len(bytes))])))
		}
		if x, e := tuples.Parse(s); e == api.OK && (tuples.Text(x) != s || !tuples.May(x)) {
			t.Fatalf("%q is read as %v, told as %q", s, x, tuples.Text(x))
		}
	}
}

func TestOfTwoThatAreNotTheSameJustOneIsLess(t *testing.T) {
	l := edgeTuples()
	for _, a := range l {
		for _, b := range l {
			less, more := tuples.Less(a, b), tuples.Less(b, a)
			if less && more || (less || more) != (a != b) {
				t.Fatalf("%v, %v: %v, %v", a, b, less, more)
			}
		}
	}
}

func TestLessSortsTuples(t *testing.T) {
	r := source(813)
	l := edgeTuples()
	r.Shuffle(len(l), func(i, j int) { l[i], l[j] = l[j], l[i] })
	slices.SortFunc(l, func(a, b api.Tuple) int {
		switch {
		case tuples.Less(a, b):
			return -1
		case tuples.Less(b, a):
			return 1
		}
		return 0
	})
	if !slices.Equal(l, edgeTuples()) {
		t.Error("they do not stand as they were made, from the lowest to the highest")
	}
}
