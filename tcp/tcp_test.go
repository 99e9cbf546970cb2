package tcp_test

import (
	"math/rand"
	"strings"
	"testing"

	"porter/api"
	"porter/tcp"
)

// source tells the same numbers each time.
func source(seed int64) *rand.Rand { return rand.New(rand.NewSource(seed)) }

// two is a number's two lowest bytes.
func two(n int) string { return string([]byte{byte(n >> 8), byte(n)}) }

// with is a text with bytes in the place of as many.
func with(s string, at int, part string) string {
	return s[:at] + part + s[at+len(part):]
}

// turned is a text of which one bit is turned.
func turned(s string, bit int) string {
	return with(s, bit/8, string([]byte{s[bit/8] ^ 128>>(bit%8)}))
}

// hasCount is a text with that count of its header's bytes, divided by 4.
func hasCount(s string, n int) string {
	return with(s, 12, string([]byte{byte(n)<<4 | s[12]&15}))
}

// hasSum is a text with that Sum.
func hasSum(s string, n int) string { return with(s, 16, two(n)) }

// sumOf is the Sum that a segment has.
func sumOf(s string) int { return int(s[16])*256 + int(s[17]) }

// slowSummed lays what is summed byte by byte.
func slowSummed(src, dst api.Addr, s string) string {
	var b []byte
	for _, a := range []api.Addr{src, dst} {
		for j := range 4 {
			b = append(b, byte(a>>(8*(3-j))))
		}
	}
	b = append(b, 0, 6, byte(len(s)>>8), byte(len(s)))
	return string(b) + s
}

// slowTotal adds all words of a text, which is filled up, one by one.
func slowTotal(s string) int {
	if len(s)%2 == 1 {
		s += "\x00"
	}
	n := 0
	for i := 0; i < len(s); i += 2 {
		n += int(s[i])*256 + int(s[i+1])
		if n > 65535 {
			n -= 65535
		}
	}
	return n
}

// slowCheck tells whether a segment's sum is right.
func slowCheck(src, dst api.Addr, s string) bool {
	return len(s) >= 20 && slowTotal(slowSummed(src, dst, s)) == 65535
}

// slowSeal is a segment with its sum.
func slowSeal(src, dst api.Addr, s string) string {
	if len(s) < 20 {
		return s
	}
	return hasSum(s, 65535-slowTotal(slowSummed(src, dst, hasSum(s, 0))))
}

// slowPut lays a segment's bytes one by one, with no look at whether it may be.
func slowPut(h tcp.Header, payload string) string {
	var b []byte
	for _, n := range []uint16{h.Src, h.Dst} {
		b = append(b, byte(n/256), byte(n%256))
	}
	for _, n := range []uint32{h.Seq, h.Ack} {
		b = append(b, byte(n>>24), byte(n>>16), byte(n>>8), byte(n))
	}
	b = append(b, byte((20+len(h.Options))/4*16+int(h.Low)), h.Flags)
	for _, n := range []uint16{h.Window, h.Sum, h.Urgent} {
		b = append(b, byte(n/256), byte(n%256))
	}
	return string(b) + h.Options + payload
}

// slowMay tells whether a header may be put.
func slowMay(h tcp.Header) bool {
	for many := 0; many <= 40; many += 4 {
		if len(h.Options) == many {
			return h.Low < 16
		}
	}
	return false
}

// slowParse reads a segment's bytes one by one.
func slowParse(s string) (h tcp.Header, payload string, ok bool) {
	if len(s) < 20 {
		return h, "", false
	}
	own := int(s[12]/16) * 4
	if own < 20 || own > len(s) {
		return h, "", false
	}
	n := func(from, to int) (x uint32) {
		for i := from; i < to; i++ {
			x = x*256 + uint32(s[i])
		}
		return x
	}
	h = tcp.Header{
		Src: uint16(n(0, 2)), Dst: uint16(n(2, 4)), Seq: n(4, 8), Ack: n(8, 12),
		Low: s[12] % 16, Flags: s[13],
		Window: uint16(n(14, 16)), Sum: uint16(n(16, 18)), Urgent: uint16(n(18, 20)),
		Options: s[20:own],
	}
	return h, s[own:], true
}

// checkParse holds what Parse tells against the slow reading.
func checkParse(t *testing.T, s string) bool {
	t.Helper()
	h, payload, ok := tcp.Parse(s)
	wantH, wantPayload, want := slowParse(s)
	if h != wantH || payload != wantPayload || ok != want {
		t.Fatalf("Parse(%x .., %d bytes) is %v, %d bytes, %v, not %v, %d bytes, %v", s[:min(len(s), 60)], len(s), h, len(payload), ok, wantH, len(wantPayload), want)
	}
	return ok
}

// checkPut holds what Put tells against the slow laying.
func checkPut(t *testing.T, h tcp.Header, payload string) bool {
	t.Helper()
	s, e := tcp.Put(h, payload)
	want, wantE := "", api.ErrArg
	if slowMay(h) {
		want, wantE = slowPut(h, payload), api.OK
	}
	if s != want || e != wantE {
		t.Fatalf("Put(%v, %d bytes) is %x .., %d bytes, %d, not %x .., %d bytes, %d", h, len(payload), s[:min(len(s), 60)], len(s), e, want[:min(len(want), 60)], len(want), wantE)
	}
	return e == api.OK
}

// checkCheck holds what Check tells against the slow reckoning.
func checkCheck(t *testing.T, src, dst api.Addr, s string) bool {
	t.Helper()
	ok := tcp.Check(src, dst, s)
	if want := slowCheck(src, dst, s); ok != want {
		t.Fatalf("Check(%08x, %08x, %x .., %d bytes) is %v, not %v", src, dst, s[:min(len(s), 60)], len(s), ok, want)
	}
	return ok
}

// checkSeal holds what Seal tells against the slow reckoning.
func checkSeal(t *testing.T, src, dst api.Addr, s string) string {
	t.Helper()
	sealed := tcp.Seal(src, dst, s)
	if want := slowSeal(src, dst, s); sealed != want {
		t.Fatalf("Seal(%08x, %08x, %x .., %d bytes) is %x .., %d bytes, not %x ..", src, dst, s[:min(len(s), 60)], len(s), sealed[:min(len(sealed), 60)], len(sealed), want[:min(len(want), 60)])
	}
	return sealed
}

// anyByte is often the lowest or the highest.
func anyByte(r *rand.Rand) byte {
	return [4]byte{0, 255, byte(r.Intn(256)), byte(r.Intn(256))}[r.Intn(4)]
}

// anyText is so many such bytes.
func anyText(r *rand.Rand, many int) string {
	b := make([]byte, many)
	for i := range b {
		b[i] = anyByte(r)
	}
	return string(b)
}

// anyNumber is made of such bytes.
func anyNumber(r *rand.Rand) uint32 {
	n := uint32(0)
	for range 4 {
		n = n<<8 | uint32(anyByte(r))
	}
	return n
}

// anyAddr is an address of such bytes.
func anyAddr(r *rand.Rand) api.Addr { return api.Addr(anyNumber(r)) }

// anyHeader is a header of such bytes, that may be.
func anyHeader(r *rand.Rand) tcp.Header {
	return tcp.Header{
		Src:     uint16(anyNumber(r)),
		Dst:     uint16(anyNumber(r)),
		Seq:     anyNumber(r),
		Ack:     anyNumber(r),
		Low:     anyByte(r) & 15,
		Flags:   anyByte(r),
		Window:  uint16(anyNumber(r)),
		Sum:     uint16(anyNumber(r)),
		Urgent:  uint16(anyNumber(r)),
		Options: anyText(r, 4*r.Intn(11)),
	}
}

// sample has no byte twice.
func sample() tcp.Header {
	return tcp.Header{Src: 0x1122, Dst: 0x3344, Seq: 0x55667788, Ack: 0x99aabbcc, Low: 13, Flags: 0xee, Window: 0xf0f1, Sum: 0xf2f3, Urgent: 0xf4f5, Options: "abcdefgh"}
}

// laid is the bytes of that.
const laid = "\x11\x22\x33\x44\x55\x66\x77\x88\x99\xaa\xbb\xcc\x7d\xee\xf0\xf1\xf2\xf3\xf4\xf5abcdefgh"

// great are numbers of bytes around those that two bytes can't tell any more.
var great = []int{65507, 65508, 65514, 65515, 65516, 65535, 65536, 65537, 131043, 131044, 131071, 131072, 1 << 20}

const (
	src = api.Addr(0x01020304)
	dst = api.Addr(0x05060708)
)

// the document's examples

const (
	example = "\x00\x01\x00\x02\x00\x00\x00\x03\x00\x00\x00\x04\x50\x02\x00\x05\x00\x00\x00\x00"
	sealed  = "\x00\x01\x00\x02\x00\x00\x00\x03\x00\x00\x00\x04\x50\x02\x00\x05\x9f\xc0\x00\x00"
)

// ofExample is the header of the example.
func ofExample() tcp.Header {
	return tcp.Header{Src: 1, Dst: 2, Seq: 3, Ack: 4, Flags: tcp.FlSyn, Window: 5}
}

func TestPutOfTheDocument(t *testing.T) {
	if s, e := tcp.Put(ofExample(), ""); s != example || e != api.OK {
		t.Errorf("%x, %d", s, e)
	}
	h := ofExample()
	h.Low = 16
	if s, e := tcp.Put(h, ""); s != "" || e != api.ErrArg {
		t.Errorf("%x, %d", s, e)
	}
	h = ofExample()
	h.Options = "ab"
	if s, e := tcp.Put(h, ""); s != "" || e != api.ErrArg {
		t.Errorf("%x, %d", s, e)
	}
}

func TestSealOfTheDocument(t *testing.T) {
	if s := tcp.Seal(src, dst, example); s != sealed {
		t.Errorf("%x", s)
	}
	if !tcp.Check(src, dst, sealed) || tcp.Check(src, dst, example) || tcp.Check(src+1, dst, sealed) {
		t.Error(tcp.Check(src, dst, sealed), tcp.Check(src, dst, example), tcp.Check(src+1, dst, sealed))
	}
}

func TestParseOfTheDocument(t *testing.T) {
	for _, s := range []string{strings.Repeat("\x00", 20), with(example, 12, "\x60")} {
		if h, payload, ok := tcp.Parse(s); h != (tcp.Header{}) || payload != "" || ok {
			t.Error(h, payload, ok)
		}
	}
	if h, payload, ok := tcp.Parse(example); h != ofExample() || payload != "" || !ok {
		t.Error(h, payload, ok)
	}
}

func TestFlagsOfTheDocument(t *testing.T) {
	got := [6]int{tcp.FlFin, tcp.FlSyn, tcp.FlRst, tcp.FlPsh, tcp.FlAck, tcp.FlUrg}
	if got != [6]int{1, 2, 4, 8, 16, 32} {
		t.Error(got)
	}
}

// P6.1

func TestParseTellsEachField(t *testing.T) {
	if h, payload, ok := tcp.Parse(laid + "payload"); h != sample() || payload != "payload" || !ok {
		t.Error(h, payload, ok)
	}
}

func TestParseOfAHeaderAlone(t *testing.T) {
	for count := 5; count <= 15; count++ {
		s := hasCount(strings.Repeat("\x00", 4*count), count)
		want := tcp.Header{Options: strings.Repeat("\x00", 4*count-20)}
		if h, payload, ok := tcp.Parse(s); h != want || payload != "" || !ok {
			t.Error(count, h, payload, ok)
		}
	}
}

func TestParseOfEachByteAtEachPlace(t *testing.T) {
	s := laid + "payload"
	for at := range s {
		taken := 0
		for b := range 256 {
			if checkParse(t, with(s, at, string([]byte{byte(b)}))) {
				taken++
			}
		}
		// 35 bytes have the counts 5 to 8, with 16 of Low each.
		want := 256
		if at == 12 {
			want = 4 * 16
		}
		if taken != want {
			t.Errorf("with any byte at %d %d are taken", at, taken)
		}
	}
}

func TestParseOfEachCountAndEachLengthOfTexts(t *testing.T) {
	for many := range 100 {
		s := strings.Repeat("\xa1\xb2\xc3", many)[:many]
		if many <= 12 {
			checkParse(t, s)
			continue
		}
		for b := range 256 {
			ok := checkParse(t, with(s, 12, string([]byte{byte(b)})))
			if own := b / 16 * 4; ok != (many >= 20 && own >= 20 && own <= many) {
				t.Fatalf("%d bytes with %d: %v", many, b, ok)
			}
		}
	}
}

func TestParseOfTextsThatAreCut(t *testing.T) {
	for many := range len(laid) {
		if h, payload, ok := tcp.Parse(laid[:many]); h != (tcp.Header{}) || payload != "" || ok {
			t.Errorf("%x is taken", laid[:many])
		}
	}
	if h, payload, ok := tcp.Parse(laid); h != sample() || payload != "" || !ok {
		t.Error(h, payload, ok)
	}
}

func TestParseTakesAllBehindTheHeader(t *testing.T) {
	lengths := []int{2008, 2027, 2028, 2029}
	for _, many := range append(lengths, great...) {
		payload := strings.Repeat("\x9a\x01\x7c", many)[:many]
		if h, p, ok := tcp.Parse(laid + payload); h != sample() || p != payload || !ok {
			t.Errorf("%d bytes behind: %v, %d bytes, %v", many, h, len(p), ok)
		}
	}
}

func TestParseDoesNotAskForTheSum(t *testing.T) {
	want := sample()
	for n := range 65536 {
		want.Sum = uint16(n)
		if h, payload, ok := tcp.Parse(hasSum(laid, n) + "payload"); h != want || payload != "payload" || !ok {
			t.Fatalf("with the Sum %d: %v, %q, %v", n, h, payload, ok)
		}
	}
}

func TestParseOfAnyTexts(t *testing.T) {
	r := source(61)
	taken := 0
	for range 100000 {
		s := anyText(r, r.Intn(80))
		if len(s) > 12 && r.Intn(4) > 0 {
			s = hasCount(s, len(s)/4-1+r.Intn(3))
		}
		if checkParse(t, s) {
			taken++
		}
	}
	if taken < 20000 || taken > 80000 {
		t.Error("hardly any text was taken, or hardly any was not:", taken)
	}
}

func TestPutOfEachField(t *testing.T) {
	if s, e := tcp.Put(sample(), "payload"); s != laid+"payload" || e != api.OK {
		t.Errorf("%x, %d", s, e)
	}
	if s, e := tcp.Put(tcp.Header{}, ""); s != strings.Repeat("\x00", 12)+"\x50"+strings.Repeat("\x00", 7) || e != api.OK {
		t.Errorf("%x, %d", s, e)
	}
}

func TestPutOfEachBitOfEachNumber(t *testing.T) {
	for bit := range 32 {
		n := uint32(1) << bit
		for _, h := range []tcp.Header{
			{Src: uint16(n)}, {Dst: uint16(n)}, {Seq: n}, {Ack: n}, {Flags: uint8(n)},
			{Window: uint16(n)}, {Sum: uint16(n)}, {Urgent: uint16(n)}, {Low: uint8(n) & 15},
		} {
			if !checkPut(t, h, "abc") {
				t.Errorf("%v is not put", h)
			}
		}
	}
}

func TestPutOfEveryLowAndFlags(t *testing.T) {
	for low := range 256 {
		for flags := range 256 {
			h := sample()
			h.Low, h.Flags = uint8(low), uint8(flags)
			if ok := checkPut(t, h, "payload"); ok != (low <= 15) {
				t.Fatalf("with Low %d: %v", low, ok)
			}
		}
	}
}

func TestPutOfEachLengthOfOptions(t *testing.T) {
	for many := range 300 {
		h := sample()
		h.Options = strings.Repeat("\x01\x03\x05", many)[:many]
		for _, payload := range []string{"", "p", "payload"} {
			if ok := checkPut(t, h, payload); ok != (many <= 40 && many%4 == 0) {
				t.Errorf("with %d bytes of Options: %v", many, ok)
			}
		}
		h.Low = 16
		if checkPut(t, h, "") {
			t.Errorf("with %d bytes of Options and Low 16 it is put", many)
		}
	}
}

func TestPutOfGreatOptions(t *testing.T) {
	// Of these the count is one that may be, once it is cut to four bits.
	for _, many := range []int{64, 65536, 65536 + 40, 1 << 20} {
		if s, e := tcp.Put(tcp.Header{Options: strings.Repeat("o", many)}, "p"); s != "" || e != api.ErrArg {
			t.Errorf("%d bytes: %d bytes, %d", many, len(s), e)
		}
	}
}

func TestPutOfEachLengthOfPayload(t *testing.T) {
	lengths := []int{1999, 2000, 2020, 2028, 2029, 2048, 2049}
	for many := range 300 {
		lengths = append(lengths, many)
	}
	for _, many := range append(lengths, great...) {
		if !checkPut(t, sample(), strings.Repeat("\xf1\x0e\x63", many)[:many]) {
			t.Errorf("%d bytes are not put", many)
		}
	}
}

func TestPutOfAnyHeaders(t *testing.T) {
	r := source(62)
	put := 0
	for range 50000 {
		h := anyHeader(r)
		if r.Intn(4) == 0 {
			h.Low = anyByte(r)
		}
		if r.Intn(4) == 0 {
			h.Options = anyText(r, r.Intn(60))
		}
		if checkPut(t, h, anyText(r, r.Intn(20))) {
			put++
		}
	}
	if put < 10000 || put > 45000 {
		t.Error("hardly any header was put, or hardly any was not:", put)
	}
}

// P6.2

func TestCheckAndSealOfShortTexts(t *testing.T) {
	for _, piece := range []string{"\x00", "\xff", "x", sealed, slowSeal(src, dst, laid)} {
		for many := range 20 {
			s := strings.Repeat(piece, many)[:many]
			if tcp.Check(src, dst, s) || tcp.Check(0, 0, s) {
				t.Errorf("%x is right", s)
			}
			if x := tcp.Seal(src, dst, s); x != s {
				t.Errorf("%x is sealed as %x", s, x)
			}
		}
	}
}

func TestCheckOfShortTextsThatWouldHold(t *testing.T) {
	for many := range 20 {
		s := strings.Repeat("\x03\x01", many)[:many]
		a := api.Addr(65535 - slowTotal(slowSummed(0, 0, s)))
		if slowTotal(slowSummed(a, 0, s)) != 65535 {
			t.Fatal("it would not")
		}
		if tcp.Check(a, 0, s) || tcp.Seal(a, 0, s) != s {
			t.Errorf("%x is right, or sealed", s)
		}
	}
}

func TestCheckOfEachSum(t *testing.T) {
	for _, s := range []string{example, laid, laid + "payload", hasCount(laid, 0), hasCount(laid, 15)} {
		right := sumOf(slowSeal(src, dst, s))
		if right == 0 {
			t.Fatal("that is another test")
		}
		for n := range 65536 {
			if ok := tcp.Check(src, dst, hasSum(s, n)); ok != (n == right) {
				t.Fatalf("%x with the Sum %d, not %d: %v", s, n, right, ok)
			}
		}
	}
}

// zeroSum is a segment whose words, and all beside, come to 65535 without the Sum.
func zeroSum(payload string) string {
	h := sample()
	h.Src, h.Sum = 0, 0
	s := slowPut(h, payload)
	return with(s, 0, two(65535-slowTotal(slowSummed(src, dst, s))))
}

func TestASumOfNothingIs0(t *testing.T) {
	for _, payload := range []string{"", "a", "ab", "payload", strings.Repeat("\xff\xfe", 700)} {
		s := zeroSum(payload)
		for n := range 65536 {
			x := hasSum(s, n)
			// 65535 comes to the same in a sum.
			if ok := tcp.Check(src, dst, x); ok != (n == 0 || n == 65535) {
				t.Fatalf("with the Sum %d: %v", n, ok)
			}
		}
		if x := tcp.Seal(src, dst, hasSum(s, 65535)); x != s {
			t.Errorf("%x is sealed as %x", s, x)
		}
	}
}

func TestCheckOfEachByteAtEachPlace(t *testing.T) {
	for _, payload := range []string{"", "payload", "payloads"} {
		s := slowSeal(src, dst, slowPut(sample(), payload))
		for at := range s {
			for b := range 256 {
				x := with(s, at, string([]byte{byte(b)}))
				if ok := checkCheck(t, src, dst, x); ok != (x == s) {
					t.Errorf("%x with %d at %d: %v", s, b, at, ok)
				}
				checkSeal(t, src, dst, x)
			}
		}
	}
}

func TestCheckAsksForBothAddresses(t *testing.T) {
	s := slowSeal(src, dst, laid+"payload")
	for bit := range 32 {
		if tcp.Check(src^1<<bit, dst, s) || tcp.Check(src, dst^1<<bit, s) {
			t.Errorf("with the bit %d of an address turned it is right", bit)
		}
		checkSeal(t, src^1<<bit, dst, s)
		checkSeal(t, src, dst^1<<bit, s)
	}
	if !tcp.Check(dst, src, s) {
		t.Error("from there to here it is not right")
	}
}

func TestCheckAsksForTheProtocolAndTheLength(t *testing.T) {
	s := laid + "payload"
	for n := range 65536 {
		// What is summed, with other numbers in the place of 6 and 35.
		for _, row := range []string{two(n) + "\x00\x23", "\x00\x06" + two(n)} {
			x := hasSum(s, 0)
			x = hasSum(x, 65535-slowTotal(with(slowSummed(src, dst, x), 8, row)))
			if ok := tcp.Check(src, dst, x); ok != (row == "\x00\x06\x00\x23") {
				t.Fatalf("with %x: %v", row, ok)
			}
		}
	}
}

func TestSumsDoNotAskForTheCount(t *testing.T) {
	for _, s := range []string{laid + "payload", laid[:20], laid[:21]} {
		for b := range 256 {
			x := with(s, 12, string([]byte{byte(b)}))
			if !checkCheck(t, src, dst, checkSeal(t, src, dst, x)) {
				t.Fatalf("%x, sealed, is not right", x)
			}
		}
	}
}

func TestSealOfEachLengthOfTexts(t *testing.T) {
	for many := range 600 {
		s := strings.Repeat("\xf1\x0e\x63", many)[:many]
		ok := checkCheck(t, src, dst, checkSeal(t, src, dst, s))
		if ok != (many >= 20) {
			t.Fatalf("of %d bytes: %v", many, ok)
		}
		if checkCheck(t, src, dst, s) {
			t.Fatalf("of %d bytes: not sealed, it is right", many)
		}
	}
}

func TestSealOfGreatTexts(t *testing.T) {
	for _, many := range great {
		s := laid + strings.Repeat("\x9a\x3c\x01", many)[:many]
		x := checkSeal(t, src, dst, s)
		if !checkCheck(t, src, dst, x) || checkCheck(t, src, dst, s) || checkCheck(t, src+1, dst, x) {
			t.Errorf("of %d bytes behind the header", many)
		}
	}
}

func TestSealDoesNotAskForTheSumThatWas(t *testing.T) {
	for _, s := range []string{laid + "payload", zeroSum("ab")} {
		want := slowSeal(src, dst, s)
		for n := range 65536 {
			if x := tcp.Seal(src, dst, hasSum(s, n)); x != want {
				t.Fatalf("with the Sum %d ahead it is %x, not %x", n, x, want)
			}
		}
	}
}

func TestCheckAndSealOfAnyTexts(t *testing.T) {
	r := source(63)
	right := 0
	for range 100000 {
		a, b, s := anyAddr(r), anyAddr(r), anyText(r, 10+r.Intn(60))
		if r.Intn(4) > 0 {
			s = slowSeal(a, b, s)
		}
		if r.Intn(3) == 0 {
			s = with(s, r.Intn(len(s)), string([]byte{anyByte(r)}))
		}
		checkSeal(t, a, b, s)
		if checkCheck(t, a, b, s) {
			right++
		}
	}
	if right < 20000 || right > 80000 {
		t.Error("hardly any text was right, or hardly any was not:", right)
	}
}

// P6.3

func TestWhatIsPutIsParsed(t *testing.T) {
	r := source(64)
	for i := range 50000 {
		h, payload := anyHeader(r), anyText(r, r.Intn(50))
		if i%500 == 0 {
			payload = anyText(r, 65530+r.Intn(10))
		}
		s, e := tcp.Put(h, payload)
		got, p, ok := tcp.Parse(s)
		if got != h || p != payload || !ok || e != api.OK {
			t.Fatalf("%v, %d bytes: %d, %v, %d bytes, %v", h, len(payload), e, got, len(p), ok)
		}
	}
}

func TestWhatIsParsedIsPut(t *testing.T) {
	r := source(65)
	for range 50000 {
		count := 5 + r.Intn(11)
		s := hasCount(anyText(r, 4*count+r.Intn(50)), count)
		h, payload, ok := tcp.Parse(s)
		if got, e := tcp.Put(h, payload); got != s || !ok || e != api.OK {
			t.Fatalf("%x is put as %x, %v, %d", s, got, ok, e)
		}
	}
}

func TestWhatIsSealedIsRightAndHasNothingElseChanged(t *testing.T) {
	r := source(66)
	for range 50000 {
		a, b, s := anyAddr(r), anyAddr(r), anyText(r, 20+r.Intn(50))
		x := tcp.Seal(a, b, s)
		if !tcp.Check(a, b, x) {
			t.Fatalf("%x, sealed as %x, is not right", s, x)
		}
		if len(x) != len(s) || x[:16] != s[:16] || x[18:] != s[18:] {
			t.Fatalf("%x is sealed as %x", s, x)
		}
		if again := tcp.Seal(a, b, x); again != x {
			t.Fatalf("%x is sealed as %x", x, again)
		}
	}
}

// checkTurned looks at a segment with its sum, of which each bit is turned.
func checkTurned(t *testing.T, a, b api.Addr, s string) {
	t.Helper()
	if !tcp.Check(a, b, s) {
		t.Fatalf("%x is not right", s)
	}
	for bit := range 8 * len(s) {
		if tcp.Check(a, b, turned(s, bit)) {
			t.Fatalf("%x, the bit %d turned, is right", s, bit)
		}
	}
}

func TestWithOneBitTurnedItIsNotRight(t *testing.T) {
	r := source(67)
	checkTurned(t, src, dst, sealed)
	checkTurned(t, src, dst, zeroSum("payload"))
	checkTurned(t, src, dst, hasSum(zeroSum("payload"), 65535))
	for range 1000 {
		a, b := anyAddr(r), anyAddr(r)
		checkTurned(t, a, b, tcp.Seal(a, b, anyText(r, 20+r.Intn(40))))
	}
}

func TestWithItsOnlyBitOfTheSumTurnedItIsNotRight(t *testing.T) {
	for bit := range 16 {
		// The port makes good what misses to a Sum of that one bit: turned, it
		// is 0, which of TCP does not tell that nothing was summed.
		s := hasSum(zeroSum("payload"), 32768>>bit)
		s = with(s, 0, "\x00\x00")
		s = with(s, 0, two(65535-slowTotal(slowSummed(src, dst, s))))
		if tcp.Seal(src, dst, s) != s {
			t.Fatalf("%x is sealed as %x", s, tcp.Seal(src, dst, s))
		}
		checkTurned(t, src, dst, s)
	}
}
