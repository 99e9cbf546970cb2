package udp_test

import (
	"math/rand"
	"strings"
	"testing"

	"porter/api"
	"porter/udp"
)

// source tells the same numbers each time.
func source(seed int64) *rand.Rand { return rand.New(rand.NewSource(seed)) }

// two is a number's two lowest bytes.
func two(n int) string { return string([]byte{byte(n >> 8), byte(n)}) }

// with is a text with bytes in the place of as many.
func with(s string, at int, part string) string {
	return s[:at] + part + s[at+len(part):]
}

// turned is a text of which one bit is turned.
func turned(s string, bit int) string {
	return with(s, bit/8, string([]byte{s[bit/8] ^ 128>>(bit%8)}))
}

// hasLength is a text with so many as its Length.
func hasLength(s string, n int) string { return with(s, 4, two(n)) }

// hasSum is a text with that Sum.
func hasSum(s string, n int) string { return with(s, 6, two(n)) }

// sumOf is the Sum that a datagram has.
func sumOf(s string) int { return int(s[6])*256 + int(s[7]) }

// slowSummed lays what is summed byte by byte.
func slowSummed(src, dst api.Addr, s string) string {
	var b []byte
	for _, a := range []api.Addr{src, dst} {
		for j := range 4 {
			b = append(b, byte(a>>(8*(3-j))))
		}
	}
	b = append(b, 0, 17, byte(len(s)>>8), byte(len(s)))
	return string(b) + s
}

// slowTotal adds all words of a text, which is filled up, one by one.
func slowTotal(s string) int {
	if len(s)%2 == 1 {
		s += "\x00"
	}
	n := 0
	for i := 0; i < len(s); i += 2 {
		n += int(s[i])*256 + int(s[i+1])
		if n > 65535 {
			n -= 65535
		}
	}
	return n
}

// slowCheck tells whether a datagram's sum is right.
func slowCheck(src, dst api.Addr, s string) bool {
	if len(s) < 8 {
		return false
	}
	return sumOf(s) == 0 || slowTotal(slowSummed(src, dst, s)) == 65535
}

// slowSeal is a datagram with its sum.
func slowSeal(src, dst api.Addr, s string) string {
	if len(s) < 8 {
		return s
	}
	n := 65535 - slowTotal(slowSummed(src, dst, hasSum(s, 0)))
	if n == 0 {
		n = 65535
	}
	return hasSum(s, n)
}

// slowPut lays a datagram's bytes one by one.
func slowPut(h udp.Header, payload string) string {
	length := 8 + len(payload)
	return string([]byte{
		byte(h.Src / 256), byte(h.Src % 256),
		byte(h.Dst / 256), byte(h.Dst % 256),
		byte(length / 256), byte(length % 256),
		byte(h.Sum / 256), byte(h.Sum % 256),
	}) + payload
}

// slowParse reads a datagram's bytes one by one.
func slowParse(s string) (h udp.Header, payload string, ok bool) {
	if len(s) < 8 || int(s[4])*256+int(s[5]) != len(s) {
		return h, "", false
	}
	var n [4]uint16
	for i := range 8 {
		n[i/2] = n[i/2]*256 + uint16(s[i])
	}
	return udp.Header{Src: n[0], Dst: n[1], Length: n[2], Sum: n[3]}, s[8:], true
}

// checkParse holds what Parse tells against the slow reading.
func checkParse(t *testing.T, s string) bool {
	t.Helper()
	h, payload, ok := udp.Parse(s)
	wantH, wantPayload, want := slowParse(s)
	if h != wantH || payload != wantPayload || ok != want {
		t.Fatalf("Parse(%x .., %d bytes) is %v, %d bytes, %v, not %v, %d bytes, %v", s[:min(len(s), 40)], len(s), h, len(payload), ok, wantH, len(wantPayload), want)
	}
	return ok
}

// checkCheck holds what Check tells against the slow reckoning.
func checkCheck(t *testing.T, src, dst api.Addr, s string) bool {
	t.Helper()
	ok := udp.Check(src, dst, s)
	if want := slowCheck(src, dst, s); ok != want {
		t.Fatalf("Check(%08x, %08x, %x .., %d bytes) is %v, not %v", src, dst, s[:min(len(s), 40)], len(s), ok, want)
	}
	return ok
}

// checkSeal holds what Seal tells against the slow reckoning.
func checkSeal(t *testing.T, src, dst api.Addr, s string) string {
	t.Helper()
	sealed := udp.Seal(src, dst, s)
	if want := slowSeal(src, dst, s); sealed != want {
		t.Fatalf("Seal(%08x, %08x, %x .., %d bytes) is %x .., %d bytes, not %x ..", src, dst, s[:min(len(s), 40)], len(s), sealed[:min(len(sealed), 40)], len(sealed), want[:min(len(want), 40)])
	}
	return sealed
}

// anyByte is often the lowest or the highest.
func anyByte(r *rand.Rand) byte {
	return [4]byte{0, 255, byte(r.Intn(256)), byte(r.Intn(256))}[r.Intn(4)]
}

// anyText is so many such bytes.
func anyText(r *rand.Rand, many int) string {
	b := make([]byte, many)
	for i := range b {
		b[i] = anyByte(r)
	}
	return string(b)
}

// anyNumber is made of such bytes.
func anyNumber(r *rand.Rand) uint32 {
	n := uint32(0)
	for range 4 {
		n = n<<8 | uint32(anyByte(r))
	}
	return n
}

// anyAddr is an address of such bytes.
func anyAddr(r *rand.Rand) api.Addr { return api.Addr(anyNumber(r)) }

// anyHeader is a header of such bytes.
func anyHeader(r *rand.Rand) udp.Header {
	return udp.Header{
		Src:    uint16(anyNumber(r)),
		Dst:    uint16(anyNumber(r)),
		Length: uint16(anyNumber(r)),
		Sum:    uint16(anyNumber(r)),
	}
}

// sample has no byte twice.
func sample() udp.Header {
	return udp.Header{Src: 0x1122, Dst: 0x3344, Length: 0x5566, Sum: 0x7788}
}

// great are numbers of bytes around those that two bytes can't tell any more.
var great = []int{65527, 65528, 65534, 65535, 65536, 65537, 65543, 65544, 65545, 131071, 131072, 131080, 131081, 1 << 20}

const (
	src = api.Addr(0x01020304)
	dst = api.Addr(0x05060708)
)

// the document's examples

const (
	example = "\x00\x01\x00\x02\x00\x0a\x00\x00ab"
	sealed  = "\x00\x01\x00\x02\x00\x0a\x8e\x61ab"
)

func TestPutOfTheDocument(t *testing.T) {
	if s := udp.Put(udp.Header{Src: 1, Dst: 2, Length: 99}, "ab"); s != example {
		t.Errorf("%x", s)
	}
}

func TestSealOfTheDocument(t *testing.T) {
	if s := udp.Seal(src, dst, example); s != sealed {
		t.Errorf("%x", s)
	}
}

func TestCheckOfTheDocument(t *testing.T) {
	if !udp.Check(src, dst, example) || !udp.Check(src, dst, sealed) || udp.Check(src+1, dst, sealed) {
		t.Error(udp.Check(src, dst, example), udp.Check(src, dst, sealed), udp.Check(src+1, dst, sealed))
	}
}

func TestParseOfTheDocument(t *testing.T) {
	if h, payload, ok := udp.Parse("\x00\x01\x00\x02\x00\x08\x00\x00a"); h != (udp.Header{}) || payload != "" || ok {
		t.Error(h, payload, ok)
	}
	want := udp.Header{Src: 1, Dst: 2, Length: 10, Sum: 0x8e61}
	if h, payload, ok := udp.Parse(sealed); h != want || payload != "ab" || !ok {
		t.Error(h, payload, ok)
	}
}

// P5.1

func TestParseTellsEachField(t *testing.T) {
	want := udp.Header{Src: 0x1122, Dst: 0x3344, Length: 15, Sum: 0x7788}
	h, payload, ok := udp.Parse("\x11\x22\x33\x44\x00\x0f\x77\x88payload")
	if h != want || payload != "payload" || !ok {
		t.Error(h, payload, ok)
	}
}

func TestParseOfAHeaderAlone(t *testing.T) {
	h, payload, ok := udp.Parse("\x00\x00\x00\x00\x00\x08\x00\x00")
	if h != (udp.Header{Length: 8}) || payload != "" || !ok {
		t.Error(h, payload, ok)
	}
}

func TestParseOfEachByteAtEachPlace(t *testing.T) {
	s := slowPut(sample(), "payload")
	for at := range s {
		taken := 0
		for b := range 256 {
			if checkParse(t, with(s, at, string([]byte{byte(b)}))) {
				taken++
			}
		}
		if ofLength := at == 4 || at == 5; ofLength != (taken == 1) || !ofLength && taken != 256 {
			t.Errorf("with any byte at %d %d are taken", at, taken)
		}
	}
}

func TestParseOfEachLengthOfShortTexts(t *testing.T) {
	for many := range 300 {
		s := strings.Repeat("\xa1\xb2\xc3", many)[:many]
		if many < 6 {
			checkParse(t, s)
			continue
		}
		for n := range 400 {
			if ok := checkParse(t, hasLength(s, n)); ok != (many >= 8 && n == many) {
				t.Fatalf("%d bytes with the Length %d: %v", many, n, ok)
			}
		}
	}
}

func TestParseOfTextsThatAreCutOrHaveMore(t *testing.T) {
	s := slowPut(sample(), "payload")
	for many := range len(s) {
		if h, payload, ok := udp.Parse(s[:many]); h != (udp.Header{}) || payload != "" || ok {
			t.Errorf("%x is taken", s[:many])
		}
	}
	for _, behind := range []string{"\x00", "x", s, strings.Repeat("\x00", 65536)} {
		if h, payload, ok := udp.Parse(s + behind); h != (udp.Header{}) || payload != "" || ok {
			t.Errorf("with %d bytes behind it is taken", len(behind))
		}
	}
}

func TestParseOfLessThanAHeaderWhoseLengthIsRight(t *testing.T) {
	for _, s := range []string{"\x01\x02\x03\x04\x00\x06", "\x01\x02\x03\x04\x00\x07\x08"} {
		if h, payload, ok := udp.Parse(s); h != (udp.Header{}) || payload != "" || ok {
			t.Errorf("%x is taken", s)
		}
	}
}

func TestParseOfEveryLength(t *testing.T) {
	for _, many := range []int{8, 9, 255, 256, 257, 2028} {
		s := slowPut(sample(), strings.Repeat("p", many-8))
		for n := range 65536 {
			h, payload, ok := udp.Parse(hasLength(s, n))
			if ok != (n == many) || !ok && (h != (udp.Header{}) || payload != "") {
				t.Fatalf("%d bytes with the Length %d: %v, %d bytes, %v", many, n, h, len(payload), ok)
			}
		}
	}
}

func TestParseOfGreatTexts(t *testing.T) {
	for _, many := range great {
		s := strings.Repeat("\x9a", many)
		for _, n := range []int{0, 1, 7, 8, 9, many, many + 1, many - 1, many - 65536, many - 65528, 65535, 65534} {
			ok := checkParse(t, hasLength(s, n))
			if want := n&65535 == many; ok != want {
				t.Errorf("%d bytes with the Length %d: %v", many, n&65535, ok)
			}
		}
	}
}

func TestParseDoesNotAskForTheSum(t *testing.T) {
	s := slowPut(sample(), "payload")
	for n := range 65536 {
		h, payload, ok := udp.Parse(hasSum(s, n))
		if int(h.Sum) != n || payload != "payload" || !ok {
			t.Fatalf("with the Sum %d: %v, %q, %v", n, h, payload, ok)
		}
	}
}

func TestParseOfAnyTexts(t *testing.T) {
	r := source(51)
	taken := 0
	for range 100000 {
		s := anyText(r, r.Intn(30))
		if len(s) >= 6 && r.Intn(4) > 0 {
			s = hasLength(s, len(s)+r.Intn(5)/4)
		}
		if checkParse(t, s) {
			taken++
		}
	}
	if taken < 20000 {
		t.Error("hardly any text was taken:", taken)
	}
}

func TestPutOfEachField(t *testing.T) {
	if s := udp.Put(sample(), "payload"); s != "\x11\x22\x33\x44\x00\x0f\x77\x88payload" {
		t.Errorf("%x", s)
	}
	if s := udp.Put(udp.Header{}, ""); s != "\x00\x00\x00\x00\x00\x08\x00\x00" {
		t.Errorf("%x", s)
	}
}

func TestPutOfEveryNumber(t *testing.T) {
	for n := range 65536 {
		for _, h := range []udp.Header{{Src: uint16(n)}, {Dst: uint16(n)}, {Length: uint16(n)}, {Sum: uint16(n)}} {
			if s := udp.Put(h, "abc"); s != slowPut(h, "abc") {
				t.Fatalf("Put(%v) is %x", h, s)
			}
		}
	}
}

func TestPutOfEachLengthOfPayload(t *testing.T) {
	lengths := []int{2039, 2040, 2041, 65500, 65526, 65529}
	for many := range 600 {
		lengths = append(lengths, many)
	}
	for _, many := range append(lengths, great...) {
		payload := strings.Repeat("\xf1\x0e", many)[:many]
		s := udp.Put(sample(), payload)
		if s != slowPut(sample(), payload) || len(s) != 8+many || s[4:6] != two(8+many) {
			t.Fatalf("of %d bytes: %x .., %d bytes", many, s[:8], len(s))
		}
	}
}

// P5.2

func TestCheckAndSealOfShortTexts(t *testing.T) {
	for _, piece := range []string{"\x00", "\xff", "x", sealed, slowSeal(src, dst, slowPut(sample(), ""))} {
		for many := range 8 {
			s := strings.Repeat(piece, many)[:many]
			if udp.Check(src, dst, s) || udp.Check(0, 0, s) {
				t.Errorf("%x is right", s)
			}
			if x := udp.Seal(src, dst, s); x != s {
				t.Errorf("%x is sealed as %x", s, x)
			}
		}
	}
}

func TestCheckOfAShortTextThatWouldHold(t *testing.T) {
	// All that is summed of it comes to 65535, though it has 7 bytes.
	s := "\x00\x00\x00\x00\x00\x00\xff"
	a := api.Addr(65535 - 17 - 7 - 0xff00)
	if slowTotal(slowSummed(a, 0, s)) != 65535 {
		t.Fatal("it would not")
	}
	if udp.Check(a, 0, s) || udp.Seal(a, 0, s) != s {
		t.Error("it is right, or sealed")
	}
}

func TestCheckOfASumOf0(t *testing.T) {
	r := source(52)
	for range 10000 {
		s := hasSum(anyText(r, 8+r.Intn(40)), 0)
		if !udp.Check(anyAddr(r), anyAddr(r), s) {
			t.Fatalf("%x is not right", s)
		}
	}
}

func TestCheckOfEachSum(t *testing.T) {
	for _, s := range []string{example, slowPut(sample(), ""), slowPut(sample(), "payload"), hasLength(slowPut(sample(), "payload"), 0xffff)} {
		right := sumOf(slowSeal(src, dst, s))
		for n := range 65536 {
			if ok := udp.Check(src, dst, hasSum(s, n)); ok != (n == right || n == 0) {
				t.Fatalf("%x with the Sum %d, not %d: %v", s, n, right, ok)
			}
		}
	}
}

// zeroSum is a datagram whose words, and all beside, come to 65535 without the Sum.
func zeroSum(payload string) string {
	s := slowPut(udp.Header{Dst: 7}, payload)
	return with(s, 0, two(65535-slowTotal(slowSummed(src, dst, s))))
}

func TestASumOfNothingIs65535(t *testing.T) {
	for _, payload := range []string{"", "a", "ab", "payload", strings.Repeat("\xff\xfe", 700)} {
		s := zeroSum(payload)
		if x := udp.Seal(src, dst, s); x != hasSum(s, 65535) {
			t.Errorf("%x is sealed as %x", s, x)
		}
		for n := range 65536 {
			x := hasSum(s, n)
			if ok := udp.Check(src, dst, x); ok != (n == 0 || n == 65535) {
				t.Fatalf("with the Sum %d: %v", n, ok)
			}
		}
	}
}

func TestCheckOfEachByteAtEachPlace(t *testing.T) {
	for _, payload := range []string{"", "payload", "payloads"} {
		s := slowSeal(src, dst, slowPut(sample(), payload))
		for at := range s {
			for b := range 256 {
				x := with(s, at, string([]byte{byte(b)}))
				if ok := checkCheck(t, src, dst, x); ok != (x == s) {
					t.Errorf("%x with %d at %d: %v", s, b, at, ok)
				}
				checkSeal(t, src, dst, x)
			}
		}
	}
}

func TestCheckAsksForBothAddresses(t *testing.T) {
	s := slowSeal(src, dst, slowPut(sample(), "payload"))
	for bit := range 32 {
		if udp.Check(src^1<<bit, dst, s) || udp.Check(src, dst^1<<bit, s) {
			t.Errorf("with the bit %d of an address turned it is right", bit)
		}
		checkSeal(t, src^1<<bit, dst, s)
		checkSeal(t, src, dst^1<<bit, s)
	}
	if !udp.Check(dst, src, s) {
		t.Error("from there to here it is not right")
	}
}

func TestSumsAreOfHowManyBytesThereAre(t *testing.T) {
	s := slowPut(sample(), "payload")
	for n := range 65536 {
		x := hasLength(s, n)
		if !checkCheck(t, src, dst, checkSeal(t, src, dst, x)) {
			t.Fatalf("with the Length %d it is not right", n)
		}
	}
}

func TestSealOfEachLengthOfPayload(t *testing.T) {
	for many := range 600 {
		s := slowPut(sample(), strings.Repeat("\xf1\x0e\x63", many)[:many])
		if !checkCheck(t, src, dst, checkSeal(t, src, dst, s)) {
			t.Fatalf("of %d bytes: it is not right", many)
		}
		if checkCheck(t, src, dst, s) {
			t.Fatalf("of %d bytes: not sealed, it is right", many)
		}
	}
}

func TestSealOfGreatTexts(t *testing.T) {
	for _, many := range great {
		s := udp.Put(sample(), strings.Repeat("\x9a\x3c\x01", many)[:many])
		x := checkSeal(t, src, dst, s)
		if !checkCheck(t, src, dst, x) || checkCheck(t, src, dst, s) || checkCheck(t, src+1, dst, x) {
			t.Errorf("of %d bytes", many)
		}
	}
}

func TestSealDoesNotAskForTheSumThatWas(t *testing.T) {
	for _, s := range []string{slowPut(sample(), "payload"), zeroSum("ab")} {
		want := slowSeal(src, dst, s)
		for n := range 65536 {
			if x := udp.Seal(src, dst, hasSum(s, n)); x != want {
				t.Fatalf("with the Sum %d ahead it is %x, not %x", n, x, want)
			}
		}
	}
}

func TestCheckAndSealOfAnyTexts(t *testing.T) {
	r := source(53)
	right := 0
	for range 100000 {
		a, b, s := anyAddr(r), anyAddr(r), anyText(r, r.Intn(40))
		if r.Intn(2) == 0 {
			s = slowSeal(a, b, s)
		}
		if len(s) > 0 && r.Intn(3) == 0 {
			s = with(s, r.Intn(len(s)), string([]byte{anyByte(r)}))
		}
		checkSeal(t, a, b, s)
		if checkCheck(t, a, b, s) {
			right++
		}
	}
	if right < 20000 || right > 80000 {
		t.Error("hardly any text was right, or hardly any was not:", right)
	}
}

// P5.3

func TestWhatIsPutIsParsed(t *testing.T) {
	r := source(54)
	for i := range 50000 {
		h, payload := anyHeader(r), anyText(r, r.Intn(50))
		if i%500 == 0 {
			payload = anyText(r, 65527-r.Intn(3))
		}
		want := h
		want.Length = uint16(8 + len(payload))
		got, p, ok := udp.Parse(udp.Put(h, payload))
		if got != want || p != payload || !ok {
			t.Fatalf("%v, %d bytes: %v, %d bytes, %v", h, len(payload), got, len(p), ok)
		}
	}
}

func TestWhatIsParsedIsPut(t *testing.T) {
	r := source(55)
	for range 50000 {
		s := anyText(r, 8+r.Intn(50))
		s = hasLength(s, len(s))
		h, payload, ok := udp.Parse(s)
		if got := udp.Put(h, payload); got != s || !ok {
			t.Fatalf("%x is put as %x, %v", s, got, ok)
		}
	}
}

func TestWhatIsSealedIsRightAndHasNothingElseChanged(t *testing.T) {
	r := source(56)
	for range 50000 {
		a, b, s := anyAddr(r), anyAddr(r), anyText(r, 8+r.Intn(50))
		x := udp.Seal(a, b, s)
		if !udp.Check(a, b, x) {
			t.Fatalf("%x, sealed as %x, is not right", s, x)
		}
		if len(x) != len(s) || x[:6] != s[:6] || x[8:] != s[8:] || sumOf(x) == 0 {
			t.Fatalf("%x is sealed as %x", s, x)
		}
		if again := udp.Seal(a, b, x); again != x {
			t.Fatalf("%x is sealed as %x", x, again)
		}
	}
}

// checkTurned looks at a datagram with its sum, of which each bit is turned.
func checkTurned(t *testing.T, a, b api.Addr, s string) {
	t.Helper()
	for bit := range 8 * len(s) {
		x := turned(s, bit)
		if ok := udp.Check(a, b, x); ok != (sumOf(x) == 0) {
			t.Fatalf("%x, the bit %d turned: %v", s, bit, ok)
		}
	}
}

func TestWithOneBitTurnedItIsNotRight(t *testing.T) {
	r := source(57)
	checkTurned(t, src, dst, sealed)
	checkTurned(t, src, dst, udp.Seal(src, dst, zeroSum("payload")))
	for range 1000 {
		a, b := anyAddr(r), anyAddr(r)
		checkTurned(t, a, b, udp.Seal(a, b, anyText(r, 8+r.Intn(30))))
	}
}

func TestWithItsOnlyBitOfTheSumTurnedItIsRight(t *testing.T) {
	for bit := range 16 {
		// The port makes good what misses to a Sum of that one bit.
		s := slowPut(udp.Header{Sum: 32768 >> bit}, "payload")
		s = with(s, 0, two(65535-slowTotal(slowSummed(src, dst, s))))
		if udp.Seal(src, dst, s) != s {
			t.Fatalf("%x is sealed as %x", s, udp.Seal(src, dst, s))
		}
		if x := turned(s, 48+bit); sumOf(x) != 0 || !udp.Check(src, dst, x) {
			t.Errorf("%x is not right", x)
		}
		checkTurned(t, src, dst, s)
	}
}
