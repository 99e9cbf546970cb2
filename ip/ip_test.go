package ip_test

import (
	"math/rand"
	"strings"
	"testing"

	"porter/api"
	"porter/ip"
)

// source tells the same numbers each time.
func source(seed int64) *rand.Rand { return rand.New(rand.NewSource(seed)) }

// slowSum counts the words of a header, whose length is even, one by one.
func slowSum(s string) int {
	n := 0
	for i := 0; i+1 < len(s); i += 2 {
		n += int(s[i])*256 + int(s[i+1])
		if n > 65535 {
			n -= 65535
		}
	}
	return 65535 - n
}

// slowPut lays a packet's bytes one by one, with no look at whether it may be.
func slowPut(h ip.Header, payload string) string {
	b := make([]byte, 20+len(h.Options), 20+len(h.Options)+len(payload))
	length := cap(b)
	b[0] = byte(64 + (20+len(h.Options))/4)
	b[1] = h.TOS
	b[2], b[3] = byte(length/256), byte(length%256)
	b[4], b[5] = byte(h.ID/256), byte(h.ID%256)
	if h.Flag {
		b[6] = 64
	}
	b[8], b[9] = h.TTL, h.Proto
	for i, a := range []api.Addr{h.Src, h.Dst} {
		for j := range 4 {
			b[12+4*i+j] = byte(a >> (8 * (3 - j)))
		}
	}
	copy(b[20:], h.Options)
	sum := slowSum(string(b))
	b[10], b[11] = byte(sum/256), byte(sum%256)
	return string(b) + payload
}

// slowParse goes through the chapter's reasons in their order.
func slowParse(s string) (h ip.Header, payload string, reason int) {
	if len(s) < 20 {
		return h, "", api.ReShort
	}
	if s[0]/16 != 4 {
		return h, "", api.ReVersion
	}
	own, length := int(s[0]%16)*4, int(s[2])*256+int(s[3])
	if own < 20 || len(s) < own || length < own || length > len(s) || length > 2048 {
		return h, "", api.ReLength
	}
	if slowSum(s[:own]) != 0 {
		return h, "", api.ReSum
	}
	if s[6:8] != "\x00\x00" && s[6:8] != "\x40\x00" {
		return h, "", api.ReFragment
	}
	var ends [2]api.Addr
	for i := range 8 {
		ends[i/4] = ends[i/4]*256 + api.Addr(s[12+i])
	}
	h = ip.Header{TOS: s[1], ID: uint16(s[4])*256 + uint16(s[5]), Flag: s[6] == 64, TTL: s[8], Proto: s[9], Src: ends[0], Dst: ends[1], Options: s[20:own]}
	return h, s[own:length], api.ReNone
}

// checkParse holds what Parse tells against the slow reading.
func checkParse(t *testing.T, s string) int {
	t.Helper()
	h, payload, reason := ip.Parse(s)
	wantH, wantPayload, want := slowParse(s)
	if h != wantH || payload != wantPayload || reason != want {
		start := s[:min(len(s), 60)]
		t.Fatalf("Parse(%x .., %d bytes) is %v, %d bytes, %d, not %v, %d bytes, %d", start, len(s), h, len(payload), reason, wantH, len(wantPayload), want)
	}
	return reason
}

// with is a text with bytes in the place of as many.
func with(s string, at int, part string) string {
	return s[:at] + part + s[at+len(part):]
}

// two is a number's two bytes.
func two(n int) string { return string([]byte{byte(n >> 8), byte(n)}) }

// resealed is a text with the sum that its header asks for, as far as the header is there.
func resealed(s string) string {
	s = with(s, 10, "\x00\x00")
	own := min(int(s[0]%16)*4, len(s)/2*2)
	return with(s, 10, two(slowSum(s[:own])))
}

// put is what Put tells of what may be.
func put(t *testing.T, h ip.Header, payload string) string {
	t.Helper()
	s, e := ip.Put(h, payload)
	if e != api.OK {
		t.Fatalf("Put(%v, %d bytes): %d", h, len(payload), e)
	}
	return s
}

// sample has no number twice.
func sample() ip.Header {
	return ip.Header{TOS: 0x11, ID: 0x2233, Flag: true, TTL: 0x44, Proto: 0x55, Src: 0x66778899, Dst: 0xaabbccdd, Options: "\xe1\xe2\xe3\xe4\xe5\xe6\xe7\xe8"}
}

// anyByte is often the lowest or the highest.
func anyByte(r *rand.Rand) byte {
	return [4]byte{0, 255, byte(r.Intn(256)), byte(r.Intn(256))}[r.Intn(4)]
}

// anyText is so many such bytes.
func anyText(r *rand.Rand, many int) string {
	b := make([]byte, many)
	for i := range b {
		b[i] = anyByte(r)
	}
	return string(b)
}

// anyNumber is made of such bytes.
func anyNumber(r *rand.Rand) uint32 {
	n := uint32(0)
	for range 4 {
		n = n<<8 | uint32(anyByte(r))
	}
	return n
}

// anyHeader is a header that may be.
func anyHeader(r *rand.Rand) ip.Header {
	return ip.Header{
		TOS:     anyByte(r),
		ID:      uint16(anyNumber(r)),
		Flag:    r.Intn(2) == 0,
		TTL:     anyByte(r),
		Proto:   anyByte(r),
		Src:     api.Addr(anyNumber(r)),
		Dst:     api.Addr(anyNumber(r)),
		Options: anyText(r, 4*r.Intn(11)),
	}
}

// the document's example

const example = "\x45\x00\x00\x14\x00\x00\x00\x00\x40\x11\x6c\xd3\x0a\x00\x00\x01\x01\x02\x03\x04"

func exampleHeader() ip.Header {
	return ip.Header{TTL: 64, Proto: 17, Src: 0x0a000001, Dst: 0x01020304}
}

func TestPutOfTheDocument(t *testing.T) {
	if s, e := ip.Put(exampleHeader(), ""); s != example || e != api.OK {
		t.Errorf("%x, %d", s, e)
	}
	if s, e := ip.Put(ip.Header{Options: "abc"}, ""); s != "" || e != api.ErrArg {
		t.Errorf("%x, %d", s, e)
	}
	if s, e := ip.Put(exampleHeader(), strings.Repeat("x", 2029)); s != "" || e != api.ErrLong {
		t.Errorf("%d bytes, %d", len(s), e)
	}
}

func TestParseOfTheDocument(t *testing.T) {
	if h, payload, reason := ip.Parse(example); h != exampleHeader() || payload != "" || reason != api.ReNone {
		t.Error(h, payload, reason)
	}
	for _, x := range []struct {
		s    string
		want int
	}{
		{example[:19], api.ReShort},
		{with(example, 0, "\x55"), api.ReVersion},
		{with(example, 0, "\x46"), api.ReLength},
		{with(example, 8, "\x3f"), api.ReSum},
	} {
		if h, payload, reason := ip.Parse(x.s); h != (ip.Header{}) || payload != "" || reason != x.want {
			t.Errorf("Parse(%x) is %v, %q, %d", x.s, h, payload, reason)
		}
	}
}

// P4.1

func TestParseTellsEachField(t *testing.T) {
	h, payload, reason := ip.Parse(slowPut(sample(), "payload") + "behind")
	if h != sample() || payload != "payload" || reason != api.ReNone {
		t.Error(h, payload, reason)
	}
}

func TestParseOfEachByteAtEachPlace(t *testing.T) {
	s := slowPut(sample(), "payload") + "behind"
	taken := 0
	for at := range s {
		for b := range 256 {
			x := with(s, at, string([]byte{byte(b)}))
			checkParse(t, x)
			if checkParse(t, resealed(x)) == api.ReNone {
				taken++
			}
		}
	}
	if taken < 5000 {
		t.Error("hardly any packet was taken:", taken)
	}
}

func TestParseOfEachFirstByteAndEachLengthOfTexts(t *testing.T) {
	s := slowPut(ip.Header{TTL: 9, Options: strings.Repeat("\x81\x72\x63\x54", 10)}, "payload")
	for first := range 256 {
		whole := resealed(with(s, 0, string([]byte{byte(first)})))
		for many := range len(whole) + 1 {
			checkParse(t, whole[:many])
			checkParse(t, whole[:many]+"\x00")
		}
	}
}

func TestParseOfTextsThatAreCut(t *testing.T) {
	for options := 0; options <= 40; options += 4 {
		whole := slowPut(ip.Header{TTL: 1, Options: strings.Repeat("o", options)}, "payload")
		for many := range len(whole) {
			want := api.ReLength
			if many < 20 {
				want = api.ReShort
			}
			if h, payload, reason := ip.Parse(whole[:many]); h != (ip.Header{}) || payload != "" || reason != want {
				t.Errorf("of %d bytes %d: %v, %q, %d", len(whole), many, h, payload, reason)
			}
		}
	}
}

func TestParseOfEachLength(t *testing.T) {
	head := slowPut(ip.Header{Proto: 6, Options: "abcd"}, "")
	for _, many := range []int{24, 25, 100, 2047, 2048, 2049, 70000} {
		behind := strings.Repeat("p", many-len(head))
		for length := 0; length < 65536; length++ {
			if length > 2100 && length < 65500 && length%256 > 1 {
				continue
			}
			reason := checkParse(t, resealed(with(head, 2, two(length)))+behind)
			if may := length >= 24 && length <= min(many, 2048); (reason == api.ReNone) != may {
				t.Fatalf("of %d bytes %d: %d", many, length, reason)
			}
		}
	}
}

func TestParseOfAllThatTellsOfPieces(t *testing.T) {
	s := slowPut(sample(), "payload")
	for n := range 65536 {
		x := resealed(with(s, 6, two(n)))
		want := api.ReFragment
		if n == 0 || n == 0x4000 {
			want = api.ReNone
		}
		h, _, reason := ip.Parse(x)
		if reason != want || h.Flag != (n == 0x4000) {
			t.Fatalf("%04x: %d, %v", n, reason, h)
		}
		checkParse(t, x)
	}
}

func TestParseOfEachSum(t *testing.T) {
	for _, s := range []string{slowPut(sample(), "payload"), example} {
		right := s[10:12]
		for n := range 65536 {
			_, _, reason := ip.Parse(with(s, 10, two(n)))
			if (reason == api.ReNone) != (two(n) == right) || reason != api.ReNone && reason != api.ReSum {
				t.Fatalf("%04x: %d", n, reason)
			}
		}
	}
}

// zeroSum is a packet whose words come to 65535 without the sum.
func zeroSum() string {
	s := slowPut(ip.Header{TTL: 7, Src: 1, Dst: 2}, "payload")
	s = with(s, 4, s[10:12])
	return with(s, 10, "\x00\x00")
}

func TestParseOfASumOfNothing(t *testing.T) {
	s := zeroSum()
	for n := range 65536 {
		_, payload, reason := ip.Parse(with(s, 10, two(n)))
		if may := n == 0 || n == 65535; (reason == api.ReNone) != may || may != (payload == "payload") {
			t.Fatalf("%04x: %q, %d", n, payload, reason)
		}
	}
}

func TestParseTakesASumOfTheHeaderAlone(t *testing.T) {
	s := slowPut(sample(), "payload")
	for i := len(s) - len("payload"); i < len(s); i++ {
		if _, _, reason := ip.Parse(with(s, i, "\xff")); reason != api.ReNone {
			t.Errorf("with another byte at %d: %d", i, reason)
		}
	}
}

// faults are what makes packets be dropped, by the reasons, each of which stays whatever is done of the others.
func faults() []func(s string) string {
	return []func(s string) string{
		func(s string) string { return with(s, 6, "\x20\x00") },
		func(s string) string { return with(s, 10, "\x5a\xa5") },
		func(s string) string { return with(s, 2, "\x40\x00") },
		func(s string) string { return with(s, 0, string([]byte{s[0] | 0x80})) },
		func(s string) string { return s[:19] },
	}
}

func TestParseTellsTheFirstReason(t *testing.T) {
	reasons := []int{api.ReFragment, api.ReSum, api.ReLength, api.ReVersion, api.ReShort}
	for set := range 1 << len(reasons) {
		s, want := slowPut(ip.Header{}, "payload"), api.ReNone
		for i, fault := range faults() {
			if set>>i&1 == 0 {
				continue
			}
			s, want = fault(s), reasons[i]
			if i == 0 {
				s = resealed(s)
			}
		}
		h, payload, reason := ip.Parse(s)
		if reason != want || (reason != api.ReNone) != (payload == "") || h != (ip.Header{}) {
			t.Errorf("faults %05b: %v, %q, %d, not %d", set, h, payload, reason, want)
		}
	}
}

func TestParseOfOtherTexts(t *testing.T) {
	for _, piece := range []string{"\x00", "\xff", "\x45", "\x40", "\x4f", "E", "4", "\x60", "\x45\x00\x00\x14"} {
		for _, many := range []int{0, 1, 19, 20, 21, 60, 61, 2048, 2049, 1 << 20} {
			if reason := checkParse(t, strings.Repeat(piece, many)); reason == api.ReNone {
				t.Errorf("%d times %x is taken", many, piece)
			}
		}
	}
}

func TestParseOfAnyTexts(t *testing.T) {
	r := source(41)
	var told [api.ReFragment + 1]int
	for range 200000 {
		s := slowPut(anyHeader(r), anyText(r, r.Intn(40))) + anyText(r, r.Intn(3))
		for range r.Intn(3) {
			at := r.Intn(min(len(s), 1+r.Intn(60)))
			s = with(s, at, string([]byte{anyByte(r)}))
		}
		if r.Intn(2) == 0 {
			s = resealed(s)
		}
		if r.Intn(8) == 0 {
			s = s[:r.Intn(len(s)+1)]
		}
		told[checkParse(t, s)]++
	}
	for reason, many := range told {
		if many < 1000 {
			t.Errorf("the reason %d was told %d times", reason, many)
		}
	}
}

// P4.2

func TestPutOfEachField(t *testing.T) {
	s := put(t, sample(), "payload")
	const ahead = "\x47\x11\x00\x23\x22\x33\x40\x00\x44\x55"
	const behind = "\x66\x77\x88\x99\xaa\xbb\xcc\xdd\xe1\xe2\xe3\xe4\xe5\xe6\xe7\xe8payload"
	if len(s) != 35 || s[:10] != ahead || s[12:] != behind || slowSum(s[:28]) != 0 {
		t.Errorf("%x", s)
	}
	h := sample()
	h.Flag = false
	if s := put(t, h, ""); s[6:8] != "\x00\x00" {
		t.Errorf("%x", s)
	}
}

func TestPutOfNothing(t *testing.T) {
	if s, e := ip.Put(ip.Header{}, ""); s != slowPut(ip.Header{}, "") || len(s) != 20 || e != api.OK {
		t.Errorf("%x, %d", s, e)
	}
}

func TestPutOfEachLengthOfOptionsAndPayload(t *testing.T) {
	payloads := []int{0, 1, 2, 3, 1987, 1988, 1989, 2000, 2027, 2028, 2029, 2030, 65516, 65536, 1 << 20}
	for many := 1940; many <= 2060; many++ {
		payloads = append(payloads, many)
	}
	for options := range 130 {
		h := sample()
		h.Options = strings.Repeat("\x9c\x01", options)[:options]
		for _, many := range payloads {
			payload := strings.Repeat("\xf1\x0e", many)[:many]
			s, e := ip.Put(h, payload)
			want, wantE := "", api.OK
			switch {
			case options > 40 || options%4 != 0:
				wantE = api.ErrArg
			case 20+options+many > 2048:
				wantE = api.ErrLong
			default:
				want = slowPut(h, payload)
			}
			if s != want || e != wantE {
				t.Fatalf("%d bytes of Options, %d of payload: %d bytes, %d, not %d bytes, %d", options, many, len(s), e, len(want), wantE)
			}
		}
	}
}

func TestPutOfGreatOptions(t *testing.T) {
	for _, many := range []int{256, 260, 1020, 1024, 2048, 65516, 65536, 65556, 1 << 20, 1<<20 + 1} {
		if s, e := ip.Put(ip.Header{Options: strings.Repeat("o", many)}, "payload"); s != "" || e != api.ErrArg {
			t.Errorf("%d bytes of Options: %d bytes, %d", many, len(s), e)
		}
	}
}

func TestPutTellsASumOfNothingAsNought(t *testing.T) {
	h, _, _ := ip.Parse(zeroSum())
	if s := put(t, h, "payload"); s != zeroSum() || s[10:12] != "\x00\x00" {
		t.Errorf("%x", s)
	}
}

func TestPutOfAnyHeaders(t *testing.T) {
	r := source(42)
	for range 100000 {
		h, payload := anyHeader(r), anyText(r, r.Intn(50))
		if s := put(t, h, payload); s != slowPut(h, payload) {
			t.Fatalf("Put(%v, %x) is %x, not %x", h, payload, s, slowPut(h, payload))
		}
	}
}

// P4.3

func TestWhatIsPutIsParsed(t *testing.T) {
	r := source(43)
	for i := range 50000 {
		h, payload := anyHeader(r), anyText(r, r.Intn(50))
		if i%100 == 0 {
			payload = anyText(r, 2028-len(h.Options)-r.Intn(3))
		}
		s := put(t, h, payload)
		for _, behind := range []string{"", "\x00", anyText(r, r.Intn(70)), s} {
			got, p, reason := ip.Parse(s + behind)
			if got != h || p != payload || reason != api.ReNone {
				t.Fatalf("%v, %d bytes: %v, %d bytes, %d", h, len(payload), got, len(p), reason)
			}
		}
	}
}

func TestWhatIsParsedIsPut(t *testing.T) {
	r := source(44)
	parsed := 0
	for range 100000 {
		s := slowPut(anyHeader(r), anyText(r, 10+r.Intn(40)))
		s = with(s, r.Intn(20), string([]byte{anyByte(r)}))
		if r.Intn(8) == 0 {
			s = with(s, 4, two(0))
			s = with(resealed(s), 4, resealed(s)[10:12])
			s = with(s, 10, two(65535*r.Intn(2)))
		} else {
			s = resealed(s)
		}
		h, payload, reason := ip.Parse(s)
		if reason != api.ReNone {
			continue
		}
		parsed++
		want := s[:20+len(h.Options)+len(payload)]
		if want[10:12] == "\xff\xff" {
			want = with(want, 10, "\x00\x00")
		}
		if got := put(t, h, payload); got != want {
			t.Fatalf("%x is put as %x", s, got)
		}
	}
	if parsed < 50000 {
		t.Error("hardly any text was parsed:", parsed)
	}
}

func TestASumOf65535IsPutAs0(t *testing.T) {
	s := with(zeroSum(), 10, "\xff\xff")
	h, payload, reason := ip.Parse(s + "behind")
	if reason != api.ReNone {
		t.Fatal(reason)
	}
	if got := put(t, h, payload); got != with(s, 10, "\x00\x00") {
		t.Errorf("%x is put as %x", s, got)
	}
}

// P4.4

func TestAHeaderOfWhichOneBitIsTurnedIsNotTaken(t *testing.T) {
	r := source(45)
	packets := []string{example, zeroSum(), with(zeroSum(), 10, "\xff\xff"), slowPut(ip.Header{}, ""), slowPut(sample(), "payload")}
	for range 1000 {
		packets = append(packets, slowPut(anyHeader(r), anyText(r, r.Intn(30))))
	}
	for _, s := range packets {
		own := int(s[0]%16) * 4
		if _, _, reason := ip.Parse(s); reason != api.ReNone {
			t.Fatalf("%x: %d", s, reason)
		}
		for at := range 8 * own {
			if at >= 4 && at < 8 { // how many bytes it has
				continue
			}
			turned := with(s, at/8, string([]byte{s[at/8] ^ 128>>(at%8)}))
			h, payload, reason := ip.Parse(turned + strings.Repeat("\x00", 2048))
			if reason == api.ReNone || h != (ip.Header{}) || payload != "" {
				t.Fatalf("%x, the bit %d turned, is taken", s, at)
			}
		}
	}
}
