package icmp_test

import (
	"math/rand"
	"strings"
	"testing"

	"porter/api"
	"porter/icmp"
	"porter/sums"
)

// source tells the same numbers each time.
func source(seed int64) *rand.Rand { return rand.New(rand.NewSource(seed)) }

// two is a number's two lowest bytes.
func two(n int) string { return string([]byte{byte(n >> 8), byte(n)}) }

// with is a text with bytes in the place of as many.
func with(s string, at int, part string) string {
	return s[:at] + part + s[at+len(part):]
}

// turned is a text of which one bit is turned.
func turned(s string, bit int) string {
	return with(s, bit/8, string([]byte{s[bit/8] ^ 128>>(bit%8)}))
}

// cut is so many bytes of a piece, told again and again.
func cut(piece string, many int) string { return strings.Repeat(piece, many)[:many] }

// hasSum is a text with that Sum.
func hasSum(s string, n int) string { return with(s, 2, two(n)) }

// sumOf is the Sum that a text has.
func sumOf(s string) int { return int(s[2])*256 + int(s[3]) }

// slowTotal adds all words of a text, which is filled up, one by one.
func slowTotal(s string) int {
	if len(s)%2 == 1 {
		s += "\x00"
	}
	n := 0
	for i := 0; i < len(s); i += 2 {
		n += int(s[i])*256 + int(s[i+1])
		if n > 65535 {
			n -= 65535
		}
	}
	return n
}

// slowCheck tells whether a message's sum is right.
func slowCheck(s string) bool { return len(s) >= 8 && slowTotal(s) == 65535 }

// slowSeal is a message with its sum.
func slowSeal(s string) string {
	if len(s) < 8 {
		return s
	}
	return hasSum(s, 65535-slowTotal(hasSum(s, 0)))
}

// slowPut lays a message's bytes one by one, with no look at whether it may be.
func slowPut(m icmp.Message) string {
	return string([]byte{m.Type, m.Code, byte(m.Sum / 256), byte(m.Sum % 256)}) + m.Rest + m.Data
}

// slowParse reads a message's bytes one by one.
func slowParse(s string) (m icmp.Message, ok bool) {
	if len(s) < 8 {
		return m, false
	}
	return icmp.Message{Type: s[0], Code: s[1], Sum: uint16(sumOf(s)), Rest: s[4:8], Data: s[8:]}, true
}

// slowQuery tells what a Type and a Code are.
func slowQuery(m icmp.Message) (ask, is bool) {
	if m.Code > 0 {
		return false, false
	}
	switch m.Type {
	case 8, 13:
		return true, true
	case 0, 14:
		return false, true
	}
	return false, false
}

// slowError tells whether a Type is an error's.
func slowError(m icmp.Message) bool { return m.Type == 3 || m.Type == 11 || m.Type == 12 }

// slowID reads an ID byte by byte.
func slowID(m icmp.Message) uint16 {
	if len(m.Rest) < 2 {
		return 0
	}
	return uint16(m.Rest[0])*256 + uint16(m.Rest[1])
}

// slowWithID lays an ID byte by byte.
func slowWithID(m icmp.Message, id uint16) icmp.Message {
	if len(m.Rest) >= 2 {
		m.Rest = string([]byte{byte(id / 256), byte(id % 256)}) + m.Rest[2:]
	}
	return m
}

// checkParse holds what Parse tells against the slow reading.
func checkParse(t *testing.T, s string) bool {
	t.Helper()
	m, ok := icmp.Parse(s)
	wantM, want := slowParse(s)
	if m != wantM || ok != want {
		t.Fatalf("Parse(%x .., %d bytes) is %x, %v, not %x, %v", s[:min(len(s), 40)], len(s), m.Rest, ok, wantM.Rest, want)
	}
	return ok
}

// checkPut holds what Put tells against the slow laying.
func checkPut(t *testing.T, m icmp.Message) bool {
	t.Helper()
	s, e := icmp.Put(m)
	want, wantE := "", api.ErrArg
	if len(m.Rest) == 4 {
		want, wantE = slowPut(m), api.OK
	}
	if s != want || e != wantE {
		t.Fatalf("Put with %d bytes of Rest, %d of Data is %x .., %d bytes, %d, not %x .., %d bytes, %d", len(m.Rest), len(m.Data), s[:min(len(s), 40)], len(s), e, want[:min(len(want), 40)], len(want), wantE)
	}
	return e == api.OK
}

// checkCheck holds what Check tells against the slow reckoning.
func checkCheck(t *testing.T, s string) bool {
	t.Helper()
	ok := icmp.Check(s)
	if want := slowCheck(s); ok != want {
		t.Fatalf("Check(%x .., %d bytes) is %v, not %v", s[:min(len(s), 40)], len(s), ok, want)
	}
	return ok
}

// checkSeal holds what Seal tells against the slow reckoning.
func checkSeal(t *testing.T, s string) string {
	t.Helper()
	x := icmp.Seal(s)
	if want := slowSeal(s); x != want {
		t.Fatalf("Seal(%x .., %d bytes) is %x .., %d bytes, not %x ..", s[:min(len(s), 40)], len(s), x[:min(len(x), 40)], len(x), want[:min(len(want), 40)])
	}
	return x
}

// checkKinds holds what Query and Error tell against the slow look.
func checkKinds(t *testing.T, m icmp.Message) {
	t.Helper()
	ask, is := icmp.Query(m)
	wantAsk, wantIs := slowQuery(m)
	if ask != wantAsk || is != wantIs {
		t.Fatalf("Query of Type %d, Code %d, %d bytes of Rest is %v, %v", m.Type, m.Code, len(m.Rest), ask, is)
	}
	if bad := icmp.Error(m); bad != slowError(m) {
		t.Fatalf("Error of Type %d, Code %d, %d bytes of Rest is %v", m.Type, m.Code, len(m.Rest), bad)
	}
}

// checkIDs holds what ID and WithID tell against the slow ways.
func checkIDs(t *testing.T, m icmp.Message, id uint16) {
	t.Helper()
	if got := icmp.ID(m); got != slowID(m) {
		t.Fatalf("ID of Rest %x is %d", m.Rest, got)
	}
	if got := icmp.WithID(m, id); got != slowWithID(m, id) {
		t.Fatalf("WithID(%v, %d) is %v", m, id, got)
	}
}

// anyByte is often the lowest or the highest.
func anyByte(r *rand.Rand) byte {
	return [4]byte{0, 255, byte(r.Intn(256)), byte(r.Intn(256))}[r.Intn(4)]
}

// anyText is so many such bytes.
func anyText(r *rand.Rand, many int) string {
	b := make([]byte, many)
	for i := range b {
		b[i] = anyByte(r)
	}
	return string(b)
}

// any16 is made of such bytes.
func any16(r *rand.Rand) uint16 { return uint16(anyByte(r))<<8 | uint16(anyByte(r)) }

// anyType is often one that is a query's or an error's.
func anyType(r *rand.Rand) byte {
	if r.Intn(4) == 0 {
		return anyByte(r)
	}
	return []byte{0, 3, 8, 11, 12, 13, 14}[r.Intn(7)]
}

// anyMessage is one that may be.
func anyMessage(r *rand.Rand) icmp.Message {
	return icmp.Message{
		Type: anyType(r),
		Code: byte(r.Intn(2)) * anyByte(r),
		Sum:  any16(r),
		Rest: anyText(r, 4),
		Data: anyText(r, r.Intn(50)),
	}
}

// sample has no byte twice.
func sample() icmp.Message {
	return icmp.Message{Type: 0x11, Code: 0x22, Sum: 0x3344, Rest: "\x55\x66\x77\x88", Data: "data"}
}

// laid is the bytes of that.
const laid = "\x11\x22\x33\x44\x55\x66\x77\x88data"

// void is a message that is nothing but bytes 0.
const void = "\x00\x00\x00\x00\x00\x00\x00\x00"

// great are numbers of bytes around those that two bytes can't tell any more.
var great = []int{65527, 65528, 65529, 65535, 65536, 65537, 131071, 131072, 1 << 20}

// the document's examples

const (
	example = "\x08\x00\x00\x00\x00\x07\x00\x01ab"
	sealed  = "\x08\x00\x96\x95\x00\x07\x00\x01ab"
)

// ofExample is the message of the example.
func ofExample() icmp.Message {
	return icmp.Message{Type: icmp.TyEcho, Rest: "\x00\x07\x00\x01", Data: "ab"}
}

func TestPutOfTheDocument(t *testing.T) {
	if s, e := icmp.Put(ofExample()); s != example || e != api.OK {
		t.Errorf("%x, %d", s, e)
	}
	if m, ok := icmp.Parse(example); m != ofExample() || !ok {
		t.Error(m, ok)
	}
}

func TestSealOfTheDocument(t *testing.T) {
	if s := icmp.Seal(example); s != sealed {
		t.Errorf("%x", s)
	}
	if !icmp.Check(sealed) || icmp.Check(example) {
		t.Error(icmp.Check(sealed), icmp.Check(example))
	}
}

func TestQueryOfTheDocument(t *testing.T) {
	reply, coded := ofExample(), ofExample()
	reply.Type, coded.Code = icmp.TyReply, 1
	if ask, is := icmp.Query(ofExample()); !ask || !is {
		t.Error(ask, is)
	}
	if ask, is := icmp.Query(reply); ask || !is {
		t.Error(ask, is)
	}
	if ask, is := icmp.Query(coded); ask || is {
		t.Error(ask, is)
	}
}

func TestIDOfTheDocument(t *testing.T) {
	if id := icmp.ID(ofExample()); id != 7 {
		t.Error(id)
	}
	if id := icmp.ID(icmp.Message{Rest: "\x07"}); id != 0 {
		t.Error(id)
	}
}

func TestErrorOfTheDocument(t *testing.T) {
	if !icmp.Error(icmp.Message{Type: icmp.TyTime}) || icmp.Error(icmp.Message{Type: 5}) {
		t.Error(icmp.Error(icmp.Message{Type: icmp.TyTime}), icmp.Error(icmp.Message{Type: 5}))
	}
}

func TestTypesOfTheDocument(t *testing.T) {
	got := [7]int{icmp.TyReply, icmp.TyNowhere, icmp.TyEcho, icmp.TyTime, icmp.TyWrong, icmp.TyStamp, icmp.TyStamped}
	if got != [7]int{0, 3, 8, 11, 12, 13, 14} {
		t.Error(got)
	}
}

// P7.1

func TestParseTellsEachField(t *testing.T) {
	if m, ok := icmp.Parse(laid); m != sample() || !ok {
		t.Error(m, ok)
	}
}

func TestParseOfTextsThatAreCut(t *testing.T) {
	for _, s := range []string{laid, void, sealed, cut("\xff", 8)} {
		for many := range 8 {
			if m, ok := icmp.Parse(s[:many]); m != (icmp.Message{}) || ok {
				t.Errorf("%x is taken", s[:many])
			}
		}
		for many := 8; many <= len(s); many++ {
			if !checkParse(t, s[:many]) {
				t.Errorf("%x is not taken", s[:many])
			}
		}
	}
}

func TestParseOfNoData(t *testing.T) {
	want := sample()
	want.Data = ""
	if m, ok := icmp.Parse(laid[:8]); m != want || !ok {
		t.Error(m, ok)
	}
	if m, ok := icmp.Parse(void); m != (icmp.Message{Rest: void[:4]}) || !ok {
		t.Error(m, ok)
	}
}

func TestParseOfEachByteAtEachPlace(t *testing.T) {
	for at := range laid {
		for b := range 256 {
			if !checkParse(t, with(laid, at, string([]byte{byte(b)}))) {
				t.Errorf("with %d at %d it is not taken", b, at)
			}
		}
	}
}

func TestParseDoesNotAskForTheSum(t *testing.T) {
	want := sample()
	for n := range 65536 {
		want.Sum = uint16(n)
		if m, ok := icmp.Parse(hasSum(laid, n)); m != want || !ok {
			t.Fatalf("with the Sum %d: %v, %v", n, m, ok)
		}
	}
}

func TestParseOfEachLength(t *testing.T) {
	lengths := append([]int{2027, 2028, 2029, 2047, 2048, 2049}, great...)
	for many := range 300 {
		lengths = append(lengths, many)
	}
	for _, many := range lengths {
		if ok := checkParse(t, cut("\xa1\xb2\xc3", many)); ok != (many >= 8) {
			t.Errorf("%d bytes: %v", many, ok)
		}
	}
}

func TestParseOfAnyTexts(t *testing.T) {
	r := source(71)
	for range 100000 {
		checkParse(t, anyText(r, r.Intn(24)))
	}
}

func TestPutOfEachField(t *testing.T) {
	if s, e := icmp.Put(sample()); s != laid || e != api.OK {
		t.Errorf("%x, %d", s, e)
	}
	if s, e := icmp.Put(icmp.Message{Rest: void[:4]}); s != void || e != api.OK {
		t.Errorf("%x, %d", s, e)
	}
}

func TestPutOfEachTypeAndCode(t *testing.T) {
	for n := range 65536 {
		m := sample()
		m.Type, m.Code = byte(n/256), byte(n%256)
		if !checkPut(t, m) {
			t.Fatalf("with Type %d and Code %d it is not put", m.Type, m.Code)
		}
	}
}

func TestPutOfEachSum(t *testing.T) {
	for n := range 65536 {
		m := sample()
		m.Sum = uint16(n)
		if s, e := icmp.Put(m); s != hasSum(laid, n) || e != api.OK {
			t.Fatalf("with the Sum %d: %x, %d", n, s, e)
		}
	}
}

func TestPutOfEachLengthOfRest(t *testing.T) {
	for many := range 300 {
		for _, data := range []string{"", "d", "data", void} {
			m := sample()
			m.Rest, m.Data = cut("\x00\x9f\x01", many), data
			if ok := checkPut(t, m); ok != (many == 4) {
				t.Errorf("with %d bytes of Rest, %d of Data: %v", many, len(data), ok)
			}
		}
	}
	for _, many := range append([]int{256 + 4, 65536 + 4, 1<<20 + 4}, great...) {
		if s, e := icmp.Put(icmp.Message{Type: 8, Rest: cut("r", many)}); s != "" || e != api.ErrArg {
			t.Errorf("with %d bytes of Rest: %d bytes, %d", many, len(s), e)
		}
	}
}

func TestPutOfEachLengthOfData(t *testing.T) {
	lengths := append([]int{2020, 2021, 2040, 2041}, great...)
	for many := range 300 {
		lengths = append(lengths, many)
	}
	for _, many := range lengths {
		m := sample()
		m.Data = cut("\xf1\x0e\x63", many)
		if !checkPut(t, m) {
			t.Errorf("with %d bytes of Data it is not put", many)
		}
	}
}

func TestPutOfAnyMessages(t *testing.T) {
	r := source(72)
	for range 50000 {
		m := anyMessage(r)
		if r.Intn(4) == 0 {
			m.Rest = anyText(r, r.Intn(10))
		}
		checkPut(t, m)
	}
}

// P7.2

func TestCheckAndSealOfShortTexts(t *testing.T) {
	for _, piece := range []string{"\x00", "\xff", "x", sealed, slowSeal(laid)} {
		for many := range 8 {
			s := cut(piece, many)
			if icmp.Check(s) {
				t.Errorf("%x is right", s)
			}
			if x := icmp.Seal(s); x != s {
				t.Errorf("%x is sealed as %x", s, x)
			}
		}
	}
}

func TestCheckOfShortTextsThatWouldHold(t *testing.T) {
	for many := 2; many < 8; many++ {
		s := with(cut("\x03\x01", many), 0, "\x00\x00")
		s = with(s, 0, two(65535-slowTotal(s)))
		if slowTotal(s) != 65535 || !sums.Holds(s) {
			t.Fatal("it would not")
		}
		if icmp.Check(s) || icmp.Seal(s) != s {
			t.Errorf("%x is right, or sealed", s)
		}
	}
}

func TestCheckOfEachSum(t *testing.T) {
	for _, s := range []string{example, laid, laid + "d", hasSum(laid[:8], 0), cut("\xf1\x0e\x63", 1001)} {
		right := sumOf(slowSeal(s))
		if right == 0 || right == 65535 {
			t.Fatal("that is another test")
		}
		for n := range 65536 {
			if ok := icmp.Check(hasSum(s, n)); ok != (n == right) {
				t.Fatalf("%x with the Sum %d, not %d: %v", s, n, right, ok)
			}
		}
	}
}

// zeroSum is a message whose words come to 65535 without the Sum.
func zeroSum(data string) string {
	s := slowPut(icmp.Message{Type: 8, Rest: "\x00\x00\x00\x01", Data: data})
	return with(s, 4, two(65535-slowTotal(s)))
}

func TestASumOfNothingIs0(t *testing.T) {
	for _, data := range []string{"", "a", "ab", "data", cut("\xff\xfe", 1401)} {
		s := zeroSum(data)
		for n := range 65536 {
			// 65535 comes to the same in a sum.
			if ok := icmp.Check(hasSum(s, n)); ok != (n == 0 || n == 65535) {
				t.Fatalf("%x .. with the Sum %d: %v", s[:8], n, ok)
			}
		}
		if x := icmp.Seal(hasSum(s, 65535)); x != s {
			t.Errorf("%x is sealed as %x", s, x)
		}
	}
}

func TestNothingButBytes0IsNotRight(t *testing.T) {
	for many := range 100 {
		s := cut("\x00", many)
		if icmp.Check(s) {
			t.Errorf("%d bytes 0 are right", many)
		}
		if many < 8 {
			continue
		}
		if x := icmp.Seal(s); x != hasSum(s, 65535) || !icmp.Check(x) {
			t.Errorf("%d bytes 0 are sealed as %x", many, x)
		}
	}
}

func TestCheckOfEachByteAtEachPlace(t *testing.T) {
	for _, whole := range []string{laid, laid + "d", laid[:8]} {
		s := slowSeal(whole)
		for at := range s {
			for b := range 256 {
				x := with(s, at, string([]byte{byte(b)}))
				if ok := checkCheck(t, x); ok != (x == s) {
					t.Errorf("%x with %d at %d: %v", s, b, at, ok)
				}
				checkSeal(t, x)
			}
		}
	}
}

func TestSealOfEachLength(t *testing.T) {
	lengths := append([]int{2028, 2029, 2048}, great...)
	for many := range 600 {
		lengths = append(lengths, many)
	}
	for _, many := range lengths {
		s := cut("\xf1\x0e\x63", many)
		if ok := checkCheck(t, checkSeal(t, s)); ok != (many >= 8) {
			t.Fatalf("of %d bytes: %v", many, ok)
		}
		checkCheck(t, s)
	}
}

func TestSealDoesNotAskForTheSumThatWas(t *testing.T) {
	for _, s := range []string{laid, laid + "d", zeroSum("ab"), void} {
		want := slowSeal(s)
		for n := range 65536 {
			if x := icmp.Seal(hasSum(s, n)); x != want {
				t.Fatalf("with the Sum %d ahead it is %x, not %x", n, x, want)
			}
		}
	}
}

func TestSealDoesNotAskForTheType(t *testing.T) {
	for n := range 65536 {
		if x := checkSeal(t, two(n)+laid[2:]); !checkCheck(t, x) {
			t.Fatalf("%x is not right", x)
		}
	}
}

func TestCheckAndSealOfAnyTexts(t *testing.T) {
	r := source(73)
	right := 0
	for range 100000 {
		s := anyText(r, 4+r.Intn(40))
		if r.Intn(4) > 0 {
			s = slowSeal(s)
		}
		if r.Intn(3) == 0 {
			s = with(s, r.Intn(len(s)), string([]byte{anyByte(r)}))
		}
		checkSeal(t, s)
		if checkCheck(t, s) {
			right++
		}
	}
	if right < 20000 || right > 80000 {
		t.Error("hardly any text was right, or hardly any was not:", right)
	}
}

// P7.3

func TestQueryAndErrorOfEachTypeAndCode(t *testing.T) {
	for n := range 65536 {
		m := sample()
		m.Type, m.Code = byte(n/256), byte(n%256)
		checkKinds(t, m)
	}
}

func TestHowManyQueriesAndErrorsThereAre(t *testing.T) {
	asking, told, errors := 0, 0, 0
	for n := range 65536 {
		m := icmp.Message{Type: byte(n / 256), Code: byte(n % 256)}
		switch ask, is := icmp.Query(m); {
		case ask:
			asking++
		case is:
			told++
		}
		if icmp.Error(m) {
			errors++
		}
	}
	// Errors may have any Code.
	if asking != 2 || told != 2 || errors != 3*256 {
		t.Error(asking, told, errors)
	}
}

func TestQueryAndErrorOfAnyRest(t *testing.T) {
	for n := range 256 {
		for many := range 20 {
			for code := range 3 {
				for _, data := range []string{"", "data"} {
					checkKinds(t, icmp.Message{Type: byte(n), Code: byte(code), Sum: 0xffff, Rest: cut("\xff\x00", many), Data: data})
				}
			}
		}
	}
}

func TestEachID(t *testing.T) {
	for id := range 65536 {
		m := sample()
		m.Rest = two(id) + "\x77\x88"
		checkIDs(t, m, uint16(65535-id))
		if got := icmp.WithID(sample(), uint16(id)); got != m || icmp.ID(got) != uint16(id) {
			t.Fatalf("with the ID %d it is %v", id, got)
		}
	}
}

func TestIDsOfEachLengthOfRest(t *testing.T) {
	lengths := append([]int{}, great...)
	for many := range 300 {
		lengths = append(lengths, many)
	}
	for _, many := range lengths {
		m := sample()
		m.Rest = cut("\x9f\x01\x7c", many)
		checkIDs(t, m, 0xabcd)
		if got := icmp.WithID(m, 0xabcd); (got == m) != (many < 2) || len(got.Rest) != many {
			t.Errorf("with %d bytes of Rest another ID makes %d", many, len(got.Rest))
		}
	}
}

func TestIDsDoNotAskForTheType(t *testing.T) {
	for n := range 65536 {
		m := sample()
		m.Type, m.Code = byte(n/256), byte(n%256)
		checkIDs(t, m, 0xabcd)
		if icmp.ID(m) != 0x5566 {
			t.Fatalf("of Type %d, Code %d it is %d", m.Type, m.Code, icmp.ID(m))
		}
	}
}

func TestIDsOfAnyMessages(t *testing.T) {
	r := source(74)
	for range 50000 {
		m := anyMessage(r)
		m.Rest = anyText(r, r.Intn(8))
		checkKinds(t, m)
		checkIDs(t, m, any16(r))
	}
}

// P7.4

func TestWhatIsPutIsParsed(t *testing.T) {
	r := source(75)
	for i := range 50000 {
		m := anyMessage(r)
		if i%500 == 0 {
			m.Data = anyText(r, 65520+r.Intn(20))
		}
		s, e := icmp.Put(m)
		if got, ok := icmp.Parse(s); got != m || !ok || e != api.OK {
			t.Fatalf("%v: %d, %v, %v", m, e, got, ok)
		}
	}
}

func TestWhatIsParsedIsPut(t *testing.T) {
	r := source(76)
	for range 50000 {
		s := anyText(r, 8+r.Intn(50))
		m, ok := icmp.Parse(s)
		if got, e := icmp.Put(m); got != s || !ok || e != api.OK {
			t.Fatalf("%x is put as %x, %v, %d", s, got, ok, e)
		}
	}
}

func TestWhatIsSealedIsRightAndHasNothingElseChanged(t *testing.T) {
	r := source(77)
	for range 50000 {
		s := anyText(r, 8+r.Intn(50))
		x := icmp.Seal(s)
		if !icmp.Check(x) {
			t.Fatalf("%x, sealed as %x, is not right", s, x)
		}
		if len(x) != len(s) || x[:2] != s[:2] || x[4:] != s[4:] {
			t.Fatalf("%x is sealed as %x", s, x)
		}
		if again := icmp.Seal(x); again != x {
			t.Fatalf("%x is sealed as %x", x, again)
		}
	}
}

// checkTurned looks at a message with its sum, of which each bit is turned.
func checkTurned(t *testing.T, s string) {
	t.Helper()
	if !icmp.Check(s) {
		t.Fatalf("%x is not right", s)
	}
	for bit := range 8 * len(s) {
		if icmp.Check(turned(s, bit)) {
			t.Fatalf("%x, the bit %d turned, is right", s, bit)
		}
	}
}

func TestWithOneBitTurnedItIsNotRight(t *testing.T) {
	r := source(78)
	checkTurned(t, sealed)
	checkTurned(t, zeroSum("data"))
	checkTurned(t, hasSum(zeroSum("data"), 65535))
	checkTurned(t, icmp.Seal(void))
	for range 2000 {
		checkTurned(t, icmp.Seal(anyText(r, 8+r.Intn(40))))
	}
}

func TestNoMessageIsAQueryAndAnError(t *testing.T) {
	for n := range 65536 {
		m := icmp.Message{Type: byte(n / 256), Code: byte(n % 256)}
		ask, is := icmp.Query(m)
		if bad := icmp.Error(m); is && bad || ask && !is {
			t.Fatalf("Type %d, Code %d: %v, %v, %v", m.Type, m.Code, ask, is, bad)
		}
	}
}

// withIDAndSum is a message with another ID, its Sum going along.
func withIDAndSum(s string, id uint16) string {
	m, _ := icmp.Parse(s)
	m.Sum = sums.Update(m.Sum, icmp.ID(m), id)
	x, _ := icmp.Put(icmp.WithID(m, id))
	return x
}

func TestWithAnotherIDItIsRight(t *testing.T) {
	for _, s := range []string{sealed, slowSeal(laid), zeroSum("data"), hasSum(zeroSum("data"), 65535), slowSeal(void + "\x01")} {
		for id := range 65536 {
			x := withIDAndSum(s, uint16(id))
			if !icmp.Check(x) || len(x) != len(s) || x[4:6] != two(id) || x[:2] != s[:2] || x[6:] != s[6:] {
				t.Fatalf("%x with the ID %d is %x", s, id, x)
			}
		}
	}
}

func TestWithAnotherIDAnyMessageIsRightJustIfItWas(t *testing.T) {
	r := source(79)
	for range 100000 {
		s := anyText(r, 8+r.Intn(40))
		if r.Intn(2) == 0 {
			s = icmp.Seal(s)
		}
		x := withIDAndSum(s, any16(r))
		if strings.Trim(s, "\x00") == "" || strings.Trim(x, "\x00") == "" {
			continue
		}
		if icmp.Check(x) != icmp.Check(s) {
			t.Fatalf("%x is %v, %x is %v", s, icmp.Check(s), x, icmp.Check(x))
		}
	}
}

func TestWithAnIDThatLeavesNothingButBytes0(t *testing.T) {
	for id := 1; id < 65536; id++ {
		// But for the ID and its Sum there is nothing in it.
		s := icmp.Seal(with(void, 4, two(id)))
		x := withIDAndSum(s, 0)
		if !icmp.Check(s) || x != void || icmp.Check(x) {
			t.Fatalf("%x is %x", s, x)
		}
	}
}
