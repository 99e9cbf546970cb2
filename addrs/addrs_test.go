package addrs_test

import (
	"math"
	"math/rand"
	"regexp"
	"slices"
	"strconv"
	"strings"
	"testing"

	"porter/addrs"
	"porter/api"
)

// source tells the same numbers each time.
func source(seed int64) *rand.Rand { return rand.New(rand.NewSource(seed)) }

// ip is an address of four bytes.
func ip(a, b, c, d uint8) api.Addr {
	return api.Addr(a)*16777216 + api.Addr(b)*65536 + api.Addr(c)*256 + api.Addr(d)
}

// edgeBytes are the bytes whose texts change their lengths, and those beside.
var edgeBytes = []uint8{0, 1, 2, 9, 10, 11, 99, 100, 101, 127, 128, 199, 200, 249, 250, 254, 255}

// anyByte is often one of the edges.
func anyByte(r *rand.Rand) uint8 {
	if r.Intn(2) == 0 {
		return edgeBytes[r.Intn(len(edgeBytes))]
	}
	return uint8(r.Intn(256))
}

// anyAddr is an address of such bytes.
func anyAddr(r *rand.Rand) api.Addr {
	return ip(anyByte(r), anyByte(r), anyByte(r), anyByte(r))
}

// bit tells whether the bit at a place, counted from the highest on, is 1.
func bit(a api.Addr, at int) bool { return a>>(31-at)&1 == 1 }

// slowMay goes over the bits of a prefix one by one.
func slowMay(p api.Prefix) bool {
	if p.Bits < 0 || p.Bits > 32 {
		return false
	}
	for at := p.Bits; at < 32; at++ {
		if bit(p.IP, at) {
			return false
		}
	}
	return true
}

// slowHas goes over the bits of a prefix and an address one by one.
func slowHas(p api.Prefix, a api.Addr) bool {
	if !slowMay(p) {
		return false
	}
	for at := range p.Bits {
		if bit(p.IP, at) != bit(a, at) {
			return false
		}
	}
	return true
}

// cut is an address whose bits behind so many are made 0 one by one.
func cut(a api.Addr, bits int) api.Addr {
	for at := bits; at < 32; at++ {
		a &^= 1 << (31 - at)
	}
	return a
}

// numberForm and addrForm are what texts look like, how great a number is aside.
const (
	numberForm = `(0|[1-9][0-9]*)`
	addrForm   = numberForm + `\.` + numberForm + `\.` + numberForm + `\.` + numberForm
)

var (
	addrText   = regexp.MustCompile(`\A` + addrForm + `\z`)
	prefixText = regexp.MustCompile(`\A` + addrForm + `/` + numberForm + `\z`)
	pointText  = regexp.MustCompile(`\A` + addrForm + `:` + numberForm + `\z`)
)

// slowRead reads the numbers of a text of a form, each of them at most as great as the one of most in its place.
func slowRead(form *regexp.Regexp, s string, most ...uint64) (l []uint64, ok bool) {
	found := form.FindStringSubmatch(s)
	if found == nil {
		return nil, false
	}
	for i, digits := range found[1:] {
		n, err := strconv.ParseUint(digits, 10, 64)
		if err != nil || n > most[i] {
			return nil, false
		}
		l = append(l, n)
	}
	return l, true
}

// slowAddr is the address of four numbers.
func slowAddr(l []uint64) api.Addr {
	return ip(uint8(l[0]), uint8(l[1]), uint8(l[2]), uint8(l[3]))
}

func slowParse(s string) (api.Addr, api.Errno) {
	l, ok := slowRead(addrText, s, 255, 255, 255, 255)
	if !ok {
		return 0, api.ErrForm
	}
	return slowAddr(l), api.OK
}

func slowPrefix(s string) (api.Prefix, api.Errno) {
	l, ok := slowRead(prefixText, s, 255, 255, 255, 255, 32)
	if !ok {
		return api.Prefix{}, api.ErrForm
	}
	p := api.Prefix{IP: slowAddr(l), Bits: int(l[4])}
	if !slowMay(p) {
		return api.Prefix{}, api.ErrArg
	}
	return p, api.OK
}

func slowPoint(s string) (api.Endpoint, api.Errno) {
	l, ok := slowRead(pointText, s, 255, 255, 255, 255, 65535)
	if !ok {
		return api.Endpoint{}, api.ErrForm
	}
	return api.Endpoint{IP: slowAddr(l), Port: uint16(l[4])}, api.OK
}

// checkRead holds all that is read of a text against the slow readings.
func checkRead(t *testing.T, s string) {
	t.Helper()
	a, e := addrs.Parse(s)
	if want, wantE := slowParse(s); a != want || e != wantE {
		t.Errorf("Parse(%q) is %d, %d, not %d, %d", s, a, e, want, wantE)
	}
	p, e := addrs.Prefix(s)
	if want, wantE := slowPrefix(s); p != want || e != wantE {
		t.Errorf("Prefix(%q) is %v, %d, not %v, %d", s, p, e, want, wantE)
	}
	x, e := addrs.Point(s)
	if want, wantE := slowPoint(s); x != want || e != wantE {
		t.Errorf("Point(%q) is %v, %d, not %v, %d", s, x, e, want, wantE)
	}
}

// P3.1

func TestParseOfTheDocument(t *testing.T) {
	if a, e := addrs.Parse("1.2.3.4"); a != 16909060 || e != api.OK {
		t.Error(a, e)
	}
	for _, s := range []string{"1.2.3", "01.2.3.4", "1.2.3.256", "1.2.3.4."} {
		if a, e := addrs.Parse(s); a != 0 || e != api.ErrForm {
			t.Error(s, a, e)
		}
	}
}

func TestPrefixOfTheDocument(t *testing.T) {
	for _, x := range []struct {
		s string
		p api.Prefix
		e api.Errno
	}{
		{"10.0.0.0/8", api.Prefix{IP: 10 << 24, Bits: 8}, api.OK},
		{"10.0.0.1/8", api.Prefix{}, api.ErrArg},
		{"10.0.0.0/33", api.Prefix{}, api.ErrForm},
		{"0.0.0.0/0", api.Prefix{}, api.OK},
	} {
		if p, e := addrs.Prefix(x.s); p != x.p || e != x.e {
			t.Error(x.s, p, e)
		}
	}
}

func TestPointOfTheDocument(t *testing.T) {
	if x, e := addrs.Point("1.2.3.4:80"); x != (api.Endpoint{IP: 16909060, Port: 80}) || e != api.OK {
		t.Error(x, e)
	}
	for _, s := range []string{"1.2.3.4:65536", "1.2.3.4:"} {
		if x, e := addrs.Point(s); x != (api.Endpoint{}) || e != api.ErrForm {
			t.Error(s, x, e)
		}
	}
}

func TestParseOfEachNumberAtEachPlace(t *testing.T) {
	for at := range 4 {
		for n := range 1200 {
			l := []string{"11", "22", "33", "44"}
			l[at] = strconv.Itoa(n)
			a, e := addrs.Parse(strings.Join(l, "."))
			if n > 255 {
				if a != 0 || e != api.ErrForm {
					t.Fatalf("%d at %d: %d, %d", n, at, a, e)
				}
				continue
			}
			b := [4]uint8{11, 22, 33, 44}
			b[at] = uint8(n)
			if want := ip(b[0], b[1], b[2], b[3]); a != want || e != api.OK {
				t.Fatalf("%d at %d: %d, %d, not %d", n, at, a, e, want)
			}
		}
	}
}

func TestPrefixOfEachNumberOfBits(t *testing.T) {
	for n := range 1200 {
		s := "0.0.0.0/" + strconv.Itoa(n)
		p, e := addrs.Prefix(s)
		if n <= 32 && (p != api.Prefix{Bits: n} || e != api.OK) || n > 32 && (p != api.Prefix{} || e != api.ErrForm) {
			t.Errorf("%s is %v, %d", s, p, e)
		}
	}
}

func TestPrefixWithOneBitAtEachPlace(t *testing.T) {
	for at := range 32 {
		a := api.Addr(1) << (31 - at)
		for bits := 0; bits <= 32; bits++ {
			p, e := addrs.Prefix(addrs.Text(a) + "/" + strconv.Itoa(bits))
			if at < bits && (p != api.Prefix{IP: a, Bits: bits} || e != api.OK) {
				t.Errorf("bit %d is among %d: %v, %d", at, bits, p, e)
			}
			if at >= bits && (p != api.Prefix{} || e != api.ErrArg) {
				t.Errorf("bit %d is behind %d: %v, %d", at, bits, p, e)
			}
		}
	}
}

func TestPrefixTellsTheFormAheadOfWhatMayNotBe(t *testing.T) {
	for _, s := range []string{"10.0.0.1/33", "10.0.0.1/256", "10.0.0.1/264", "10.0.0.1/08", "10.0.0.1/", "10.0.0.1/ 8", "10.0.0.1/-8", "10.0.0.1/8/8", "10.0.0.256/8"} {
		if p, e := addrs.Prefix(s); p != (api.Prefix{}) || e != api.ErrForm {
			t.Error(s, p, e)
		}
	}
}

func TestPointOfEachPort(t *testing.T) {
	for n := range 1 << 17 {
		x, e := addrs.Point("1.2.3.4:" + strconv.Itoa(n))
		if n < 65536 && (x != api.Endpoint{IP: 16909060, Port: uint16(n)} || e != api.OK) || n >= 65536 && (x != api.Endpoint{} || e != api.ErrForm) {
			t.Fatalf("port %d: %v, %d", n, x, e)
		}
	}
}

// notNumbers are no number's texts, and such as are too great for any width;
// some of them come round to 0 or 1 in one.
func notNumbers() []string {
	return []string{"", " ", "00", "01", "+1", "-1", "-0", "1 ", " 1", "1\n", "\n", "1\x00", "\x00", "a", "1a", "a1", "0x1", "1e1", "1_0", "1.", ".1", "1/1", "1:1", "/", ":", ";", "١", "\xb1", "\xff",
		"00000000000000000001", "65536", "65537", "131072", "4294967296", "4294967297", "18446744073709551616", "18446744073709551617", "99999999999999999999999999", "1" + strings.Repeat("0", 300), strings.Repeat("0", 300), strings.Repeat("9", 300)}
}

func TestNoNumberAtAnyPlace(t *testing.T) {
	for _, bad := range notNumbers() {
		for at := range 5 {
			l := []string{"1", "2", "3", "4", "5"}
			l[at] = bad
			address := strings.Join(l[:4], ".")
			if a, e := addrs.Parse(address); at < 4 && (a != 0 || e != api.ErrForm) {
				t.Errorf("Parse(%q) is %d, %d", address, a, e)
			}
			s := address + "/" + l[4]
			if p, e := addrs.Prefix(s); p != (api.Prefix{}) || e != api.ErrForm {
				t.Errorf("Prefix(%q) is %v, %d", s, p, e)
			}
			s = address + ":" + l[4]
			if x, e := addrs.Point(s); x != (api.Endpoint{}) || e != api.ErrForm {
				t.Errorf("Point(%q) is %v, %d", s, x, e)
			}
		}
	}
}

func TestReadOfOtherTexts(t *testing.T) {
	for _, s := range []string{
		"", ".", "...", "....", "/", ":", "/8", ":80", "0", "1.2", "1.2.3", "1.2.3.4.5", "1.2.3.4.", ".1.2.3.4", "1..2.3", "1.2.3.4..", "16909060", "1.2.3.4.0/8",
		"1.2.3.4/32:80", "1.2.3.4:80/32", "1.2.3.4//32", "1.2.3.4::80", "1.2.3.4/32/", "1.2.3.4:80:", "1.2.3.4/3.2", "1.2.3.4:8.0", "1.2.3/8", "1.2.3:80", "1,2,3,4", "1.2.3.4;80", "1.2.3.4\\32",
		"::1", "::ffff:1.2.3.4", "[1.2.3.4]:80", "1.2.3.4%0", "0.0.0.0", "255.255.255.255", "255.255.255.255/32", "255.255.255.255:65535", "0.0.0.0/0", "0.0.0.0:0", "256.0.0.0", "300.0.0.0", "260.0.0.0",
	} {
		checkRead(t, s)
	}
}

func TestReadOfAnyTextsOfFewBytes(t *testing.T) {
	const few = "01259./:"
	r := source(31)
	for range 200000 {
		b := make([]byte, r.Intn(12))
		for i := range b {
			b[i] = few[r.Intn(len(few))]
		}
		checkRead(t, string(b))
		if t.Failed() {
			return
		}
	}
}

func TestReadOfTextsOfWhichOneByteIsChanged(t *testing.T) {
	for _, whole := range []string{"10.0.200.1", "10.0.200.255", "10.0.128.0/17", "0.0.0.0/0", "255.255.255.255/32", "1.2.3.4:80", "255.255.255.255:65535"} {
		checkRead(t, whole)
		for at := 0; at <= len(whole); at++ {
			for b := range 256 {
				checkRead(t, whole[:at]+string([]byte{byte(b)})+whole[at:])
				if at < len(whole) {
					checkRead(t, whole[:at]+string([]byte{byte(b)})+whole[at+1:])
				}
			}
			if at < len(whole) {
				checkRead(t, whole[:at]+whole[at+1:])
				checkRead(t, whole[:at])
			}
		}
	}
}

func TestReadOfGreatTexts(t *testing.T) {
	for _, piece := range []string{"0", "1", ".", "/", ":", "1.", "1.2.3.4/", "1.2.3.4:", "\xff"} {
		s := strings.Repeat(piece, 1<<20)
		for _, whole := range []string{s, "1.2.3.4" + s, "1.2.3.4/" + s, "1.2.3.4:" + s} {
			_, e := addrs.Parse(whole)
			_, f := addrs.Prefix(whole)
			_, g := addrs.Point(whole)
			if e != api.ErrForm || f != api.ErrForm || g != api.ErrForm {
				t.Errorf("many of %q: %d, %d, %d", piece, e, f, g)
			}
		}
	}
}

// P3.2

func TestTextOfTheDocument(t *testing.T) {
	a := api.Addr(16909060)
	if s := addrs.Text(a); s != "1.2.3.4" {
		t.Error(s)
	}
	if s := addrs.PrefixText(api.Prefix{IP: 10 << 24, Bits: 8}); s != "10.0.0.0/8" {
		t.Error(s)
	}
	if s := addrs.PointText(api.Endpoint{IP: a, Port: 80}); s != "1.2.3.4:80" {
		t.Error(s)
	}
	p := api.Prefix{IP: 10 << 24, Bits: 8}
	if !addrs.Has(p, ip(10, 255, 0, 1)) || addrs.Has(p, ip(11, 0, 0, 0)) {
		t.Error(addrs.Has(p, ip(10, 255, 0, 1)), addrs.Has(p, ip(11, 0, 0, 0)))
	}
}

func TestTextOfEachByteAtEachPlace(t *testing.T) {
	for at := range 4 {
		for n := range 256 {
			b := [4]uint8{0, 99, 100, 255}
			b[at] = uint8(n)
			var l []string
			for _, one := range b {
				l = append(l, strconv.Itoa(int(one)))
			}
			want := strings.Join(l, ".")
			a := ip(b[0], b[1], b[2], b[3])
			if s := addrs.Text(a); s != want {
				t.Fatalf("Text(%d) is %q, not %q", a, s, want)
			}
			if s := addrs.PrefixText(api.Prefix{IP: a, Bits: 32}); s != want+"/32" {
				t.Fatalf("PrefixText of %d is %q, not %q", a, s, want+"/32")
			}
		}
	}
}

func TestPointTextOfEachPort(t *testing.T) {
	for n := range 65536 {
		want := "9.9.9.9:" + strconv.Itoa(n)
		if s := addrs.PointText(api.Endpoint{IP: ip(9, 9, 9, 9), Port: uint16(n)}); s != want {
			t.Fatalf("%q, not %q", s, want)
		}
	}
}

func TestTextsOfTheLowestAndTheHighest(t *testing.T) {
	for _, x := range []struct{ got, want string }{
		{addrs.Text(0), "0.0.0.0"},
		{addrs.Text(math.MaxUint32), "255.255.255.255"},
		{addrs.PrefixText(api.Prefix{}), "0.0.0.0/0"},
		{addrs.PrefixText(api.Prefix{IP: math.MaxUint32, Bits: 32}), "255.255.255.255/32"},
		{addrs.PrefixText(api.Prefix{IP: 1 << 31, Bits: 1}), "128.0.0.0/1"},
		{addrs.PointText(api.Endpoint{}), "0.0.0.0:0"},
		{addrs.PointText(api.Endpoint{IP: math.MaxUint32, Port: 65535}), "255.255.255.255:65535"},
	} {
		if x.got != x.want {
			t.Errorf("%q, not %q", x.got, x.want)
		}
	}
}

// edgeBits are numbers of bits around those that may be, and such as come round to them in fewer bits.
func edgeBits() []int {
	l := []int{math.MinInt, math.MinInt + 1, math.MinInt + 32, math.MaxInt, math.MaxInt - 31, 1 << 32, 1<<32 + 8, -1 << 32, 256, 264, -256, -248}
	for n := -70; n <= 70; n++ {
		l = append(l, n)
	}
	return l
}

// checkPrefix holds what is told of a prefix and an address against the slow tellings.
func checkPrefix(t *testing.T, p api.Prefix, a api.Addr) {
	t.Helper()
	may := slowMay(p)
	if got := addrs.May(p); got != may {
		t.Errorf("May(%v) is %v", p, got)
	}
	if got := addrs.Has(p, a); got != slowHas(p, a) {
		t.Errorf("Has(%v, %d) is %v", p, a, got)
	}
	want := ""
	if may {
		want = addrs.Text(p.IP) + "/" + strconv.Itoa(p.Bits)
	}
	if s := addrs.PrefixText(p); s != want {
		t.Errorf("PrefixText(%v) is %q, not %q", p, s, want)
	}
}

func TestPrefixesOfEachNumberOfBits(t *testing.T) {
	for _, bits := range edgeBits() {
		for _, a := range []api.Addr{0, 1, 1 << 31, math.MaxUint32, math.MaxUint32 - 1, 10 << 24, ip(10, 0, 0, 1)} {
			checkPrefix(t, api.Prefix{IP: a, Bits: bits}, a)
			checkPrefix(t, api.Prefix{Bits: bits}, a)
			checkPrefix(t, api.Prefix{IP: a, Bits: bits}, 0)
		}
		for at := range 32 {
			checkPrefix(t, api.Prefix{IP: 1 << at, Bits: bits}, 1<<at)
			checkPrefix(t, api.Prefix{IP: math.MaxUint32 << at, Bits: bits}, math.MaxUint32)
		}
	}
}

func TestHasOfAddressesOfWhichOneBitIsChanged(t *testing.T) {
	r := source(32)
	for range 200 {
		a := anyAddr(r)
		for bits := 0; bits <= 32; bits++ {
			p := api.Prefix{IP: cut(a, bits), Bits: bits}
			if !addrs.May(p) || !addrs.Has(p, a) || !addrs.Has(p, p.IP) {
				t.Fatalf("%v: May %v, Has(%d) %v, Has(its IP) %v", p, addrs.May(p), a, addrs.Has(p, a), addrs.Has(p, p.IP))
			}
			for at := range 32 {
				if other := a ^ 1<<(31-at); addrs.Has(p, other) != (at >= bits) {
					t.Fatalf("Has(%v, %d) is %v", p, other, at < bits)
				}
			}
		}
	}
}

func TestHasOfThoseAroundAPrefix(t *testing.T) {
	r := source(33)
	for range 200 {
		for bits := 1; bits <= 32; bits++ {
			p := api.Prefix{IP: cut(anyAddr(r), bits), Bits: bits}
			last := p.IP + (api.Addr(1)<<(32-bits) - 1)
			if !addrs.Has(p, p.IP) || !addrs.Has(p, last) || addrs.Has(p, p.IP-1) || addrs.Has(p, last+1) {
				t.Fatalf("%v: %v, %v, and beside it %v, %v", p, addrs.Has(p, p.IP), addrs.Has(p, last), addrs.Has(p, p.IP-1), addrs.Has(p, last+1))
			}
		}
	}
}

func TestPrefixesByChance(t *testing.T) {
	r := source(34)
	for range 50000 {
		bits := r.Intn(40) - 3
		a := anyAddr(r)
		p := api.Prefix{IP: a, Bits: bits}
		if r.Intn(2) == 0 && bits >= 0 {
			p.IP = cut(a, bits)
		}
		checkPrefix(t, p, a)
		checkPrefix(t, p, anyAddr(r))
		if t.Failed() {
			return
		}
	}
}

// P3.3

// points are endpoints in the order in which they stand.
func points() []api.Endpoint {
	var l []api.Endpoint
	for _, a := range []api.Addr{0, 1, 2, 255, 256, 65535, 65536, 10 << 24, 1<<31 - 1, 1 << 31, math.MaxUint32 - 1, math.MaxUint32} {
		for _, port := range []uint16{0, 1, 255, 256, 32767, 32768, 65534, 65535} {
			l = append(l, api.Endpoint{IP: a, Port: port})
		}
	}
	return l
}

func TestLessOfEachTwo(t *testing.T) {
	l := points()
	for i, a := range l {
		for j, b := range l {
			if got := addrs.Less(a, b); got != (i < j) {
				t.Errorf("Less(%v, %v) is %v", a, b, got)
			}
		}
	}
}

func TestLessLaysEndpointsInOrder(t *testing.T) {
	l := points()
	source(35).Shuffle(len(l), func(i, j int) { l[i], l[j] = l[j], l[i] })
	slices.SortFunc(l, func(a, b api.Endpoint) int {
		switch {
		case addrs.Less(a, b):
			return -1
		case addrs.Less(b, a):
			return 1
		}
		return 0
	})
	if !slices.Equal(l, points()) {
		t.Error(l)
	}
}

// P3.4

func TestWhatIsToldIsRead(t *testing.T) {
	r := source(36)
	for range 100000 {
		a, bits := anyAddr(r), r.Intn(33)
		if got, e := addrs.Parse(addrs.Text(a)); got != a || e != api.OK {
			t.Fatalf("%q is read as %d, %d", addrs.Text(a), got, e)
		}
		p := api.Prefix{IP: cut(a, bits), Bits: bits}
		if got, e := addrs.Prefix(addrs.PrefixText(p)); got != p || e != api.OK {
			t.Fatalf("%q is read as %v, %d", addrs.PrefixText(p), got, e)
		}
		x := api.Endpoint{IP: a, Port: uint16(r.Intn(65536))}
		if got, e := addrs.Point(addrs.PointText(x)); got != x || e != api.OK {
			t.Fatalf("%q is read as %v, %d", addrs.PointText(x), got, e)
		}
	}
}

func TestWhatIsReadIsToldSo(t *testing.T) {
	r := source(37)
	read := 0
	for range 200000 {
		b := []byte("1.2.3.4" + [3]string{"", "/32", ":80"}[r.Intn(3)])
		for range r.Intn(3) {
			b[r.Intn(len(b))] = "0123456789./:"[r.Intn(13)]
		}
		s := string(b)
		if a, e := addrs.Parse(s); e == api.OK {
			read++
			if addrs.Text(a) != s {
				t.Fatalf("%q is told as %q", s, addrs.Text(a))
			}
		}
		if p, e := addrs.Prefix(s); e == api.OK {
			read++
			if addrs.PrefixText(p) != s {
				t.Fatalf("%q is told as %q", s, addrs.PrefixText(p))
			}
		}
		if x, e := addrs.Point(s); e == api.OK {
			read++
			if addrs.PointText(x) != s {
				t.Fatalf("%q is told as %q", s, addrs.PointText(x))
			}
		}
	}
	if read < 1000 {
		t.Error("hardly any text was read:", read)
	}
}

func TestJustOneOfTwoEndpointsIsLess(t *testing.T) {
	r := source(38)
	for range 100000 {
		a := api.Endpoint{IP: anyAddr(r), Port: uint16(anyByte(r))}
		b := api.Endpoint{IP: anyAddr(r), Port: uint16(anyByte(r))}
		if r.Intn(2) == 0 {
			b.IP = a.IP
		}
		if (addrs.Less(a, b) != addrs.Less(b, a)) != (a != b) {
			t.Fatalf("of %v, %v: %v, %v", a, b, addrs.Less(a, b), addrs.Less(b, a))
		}
	}
}

// P3.5

// samples are addresses that a prefix has: its first and its last one, and some of those between.
func samples(r *rand.Rand, p api.Prefix) []api.Addr {
	behind := ^api.Addr(0) - cut(math.MaxUint32, p.Bits)
	l := []api.Addr{p.IP, p.IP | behind}
	for range 6 {
		l = append(l, p.IP|api.Addr(r.Uint32())&behind)
	}
	return l
}

func TestPrefixesAreWithinEachOtherOrApart(t *testing.T) {
	r := source(39)
	within, apart := 0, 0
	for range 50000 {
		long := r.Intn(33)
		short := r.Intn(long + 1)
		a, b := anyAddr(r), anyAddr(r)
		if r.Intn(2) == 0 {
			b = a ^ 1<<r.Intn(32)
		}
		wide := api.Prefix{IP: cut(a, short), Bits: short}
		close := api.Prefix{IP: cut(b, long), Bits: long}
		l := samples(r, close)
		had := 0
		for _, one := range l {
			if !addrs.Has(close, one) {
				t.Fatalf("%v has not its own %d", close, one)
			}
			if addrs.Has(wide, one) {
				had++
			}
		}
		switch had {
		case len(l):
			within++
		case 0:
			apart++
		default:
			t.Fatalf("of %v, %v has %d of %d", close, wide, had, len(l))
		}
	}
	if within < 1000 || apart < 1000 {
		t.Error("hardly any two were so:", within, apart)
	}
}
