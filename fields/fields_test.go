package fields_test

import (
	"math"
	"math/big"
	"strings"
	"testing"

	"porter/fields"
)

// sample has no byte twice, one of each end, and is longer than any number.
const sample = "\x00\x01\x7f\x80\xff\xfe\x81\x02\x10"

// places are those around a text, and those at which a sum would run over.
func places(s string) []int {
	l := []int{math.MinInt, math.MinInt + 1, math.MinInt + 4, math.MaxInt - 4, math.MaxInt - 3, math.MaxInt - 2, math.MaxInt - 1, math.MaxInt, 1 << 32, -1 << 32}
	for at := -6; at <= len(s)+6; at++ {
		l = append(l, at)
	}
	return l
}

// hasAt tells by a reckoning that can't run over whether many bytes are there.
func hasAt(s string, at, many int) bool {
	end := new(big.Int).Add(big.NewInt(int64(at)), big.NewInt(int64(many)))
	return at >= 0 && end.Cmp(big.NewInt(int64(len(s)))) <= 0
}

// number is what bytes come to, counted one by one.
func number(s string) uint64 { return new(big.Int).SetBytes([]byte(s)).Uint64() }

// P1.1

// checkGet holds what is got of so many bytes, at each place of texts of each length, against a slow reckoning.
func checkGet(t *testing.T, bytes int, get func(s string, at int) (uint64, bool)) {
	for many := 0; many <= len(sample); many++ {
		s := sample[:many]
		for _, at := range places(s) {
			want, wantOK := uint64(0), hasAt(s, at, bytes)
			if wantOK {
				want = number(s[at : at+bytes])
			}
			if n, ok := get(s, at); n != want || ok != wantOK {
				t.Errorf("of %x at %d: %d, %v, not %d, %v", s, at, n, ok, want, wantOK)
			}
		}
	}
}

func TestGet16AtEachPlaceOfEachLength(t *testing.T) {
	checkGet(t, 2, func(s string, at int) (uint64, bool) {
		n, ok := fields.Get16(s, at)
		return uint64(n), ok
	})
}

func TestGet32AtEachPlaceOfEachLength(t *testing.T) {
	checkGet(t, 4, func(s string, at int) (uint64, bool) {
		n, ok := fields.Get32(s, at)
		return uint64(n), ok
	})
}

func TestGetOfTheDocument(t *testing.T) {
	if n, ok := fields.Get16("abc", 1); n != 25187 || !ok {
		t.Error(n, ok)
	}
	if n, ok := fields.Get16("abc", 2); n != 0 || ok {
		t.Error(n, ok)
	}
	if n, ok := fields.Get32("abc", 0); n != 0 || ok {
		t.Error(n, ok)
	}
}

func TestGetTellsTheLowestAndTheHighest(t *testing.T) {
	for _, x := range []struct {
		s    string
		want uint32
	}{{"\x00\x00\x00\x00", 0}, {"\xff\xff\xff\xff", math.MaxUint32}, {"\x80\x00\x00\x00", 1 << 31}, {"\x00\x00\x00\x01", 1}} {
		if n, ok := fields.Get32(x.s, 0); n != x.want || !ok {
			t.Errorf("Get32(%x, 0) is %d, %v", x.s, n, ok)
		}
		if n, ok := fields.Get16(x.s, 2); n != uint16(x.want) || !ok {
			t.Errorf("Get16(%x, 2) is %d, %v", x.s, n, ok)
		}
	}
}

// P1.2

func TestPutOfTheDocument(t *testing.T) {
	for _, x := range []struct{ got, want string }{
		{fields.Put16(258), "\x01\x02"},
		{fields.Put32(1), "\x00\x00\x00\x01"},
		{fields.Word(1, 2), "\x00\x01\x00\x02"},
	} {
		if x.got != x.want {
			t.Errorf("%x, not %x", x.got, x.want)
		}
	}
}

func TestPut16OfAll(t *testing.T) {
	for n := 0; n <= math.MaxUint16; n++ {
		want := string([]byte{byte(n / 256), byte(n % 256)})
		if s := fields.Put16(uint16(n)); s != want {
			t.Fatalf("Put16(%d) is %x", n, s)
		}
	}
}

func TestPut32OfEachByte(t *testing.T) {
	for at := range 4 {
		for b := range 256 {
			want := []byte{0xa1, 0xb2, 0xc3, 0xd4}
			want[at] = byte(b)
			if s := fields.Put32(uint32(number(string(want)))); s != string(want) {
				t.Fatalf("Put32 of %x is %x", want, s)
			}
		}
	}
}

func TestWordOfNone(t *testing.T) {
	if fields.Word() != "" || fields.Word([]uint16{}...) != "" || fields.Word([]uint16(nil)...) != "" {
		t.Error("Word of none has bytes")
	}
}

func TestWordIsNumbersOneBehindTheOther(t *testing.T) {
	var l []uint16
	want := ""
	for i := range 300 {
		n := uint16(i * 40503)
		l, want = append(l, n), want+fields.Put16(n)
		if s := fields.Word(l...); s != want {
			t.Fatalf("Word of %d is %x, not %x", len(l), s, want)
		}
	}
}

func TestWordLeavesTheListAsItIs(t *testing.T) {
	l := []uint16{1, 0xfffe, 3}
	s := fields.Word(l...)
	if l[0] != 1 || l[1] != 0xfffe || l[2] != 3 {
		t.Error("the list has changed", l)
	}
	l[0] = 9
	if s != "\x00\x01\xff\xfe\x00\x03" {
		t.Errorf("what was told has changed with the list: %x", s)
	}
}

// P1.3

func TestWithOfTheDocument(t *testing.T) {
	for _, x := range []struct {
		at         int
		part, want string
		ok         bool
	}{{1, "XY", "aXYd", true}, {3, "XY", "", false}, {4, "", "abcd", true}} {
		if s, ok := fields.With("abcd", x.at, x.part); s != x.want || ok != x.ok {
			t.Errorf("With(abcd, %d, %q) is %q, %v", x.at, x.part, s, ok)
		}
	}
}

func TestWithAtEachPlaceOfEachLength(t *testing.T) {
	for many := 0; many <= len(sample); many++ {
		s := sample[:many]
		for long := range len(sample) + 3 {
			part := strings.Repeat("\xaa\x55", long)[:long]
			for _, at := range places(s) {
				want, wantOK := "", hasAt(s, at, long)
				if wantOK {
					b := []byte(s)
					copy(b[at:], part)
					want = string(b)
				}
				if out, ok := fields.With(s, at, part); out != want || ok != wantOK {
					t.Errorf("With(%x, %d, %x) is %x, %v, not %x, %v", s, at, part, out, ok, want, wantOK)
				}
			}
		}
	}
}

func TestWithNoBytesAtEachPlace(t *testing.T) {
	for _, s := range []string{"", "a", "abc"} {
		for at := -1; at <= len(s)+1; at++ {
			out, ok := fields.With(s, at, "")
			if in := at >= 0 && at <= len(s); ok != in || in && out != s || !in && out != "" {
				t.Errorf("With(%q, %d, no bytes) is %q, %v", s, at, out, ok)
			}
		}
	}
}

// P1.4

func TestWhatIsPutIsGot(t *testing.T) {
	for n := 0; n <= math.MaxUint16; n++ {
		if m, ok := fields.Get16(fields.Put16(uint16(n)), 0); int(m) != n || !ok {
			t.Fatalf("%d is put, %d, %v got", n, m, ok)
		}
	}
	n := uint32(1)
	for range 100000 {
		n = n*1664525 + 1013904223
		if m, ok := fields.Get32(fields.Put32(n), 0); m != n || !ok {
			t.Fatalf("%d is put, %d, %v got", n, m, ok)
		}
	}
}

func TestWhatWordPutsIsGot(t *testing.T) {
	l := []uint16{0, 1, 255, 256, 0x8000, 0xffff, 0xa55a}
	s := fields.Word(l...)
	for i, want := range l {
		if n, ok := fields.Get16(s, 2*i); n != want || !ok {
			t.Errorf("number %d: %d is put, %d, %v got", i, want, n, ok)
		}
	}
	if n, ok := fields.Get16(s, 2*len(l)); n != 0 || ok {
		t.Errorf("behind all numbers: %d, %v", n, ok)
	}
}

func TestWithLeavesAllBytesBeside(t *testing.T) {
	for long := range len(sample) + 1 {
		part := strings.Repeat("\x33", long)
		for at := 0; at+long <= len(sample); at++ {
			out, ok := fields.With(sample, at, part)
			if !ok || len(out) != len(sample) || out[:at] != sample[:at] || out[at:at+long] != part || out[at+long:] != sample[at+long:] {
				t.Fatalf("With(%x, %d, %x) is %x, %v", sample, at, part, out, ok)
			}
			back, ok := fields.With(out, at, sample[at:at+long])
			if !ok || back != sample {
				t.Fatalf("with what was there at %d it is %x, %v", at, back, ok)
			}
		}
	}
}

func TestWhatIsPutIntoATextIsGotThere(t *testing.T) {
	for at := 0; at+4 <= len(sample); at++ {
		s, _ := fields.With(sample, at, fields.Put32(0x12345678))
		if n, ok := fields.Get32(s, at); n != 0x12345678 || !ok {
			t.Errorf("at %d: %x, %v", at, n, ok)
		}
		s, _ = fields.With(sample, at, fields.Put16(0x9abc))
		if n, ok := fields.Get16(s, at); n != 0x9abc || !ok {
			t.Errorf("at %d: %x, %v", at, n, ok)
		}
	}
}
