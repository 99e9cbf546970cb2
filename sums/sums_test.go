package sums_test

import (
	"math/rand"
	"slices"
	"strings"
	"testing"

	"porter/fields"
	"porter/sums"
)

// edges are the words at which something turns over.
var edges = []uint16{0, 1, 2, 0x00ff, 0x0100, 0x7fff, 0x8000, 0x8001, 0xff00, 0xfffd, 0xfffe, 0xffff}

// total counts all words of a text in a number that can't run over, the text
// being filled up by hand.
func total(s string) uint64 {
	if len(s)%2 == 1 {
		s += "\x00"
	}
	n := uint64(0)
	for i := 0; i < len(s); i += 2 {
		n += uint64(s[i])*256 + uint64(s[i+1])
	}
	return n
}

// folded is what words come to that are added one by one: 0 if all are 0, and
// never 0 otherwise.
func folded(n uint64) uint16 {
	if n == 0 {
		return 0
	}
	return uint16((n-1)%65535 + 1)
}

// slowSum reckons a Sum without Add.
func slowSum(l ...string) uint16 {
	n := uint64(0)
	for _, s := range l {
		n += total(s)
	}
	return 65535 - folded(n)
}

// source tells the same numbers each time.
func source(seed int64) *rand.Rand { return rand.New(rand.NewSource(seed)) }

// words makes so many words, of which many are edges.
func words(r *rand.Rand, many int) []uint16 {
	l := make([]uint16, many)
	for i := range l {
		if r.Intn(2) == 0 {
			l[i] = edges[r.Intn(len(edges))]
		} else {
			l[i] = uint16(r.Intn(65536))
		}
	}
	return l
}

// bytesOf makes a text of so many bytes, of which many are 0 or 255.
func bytesOf(r *rand.Rand, many int) string {
	b := make([]byte, many)
	for i := range b {
		b[i] = [3]byte{0, 255, byte(r.Intn(256))}[r.Intn(3)]
	}
	return string(b)
}

// P2.1

func TestAddOfTheDocument(t *testing.T) {
	if n := sums.Add(65535, 1); n != 1 {
		t.Error(n)
	}
	if n := sums.Add(65535, 0); n != 65535 {
		t.Error(n)
	}
}

func TestAddOfEachWordAndEachEdge(t *testing.T) {
	for a := range 65536 {
		for _, b := range edges {
			want := a + int(b)
			if want >= 65536 {
				want -= 65535
			}
			if n := sums.Add(uint16(a), b); int(n) != want {
				t.Fatalf("Add(%d, %d) is %d, not %d", a, b, n, want)
			}
			if n := sums.Add(b, uint16(a)); int(n) != want {
				t.Fatalf("Add(%d, %d) is %d, not %d", b, a, n, want)
			}
		}
	}
}

func TestAddAround65536(t *testing.T) {
	for a := range 65536 {
		for sum := 65534; sum <= 65537; sum++ {
			b := sum - a
			if b < 0 || b > 65535 {
				continue
			}
			want := sum
			if sum >= 65536 {
				want = sum - 65535
			}
			if n := sums.Add(uint16(a), uint16(b)); int(n) != want {
				t.Fatalf("Add(%d, %d) is %d, not %d", a, b, n, want)
			}
		}
	}
}

// P2.2

func TestSumOfTheDocument(t *testing.T) {
	for _, x := range []struct {
		l    []string
		want uint16
	}{
		{nil, 65535},
		{[]string{"\x00\x01\xf2\x03\xf4\xf5\xf6\xf7"}, 8717},
		{[]string{"\x01"}, 65279},
		{[]string{"\x01", "\x01"}, 65023},
	} {
		if n := sums.Sum(x.l...); n != x.want {
			t.Errorf("Sum(%x) is %d, not %d", x.l, n, x.want)
		}
	}
	if sums.Holds() || !sums.Holds("\xff\xff") {
		t.Error(sums.Holds(), sums.Holds("\xff\xff"))
	}
}

func TestSumOfNothing(t *testing.T) {
	for _, l := range [][]string{nil, {}, {""}, {"", "", ""}, {"\x00"}, {"\x00", "\x00\x00", "", "\x00\x00\x00"}, {strings.Repeat("\x00", 2049)}} {
		if n := sums.Sum(l...); n != 65535 || sums.Holds(l...) {
			t.Errorf("of %x: %d, %v", l, n, sums.Holds(l...))
		}
	}
}

func TestSumOfTextsOfEachLength(t *testing.T) {
	r := source(22)
	for many := range 70 {
		for range 50 {
			s := bytesOf(r, many)
			if n, want := sums.Sum(s), slowSum(s); n != want || sums.Holds(s) != (want == 0) {
				t.Fatalf("Sum(%x) is %d, not %d, and Holds %v", s, n, want, sums.Holds(s))
			}
		}
	}
}

func TestSumOfManyTexts(t *testing.T) {
	r := source(23)
	for range 20000 {
		l := make([]string, r.Intn(6))
		for i := range l {
			l[i] = bytesOf(r, r.Intn(8))
		}
		if n, want := sums.Sum(l...), slowSum(l...); n != want || sums.Holds(l...) != (want == 0) {
			t.Fatalf("Sum(%x) is %d, not %d, and Holds %v", l, n, want, sums.Holds(l...))
		}
	}
}

func TestSumOfAGreatText(t *testing.T) {
	for _, many := range []int{2047, 2048, 65535, 65536, 1<<20 + 1} {
		s := strings.Repeat("\xff\xfe\x7f", many)[:many]
		if n, want := sums.Sum(s), slowSum(s); n != want {
			t.Errorf("of %d bytes: %d, not %d", many, n, want)
		}
	}
}

func TestSumFillsUpEachOddTextAlone(t *testing.T) {
	if n := sums.Sum("\x12", "\x34"); n != 65535-0x4600 {
		t.Errorf("of two odd texts: %04x", n)
	}
	if n := sums.Sum("\x12\x34"); n != 65535-0x1234 {
		t.Errorf("of one even text: %04x", n)
	}
	if a, b := sums.Sum("\x12\x34\x56"), sums.Sum("\x12\x34\x56\x00"); a != b || a != 65535-0x6834 {
		t.Errorf("with and without the byte 0: %04x, %04x", a, b)
	}
	if n := sums.Sum("\x12", "", "\x34\x56"); n != 65535-0x4656 {
		t.Errorf("nothing between two texts: %04x", n)
	}
}

func TestHoldsOfEachWordBesideItsSum(t *testing.T) {
	for w := range 65536 {
		s := fields.Put16(uint16(w))
		sum := fields.Put16(sums.Sum(s))
		if !sums.Holds(s, sum) || !sums.Holds(s+sum) {
			t.Fatalf("%04x with its sum %x does not hold", w, sum)
		}
		if sums.Holds(s) != (w == 65535) {
			t.Fatalf("%04x alone holds: %v", w, sums.Holds(s))
		}
	}
}

func TestSumLeavesTheListAsItIs(t *testing.T) {
	l := []string{"\x01", "\x02\x03", ""}
	sums.Sum(l...)
	sums.Holds(l...)
	if !slices.Equal(l, []string{"\x01", "\x02\x03", ""}) {
		t.Errorf("%x", l)
	}
}

// P2.3

// slowUpdate adds what is turned to what is turned, in numbers that can't run
// over.
func slowUpdate(sum, from, to uint16) uint16 {
	return 65535 - folded(uint64(65535-sum)+uint64(65535-from)+uint64(to))
}

func TestUpdateOfTheDocument(t *testing.T) {
	if n := sums.Update(8717, 1, 2); n != 8716 {
		t.Error(n)
	}
}

func TestUpdateOfEachWordAndEachEdge(t *testing.T) {
	for w := range 65536 {
		for _, a := range edges {
			for _, b := range edges {
				for _, x := range [3][3]uint16{{uint16(w), a, b}, {a, uint16(w), b}, {a, b, uint16(w)}} {
					if n, want := sums.Update(x[0], x[1], x[2]), slowUpdate(x[0], x[1], x[2]); n != want {
						t.Fatalf("Update(%v) is %d, not %d", x, n, want)
					}
				}
			}
		}
	}
}

func TestUpdateToTheSameWord(t *testing.T) {
	for _, w := range edges {
		for _, sum := range edges {
			want := sum
			if sum == 65535 {
				want = 0 // of words that are added, one at least not 0, none come to 0 again
			}
			if n := sums.Update(sum, w, w); n != want {
				t.Errorf("Update(%d, %d, %d) is %d, not %d", sum, w, w, n, want)
			}
		}
	}
}

func TestUpdatesIsUpdateWordByWord(t *testing.T) {
	r := source(24)
	for range 20000 {
		many := r.Intn(9)
		from, to := words(r, many), words(r, many)
		for i := range from {
			if r.Intn(3) == 0 {
				to[i] = from[i]
			}
		}
		sum := words(r, 1)[0]
		want := sum
		for i := range from {
			want = slowUpdate(want, from[i], to[i])
		}
		if n := sums.Updates(sum, fields.Word(from...), fields.Word(to...)); n != want {
			t.Fatalf("Updates(%d, %x, %x) is %d, not %d", sum, from, to, n, want)
		}
	}
}

func TestUpdatesOfWordsThatAreAlike(t *testing.T) {
	for _, s := range []string{"\x00\x00", "\x00\x05", "\xff\xff", "\x00\x05\x00\x06"} {
		if n := sums.Updates(65535, s, s); n != 0 {
			t.Errorf("Updates(65535, %x, %x) is %d", s, s, n)
		}
		if n := sums.Updates(77, s, s); n != 77 {
			t.Errorf("Updates(77, %x, %x) is %d", s, s, n)
		}
	}
}

func TestUpdatesOfWrongLengths(t *testing.T) {
	for _, sum := range []uint16{0, 9, 65535} {
		for a := range 7 {
			for b := range 7 {
				if a == b && a%2 == 0 && a > 0 {
					continue
				}
				from, to := strings.Repeat("\x11", a), strings.Repeat("\x22", b)
				if n := sums.Updates(sum, from, to); n != sum {
					t.Errorf("Updates(%d, %x, %x) is %d", sum, from, to, n)
				}
			}
		}
	}
}

// P2.4

func TestSumInAnyOrder(t *testing.T) {
	r := source(25)
	for range 5000 {
		l := words(r, 2+r.Intn(12))
		want := sums.Sum(fields.Word(l...))
		r.Shuffle(len(l), func(i, j int) { l[i], l[j] = l[j], l[i] })
		if n := sums.Sum(fields.Word(l...)); n != want {
			t.Fatalf("of %x: %d, not %d", l, n, want)
		}
	}
}

func TestSumWhereverTextsPart(t *testing.T) {
	r := source(26)
	for range 2000 {
		s := bytesOf(r, r.Intn(20))
		want := sums.Sum(s)
		for a := 0; a <= len(s); a += 2 {
			for b := a; b <= len(s); b += 2 {
				if n := sums.Sum(s[:a], s[a:b], s[b:]); n != want {
					t.Fatalf("of %x, %x, %x: %d, not %d", s[:a], s[a:b], s[b:], n, want)
				}
			}
		}
	}
}

func TestSumOfBytesThatChangePlaces(t *testing.T) {
	r := source(27)
	for range 5000 {
		l := words(r, r.Intn(12))
		want := sums.Sum(fields.Word(l...))
		for i, w := range l {
			l[i] = w<<8 | w>>8
		}
		if n := sums.Sum(fields.Word(l...)); n != want<<8|want>>8 {
			t.Fatalf("of %x: %04x, and ahead %04x", l, n, want)
		}
	}
}

// P2.5

// sameSum tells whether two numbers are one sum: the same, or 0 and 65535.
func sameSum(a, b uint16) bool { return a%65535 == b%65535 }

func TestUpdatesIsTheSumOfTheTextWithTheOthers(t *testing.T) {
	r := source(28)
	for range 20000 {
		l := words(r, 1+r.Intn(10))
		s := fields.Word(l...)
		at := r.Intn(len(l))
		many := 1 + r.Intn(len(l)-at)
		part := fields.Word(words(r, many)...)
		changed, _ := fields.With(s, 2*at, part)
		n, want := sums.Updates(sums.Sum(s), s[2*at:2*(at+many)], part), sums.Sum(changed)
		if !sameSum(n, want) {
			t.Fatalf("%x to %x: %d, not %d", s, changed, n, want)
		}
	}
}

func TestATextHoldsAsItDidAhead(t *testing.T) {
	r := source(29)
	held := 0
	for range 20000 {
		l := words(r, 2+r.Intn(6))
		l[0] = 0
		sum := sums.Sum(fields.Word(l...))
		if r.Intn(2) == 0 {
			sum = words(r, 1)[0]
		}
		l[0] = sum
		was := fields.Word(l...)
		part := fields.Word(words(r, len(l)-1)...)
		is := fields.Put16(sums.Updates(sum, was[2:], part)) + part
		if strings.Trim(was, "\x00") == "" || strings.Trim(is, "\x00") == "" {
			continue
		}
		if sums.Holds(was) {
			held++
		}
		if sums.Holds(was) != sums.Holds(is) {
			t.Fatalf("%x: %v, %x: %v", was, sums.Holds(was), is, sums.Holds(is))
		}
	}
	if held < 1000 || held > 19000 {
		t.Error("too few of one kind were tried:", held)
	}
}

// P2.6

func TestTextsUnlikeInOneWordHaveUnlikeSums(t *testing.T) {
	for _, rest := range []string{"", "\x00\x00", "\x00\x01", "\xff\xff", "\x12\x34\x56\x78\x9a", "\xff\xfe\x00\x01"} {
		nothing := strings.Trim(rest, "\x00") == ""
		for at := 0; at <= len(rest); at += 2 {
			seen := make([]int, 65536)
			for w := range 65536 {
				n := sums.Sum(rest[:at] + fields.Put16(uint16(w)) + rest[at:])
				if ahead := seen[n]; ahead > 0 && !(ahead == 1 && w == 65535 && !nothing) {
					t.Fatalf("beside %x at %d, words %d and %d have the Sum %d", rest, at, ahead-1, w, n)
				} else if ahead == 0 {
					seen[n] = w + 1
				}
			}
		}
	}
}

func TestWords0And65535HaveOneSumBesideOthers(t *testing.T) {
	if a, b := sums.Sum("\x00\x00\x00\x07"), sums.Sum("\xff\xff\x00\x07"); a != b {
		t.Error(a, b)
	}
	if a, b := sums.Sum("\x00\x00\x00\x00"), sums.Sum("\xff\xff\x00\x00"); a != 65535 || b != 0 {
		t.Error(a, b)
	}
}
