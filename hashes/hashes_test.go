package hashes_test

import (
	"math"
	"math/rand"
	"testing"

	"porter/api"
	"porter/hashes"
)

// all is as many buckets as there are numbers: Of is the number itself.
const all = 1 << 32

// long is how many bytes a tuple has.
const long = 13

// text is a tuple's bytes.
type text [long]byte

// tuple is the one that has these bytes.
func (s text) tuple() api.Tuple {
	return api.Tuple{Proto: s[0], Src: endpoint([6]byte(s[1:7])), Dst: endpoint([6]byte(s[7:13]))}
}

// endpoint is the one that has these bytes.
func endpoint(s [6]byte) api.Endpoint {
	ip := uint64(0)
	for _, b := range s[:4] {
		ip = ip*256 + uint64(b)
	}
	return api.Endpoint{IP: api.Addr(ip), Port: uint16(s[4])*256 + uint16(s[5])}
}

// with is bytes of which one is another.
func (s text) with(at int, b byte) text {
	s[at] = b
	return s
}

// behind is a number behind one byte more, by products and quotients.
func behind(n uint64, b byte) uint64 {
	n = (n + uint64(b)) % all * 1025 % all
	return n ^ n/64
}

// closed is a number behind all bytes, likewise.
func closed(n uint64) uint64 {
	n = n * 9 % all
	n ^= n / 2048
	return n * 32769 % all
}

// slow is the number of bytes, however many.
func slow(s []byte) uint64 {
	n := uint64(0)
	for _, b := range s {
		n = behind(n, b)
	}
	return closed(n)
}

// slowOf is Of, by that number.
func slowOf(s text, buckets int) int {
	if buckets < 1 {
		return 0
	}
	return int(slow(s[:]) % uint64(buckets))
}

// texts are bytes with edges, and by chance (the same each time).
func texts() []text {
	l := []text{
		{},
		{17, 10, 0, 0, 1, 0x0f, 0xa0, 8, 8, 8, 8, 0, 53},
		{17, 8, 8, 8, 8, 0, 53, 10, 0, 0, 1, 0x0f, 0xa0},
		{6, 10, 0, 0, 1, 0, 1, 9, 9, 9, 9, 255, 255},
		{1, 255, 255, 255, 255, 0, 7, 1, 2, 3, 4, 0, 0},
		{1, 2, 3, 4, 5, 6, 7, 8, 9, 10, 11, 12, 13},
		{255, 255, 255, 255, 255, 255, 255, 255, 255, 255, 255, 255, 255},
		{128, 0, 0, 0, 0, 0, 0, 0, 0, 0, 0, 0, 0},
		{0, 0, 0, 0, 0, 0, 0, 0, 0, 0, 0, 0, 128},
	}
	by := rand.New(rand.NewSource(12))
	for range 60 {
		var s text
		by.Read(s[:])
		l = append(l, s)
	}
	return l
}

// many are numbers of buckets, 1 at least: all small ones, and those beside the
// edges of what numbers and ints hold.
func many() []int {
	var l []int
	for n := 1; n <= 2*api.MaxBuckets; n++ {
		l = append(l, n)
	}
	for bits := 7; bits < 63; bits++ {
		l = append(l, 1<<bits-1, 1<<bits, 1<<bits+1)
	}
	return append(l, 10007, 1e9+7, 1e18, math.MaxInt-1, math.MaxInt)
}

// few are numbers of buckets below 1.
func few() []int {
	l := []int{0, -1, -2, -3, -7, -64, -65, -1e9, math.MinInt, math.MinInt + 1, math.MinInt + 2}
	for bits := 7; bits < 63; bits++ {
		l = append(l, -1<<bits-1, -1<<bits, -1<<bits+1)
	}
	return l
}

// P12.1

func TestTheZeroTupleOfTheDocument(t *testing.T) {
	for _, buckets := range append(many(), few()...) {
		if n := hashes.Of(api.Tuple{}, buckets); n != 0 {
			t.Errorf("Of a zero tuple, and %d buckets: %d", buckets, n)
		}
		if a, b := hashes.Both(api.Tuple{}, api.Tuple{}, buckets); a != 0 || b != 0 {
			t.Errorf("Both of zero tuples, and %d buckets: %d, %d", buckets, a, b)
		}
	}
}

func TestFewBucketsOfTheDocument(t *testing.T) {
	for _, s := range texts() {
		for _, buckets := range []int{1, 0, -1} {
			if n := hashes.Of(s.tuple(), buckets); n != 0 {
				t.Errorf("Of %v, and %d buckets: %d", s, buckets, n)
			}
		}
	}
}

// Bytes 0 ahead leave the number 0, so that the last bytes are a text's first ones.
func TestTheNumbersOfTheDocument(t *testing.T) {
	for _, x := range []struct {
		port uint16
		want uint64
	}{{1, 1041}, {256, 1050929}} {
		tuple := api.Tuple{Dst: api.Endpoint{Port: x.port}}
		if n := hashes.Of(tuple, all); uint64(n) != closed(x.want) {
			t.Errorf("behind port %d: %d, not %d", x.port, n, closed(x.want))
		}
	}
}

// What others tell of this way to make numbers.
func TestANumberThatIsKnown(t *testing.T) {
	if n := hashes.Of(api.Tuple{Dst: api.Endpoint{Port: 'a'}}, all); n != 0xca2e9442 {
		t.Errorf("Of the byte a: %x", n)
	}
	if n := slow([]byte("The quick brown fox jumps over the lazy dog")); n != 0x519e91f5 {
		t.Errorf("the slow reckoning itself is wrong: %x", n)
	}
}

func TestOfEachByteAtEachPlace(t *testing.T) {
	for _, s := range texts()[:20] {
		for at := range long {
			for b := range 256 {
				x := s.with(at, byte(b))
				for _, buckets := range []int{all, 64, 7} {
					if n := hashes.Of(x.tuple(), buckets); n != slowOf(x, buckets) {
						t.Fatalf("Of %v, and %d buckets: %d, not %d", x, buckets, n, slowOf(x, buckets))
					}
				}
			}
		}
	}
}

// Each field alone, so that none is taken for another one, nor left out.
func TestOfEachField(t *testing.T) {
	for _, x := range []struct {
		tuple api.Tuple
		bytes text
	}{
		{api.Tuple{Proto: 0xab}, text{0: 0xab}},
		{api.Tuple{Src: api.Endpoint{IP: 0xa1b2c3d4}}, text{1: 0xa1, 2: 0xb2, 3: 0xc3, 4: 0xd4}},
		{api.Tuple{Src: api.Endpoint{Port: 0xe5f6}}, text{5: 0xe5, 6: 0xf6}},
		{api.Tuple{Dst: api.Endpoint{IP: 0xa1b2c3d4}}, text{7: 0xa1, 8: 0xb2, 9: 0xc3, 10: 0xd4}},
		{api.Tuple{Dst: api.Endpoint{Port: 0xe5f6}}, text{11: 0xe5, 12: 0xf6}},
	} {
		if n := hashes.Of(x.tuple, all); n != slowOf(x.bytes, all) {
			t.Errorf("Of %v: %d, not %d", x.tuple, n, slowOf(x.bytes, all))
		}
	}
}

func TestOfEachNumberOfBuckets(t *testing.T) {
	for _, s := range texts() {
		for _, buckets := range many() {
			if n := hashes.Of(s.tuple(), buckets); n != slowOf(s, buckets) {
				t.Errorf("Of %v, and %d buckets: %d, not %d", s, buckets, n, slowOf(s, buckets))
			}
		}
	}
}

func TestOfBucketsBelowOne(t *testing.T) {
	for _, s := range texts() {
		for _, buckets := range few() {
			if n := hashes.Of(s.tuple(), buckets); n != 0 {
				t.Errorf("Of %v, and %d buckets: %d", s, buckets, n)
			}
		}
	}
}

func TestBothIsOfEach(t *testing.T) {
	l := texts()[:20]
	for _, x := range l {
		for _, y := range l {
			for _, buckets := range []int{math.MinInt, -1, 0, 1, 2, 3, 7, 63, 64, 65, all - 1, all, all + 1, math.MaxInt} {
				a, b := hashes.Both(x.tuple(), y.tuple(), buckets)
				if a != slowOf(x, buckets) || b != slowOf(y, buckets) {
					t.Fatalf("Both of %v, %v, and %d buckets: %d, %d", x, y, buckets, a, b)
				}
			}
		}
	}
}

// R2: what was asked ahead makes no difference.
func TestOfIsTheSameEachTime(t *testing.T) {
	l := texts()
	for range 3 {
		for i, s := range l {
			hashes.Both(l[len(l)-1-i].tuple(), s.tuple(), i-5)
			if n := hashes.Of(s.tuple(), 64); n != slowOf(s, 64) {
				t.Fatalf("Of %v: %d, not %d", s, n, slowOf(s, 64))
			}
		}
	}
}

// P12.2

func TestOfIsFromZeroOnAndBelowBuckets(t *testing.T) {
	for _, s := range texts() {
		for _, buckets := range many() {
			if n := hashes.Of(s.tuple(), buckets); n < 0 || n >= buckets {
				t.Errorf("Of %v, and %d buckets: %d", s, buckets, n)
			}
		}
	}
}

func TestOfAllBucketsAndMoreIsTheNumber(t *testing.T) {
	high := 0
	for _, s := range texts() {
		want := int(slow(s[:]))
		for _, buckets := range []int{all, all + 1, 2 * all, 1<<40 + 1, math.MaxInt - 1, math.MaxInt} {
			if n := hashes.Of(s.tuple(), buckets); n != want {
				t.Errorf("Of %v, and %d buckets: %d, not %d", s, buckets, n, want)
			}
		}
		if want >= 1<<31 {
			high++
		}
	}
	if high == 0 {
		t.Error("no number has its highest bit")
	}
}

// As many buckets as the number, and one more: the ends of what is left.
func TestOfAsManyBucketsAsTheNumber(t *testing.T) {
	for _, s := range texts()[1:] {
		n := hashes.Of(s.tuple(), all)
		same, more, less := hashes.Of(s.tuple(), n), hashes.Of(s.tuple(), n+1), hashes.Of(s.tuple(), n-1)
		if same != 0 || more != n || less != 1 {
			t.Errorf("Of %v, and %d buckets beside: %d, %d, %d", s, n, less, same, more)
		}
	}
}

func TestUnlikeInOneByteHaveUnlikeNumbers(t *testing.T) {
	for _, s := range texts() {
		for at := range long {
			had := map[int]int{}
			for b := range 256 {
				n := hashes.Of(s.with(at, byte(b)).tuple(), all)
				if other, ok := had[n]; ok {
					t.Fatalf("%v with %d and %d at %d: both %d", s, other, b, at, n)
				}
				had[n] = b
			}
		}
	}
}

// The number of one byte, at each place, is another one.
func TestTheSameByteAtEachPlaceHasUnlikeNumbers(t *testing.T) {
	for b := 1; b < 256; b++ {
		had := map[int]int{}
		for at := range long {
			n := hashes.Of(text{}.with(at, byte(b)).tuple(), all)
			if other, ok := had[n]; ok {
				t.Fatalf("%d at %d and at %d: both %d", b, other, at, n)
			}
			had[n] = at
		}
	}
}

// P12.3

func TestOfBucketsThatDivideOthers(t *testing.T) {
	l := texts()
	for more := 1; more <= 4*api.MaxBuckets; more++ {
		for less := 1; less <= more; less++ {
			if more%less == 0 {
				dividesHolds(t, l, less, more)
			}
		}
	}
}

func TestOfBucketsThatDivideGreatOnes(t *testing.T) {
	l := texts()
	for _, more := range many() {
		for _, less := range []int{1, 2, 3, 7, 49, 64, 73, 127, 337, 1 << 20, 1 << 31, 92737, 649657, all - 1, all, all + 1, 1 << 40, 1 << 62} {
			if more%less == 0 {
				dividesHolds(t, l, less, more)
			}
		}
	}
}

// dividesHolds asks that less buckets tell what is left of what more ones tell.
func dividesHolds(t *testing.T, l []text, less, more int) {
	t.Helper()
	for _, s := range l {
		if a, b := hashes.Of(s.tuple(), less), hashes.Of(s.tuple(), more); a != b%less {
			t.Fatalf("Of %v: %d of %d buckets, %d of %d", s, a, less, b, more)
		}
	}
}

// R1: any tuples, any buckets.
func TestOfAnythingByChance(t *testing.T) {
	by := rand.New(rand.NewSource(1212))
	for range 200000 {
		var x, y text
		by.Read(x[:])
		by.Read(y[:])
		buckets := int(by.Uint64()) >> by.Intn(64)
		a, b := hashes.Both(x.tuple(), y.tuple(), buckets)
		if a != slowOf(x, buckets) || b != slowOf(y, buckets) {
			t.Fatalf("Both of %v, %v, and %d buckets: %d, %d", x, y, buckets, a, b)
		}
	}
}
