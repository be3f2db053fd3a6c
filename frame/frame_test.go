package frame

import (
	"bytes"
	"encoding/hex"
	"math"
	"math/rand"
	"slices"
	"testing"

	"blindstamp/api"
)

// lengthOf is how long the frame of a body of n bytes is, written out.
func lengthOf(n int) int {
	switch {
	case n <= 59:
		return 64
	case n <= 250:
		return 256
	default:
		return 1024
	}
}

// numberOf has a number's bytes, told by division.
func numberOf(n int) []byte {
	if n < 248 {
		return []byte{byte(n)}
	}
	var b []byte
	for rest := n; rest > 0; rest /= 256 {
		b = append([]byte{byte(rest % 256)}, b...)
	}
	return append([]byte{byte(247 + len(b))}, b...)
}

// rest is the sum of bytes: what is left when their bits, with 24 zeros behind them, are divided by 1864cfb, from b704ce on.
func rest(b []byte) uint32 {
	s := uint32(0xb704ce)
	for i := range 8 * len(b) {
		bit := uint32(b[i/8]) >> (7 - i%8) & 1
		high := s >> 23 & 1
		s = s * 2 % (1 << 24)
		if bit != high {
			s ^= 0x864cfb
		}
	}
	return s
}

// summed has b in new memory, and its sum's bytes behind it.
func summed(parts ...[]byte) []byte {
	b := bytes.Join(parts, nil)
	s := rest(b)
	return append(b, byte(s>>16), byte(s>>8), byte(s))
}

// laid has a first byte, a number's bytes, a body, as many bytes 0 as make it so long, and the sum: a frame, if all of that is as it has to be. It is nil where there is no room.
func laid(first byte, number, body []byte, long int) []byte {
	ahead := bytes.Join([][]byte{{first}, number, body}, nil)
	if len(ahead)+3 > long {
		return nil
	}
	return summed(ahead, make([]byte, long-3-len(ahead)))
}

// framed is a body's frame, told another way.
func framed(body []byte) []byte {
	return laid(181, numberOf(len(body)), body, lengthOf(len(body)))
}

// mixed has so many bytes, other ones for each seed.
func mixed(many, seed int) []byte {
	b := make([]byte, many)
	rand.New(rand.NewSource(int64(seed))).Read(b)
	return b
}

// edges are how many bytes bodies have at which something turns, with some between.
func edges() []int {
	return []int{0, 1, 2, 3, 30, 56, 57, 58, 59, 60, 61, 62, 63, 64, 65, 100, 180, 181, 182, 246, 247, 248, 249, 250, 251, 252, 253, 254, 255, 256, 257, 258, 500, 511, 512, 513, 997, 998, 999, 1000}
}

// bodies has, for each of edges, mixed bytes, those that are all one byte, those that end in bytes 0, and those that begin as a frame does.
func bodies() [][]byte {
	var l [][]byte
	for _, n := range edges() {
		l = append(l, mixed(n, n), mixed(n, n+9000))
		for _, all := range []byte{0, 1, 181, 247, 248, 255} {
			l = append(l, bytes.Repeat([]byte{all}, n))
		}
		for _, zeros := range []int{1, 2, 3, 40} {
			if n > zeros {
				l = append(l, append(mixed(n-zeros, n), make([]byte, zeros)...))
			}
		}
		if n > 3 {
			l = append(l, append([]byte{181, byte(n - 3)}, mixed(n-2, n)...))
		}
	}
	return l
}

// short names bytes where a test fails: their head alone, if they are many.
func short(b []byte) []byte {
	return b[:min(len(b), 12)]
}

func wantSeal(t *testing.T, body []byte) {
	t.Helper()
	if b, e := Seal(body); !bytes.Equal(b, framed(body)) || e != api.OK {
		t.Errorf("Seal(%v.., %d bytes) is %v.., %d bytes, %d", short(body), len(body), short(b), len(b), e)
	}
}

func wantOpen(t *testing.T, b, body []byte) {
	t.Helper()
	if got, e := Open(b); !bytes.Equal(got, body) || e != api.OK {
		t.Errorf("Open(%v.., %d bytes) is %v.., %d bytes, %d", short(b), len(b), short(got), len(got), e)
	}
}

func refuse(t *testing.T, b []byte) {
	t.Helper()
	if got, e := Open(b); len(got) != 0 || e != api.ErrFrame {
		t.Errorf("Open(%v.., %d bytes) is %v.., %d bytes, %d", short(b), len(b), short(got), len(got), e)
	}
}

// P8.1 Class: each number of bytes that a body may have.
func TestClass(t *testing.T) {
	for n := range 1001 {
		if got, e := Class(n); got != lengthOf(n) || e != api.OK {
			t.Errorf("Class(%d) is %d, %d", n, got, e)
		}
	}
}

// P8.1 Class: each class's last number of bytes and one more, and where how many bytes there are takes one byte more.
func TestClassEdges(t *testing.T) {
	for _, x := range []struct{ n, long int }{
		{0, 64}, {59, 64}, {60, 256}, {247, 256}, {248, 256}, {250, 256}, {251, 1024}, {255, 1024}, {256, 1024}, {999, 1024}, {1000, 1024},
	} {
		if got, e := Class(x.n); got != x.long || e != api.OK {
			t.Errorf("Class(%d) is %d, %d", x.n, got, e)
		}
	}
}

// P8.1 Class: it is the least that has room for the mark, the number, the body and the sum.
func TestClassIsTheLeast(t *testing.T) {
	for n := range 1001 {
		needed := 1 + len(numberOf(n)) + n + 3
		got, _ := Class(n)
		for _, class := range []int{64, 256, 1024} {
			if class >= needed && got > class || got == class && class < needed {
				t.Errorf("Class(%d) is %d, and %d bytes are needed", n, got, needed)
			}
		}
	}
}

// P8.1 Class, P1: numbers that no body has, up to int's ends, and those that are right but for their highest bits.
func TestClassMany(t *testing.T) {
	wrong := []int{math.MinInt, math.MinInt + 1, math.MinInt + 59, -1 << 56, -1 << 32, -1 << 31, -1001, -1000, -248, -64, -59, -4, -3, -2, -1,
		1001, 1002, 1016, 1017, 1018, 1019, 1020, 1023, 1024, 1025, 1100, 4096, 1 << 16, 1 << 31, 1 << 32, 1<<32 + 5, 1<<56 - 1, 1 << 56, 1<<56 + 5, math.MaxInt - 5, math.MaxInt - 1, math.MaxInt}
	for _, n := range wrong {
		if got, e := Class(n); got != 0 || e != api.ErrMany {
			t.Errorf("Class(%d) is %d, %d", n, got, e)
		}
	}
}

// P8.1 Seal: bodies of each number of bytes, and of many kinds.
func TestSeal(t *testing.T) {
	for n := range 1001 {
		wantSeal(t, mixed(n, n))
	}
	for _, body := range bodies() {
		wantSeal(t, body)
	}
}

// P8.1 Seal: nil and empty have one frame.
func TestSealOfNone(t *testing.T) {
	none := make([]byte, 64)
	none[0], none[61], none[62], none[63] = 181, 0x8a, 0xd3, 0x8a
	for _, body := range [][]byte{nil, {}, []byte("abc")[:0]} {
		if b, e := Seal(body); !bytes.Equal(b, none) || e != api.OK {
			t.Errorf("Seal(none) is %v, %d", b, e)
		}
	}
}

// P8.1 Seal: heads and ends of frames that another program told.
func TestKnownFrames(t *testing.T) {
	sevens := func(n int) []byte { return bytes.Repeat([]byte{7}, n) }
	counted := make([]byte, 1000)
	for i := range counted {
		counted[i] = byte(i % 251)
	}
	for _, x := range []struct {
		body      []byte
		long      int
		head, end string
	}{
		{nil, 64, "b50000000000", "8ad38a"}, {[]byte("a"), 64, "b50161000000", "af15a9"}, {[]byte("ab"), 64, "b50261620000", "15da82"},
		{make([]byte, 59), 64, "b53b00000000", "b2523e"}, {sevens(59), 64, "b53b07070707", "2bcbe8"}, {sevens(60), 256, "b53c07070707", "9f54f6"},
		{sevens(247), 256, "b5f707070707", "3fbd5b"}, {sevens(248), 256, "b5f8f8070707", "49aaaf"}, {sevens(250), 256, "b5f8fa070707", "87fd08"},
		{sevens(251), 1024, "b5f8fb070707", "9bd8d9"}, {sevens(255), 1024, "b5f8ff070707", "a765e4"}, {sevens(256), 1024, "b5f901000707", "584185"},
		{sevens(1000), 1024, "b5f903e80707", "d15554"}, {counted, 1024, "b5f903e80001", "2b335d"},
	} {
		b, e := Seal(x.body)
		if e != api.OK || len(b) != x.long || hex.EncodeToString(b[:6]) != x.head || hex.EncodeToString(b[len(b)-3:]) != x.end {
			t.Errorf("Seal(%v.., %d bytes) is %x, %d", short(x.body), len(x.body), b, e)
		}
	}
}

// P8.1 Seal: bodies that are frames, and frames of these; a frame of the greatest class is too long a body.
func TestFrameOfFrames(t *testing.T) {
	for _, body := range bodies() {
		inner := framed(body)
		if len(inner) > 1000 {
			if b, e := Seal(inner); len(b) != 0 || e != api.ErrMany {
				t.Errorf("Seal of a frame of %d bytes is %v.., %d", len(inner), short(b), e)
			}
			continue
		}
		outer := framed(inner)
		wantSeal(t, inner)
		wantOpen(t, outer, inner)
		got, _ := Open(outer)
		wantOpen(t, got, body)
	}
}

// P8.1 Seal, P1: a body that has one byte too many, and bodies that have many.
func TestSealMany(t *testing.T) {
	for _, n := range []int{1001, 1002, 1016, 1017, 1018, 1020, 1023, 1024, 1025, 1100, 2000, 4096, 1 << 16, 1<<16 + 5, 1 << 20} {
		for _, body := range [][]byte{make([]byte, n), mixed(n, n)} {
			if b, e := Seal(body); len(b) != 0 || e != api.ErrMany {
				t.Errorf("Seal of %d bytes is %v.., %d bytes, %d", n, short(b), len(b), e)
			}
		}
	}
}

// P8.1 Seal: what lies behind a body's length is none of it.
func TestSealStopsAtTheEnd(t *testing.T) {
	all := bytes.Repeat([]byte{9}, 2000)
	for _, n := range edges() {
		wantSeal(t, all[:n])
	}
	if b, e := Seal(all[:1001]); len(b) != 0 || e != api.ErrMany {
		t.Errorf("Seal of 1001 of 2000 bytes is %v.., %d", short(b), e)
	}
}

// P8.1 Open: each frame.
func TestOpen(t *testing.T) {
	for n := range 1001 {
		body := mixed(n, n+3)
		wantOpen(t, framed(body), body)
	}
	for _, body := range bodies() {
		wantOpen(t, framed(body), body)
	}
}

// P8.1 Open: nothing, and too few bytes to be anything, with a right sum and without.
func TestOpenTooFew(t *testing.T) {
	refuse(t, nil)
	refuse(t, []byte{})
	refuse(t, []byte{0xb7, 0x04, 0xce})
	refuse(t, summed([]byte{181}))
	refuse(t, summed([]byte{181, 0}))
	for first := range 256 {
		refuse(t, []byte{byte(first)})
		for second := range 256 {
			refuse(t, []byte{byte(first), byte(second)})
			refuse(t, summed([]byte{byte(first), byte(second)}))
			refuse(t, []byte{181, byte(first), byte(second)})
		}
	}
}

// P8.1 Open, P8.3: a frame with fewer bytes, all there are, whether the others lie behind its length or not.
func TestOpenCutShort(t *testing.T) {
	for _, body := range bodies() {
		b := framed(body)
		refuse(t, b[:len(b)-1])
		refuse(t, bytes.Clone(b[:len(b)-1]))
		refuse(t, b[1:])
		for n := range b {
			refuse(t, b[:n])
		}
	}
}

// P8.1 Open, P8.3: a frame with one byte more, whichever it is, and with many.
func TestOpenWithMore(t *testing.T) {
	for _, n := range edges() {
		b := framed(mixed(n, n))
		for more := range 256 {
			refuse(t, append(bytes.Clone(b), byte(more)))
		}
		// With bytes 0 behind it the sum is right all the same.
		for more := 1; more <= 1100; more++ {
			refuse(t, append(bytes.Clone(b), make([]byte, more)...))
		}
		for _, m := range edges() {
			refuse(t, append(bytes.Clone(b), framed(mixed(m, m))...))
			refuse(t, append(bytes.Clone(b), mixed(m+1, m)...))
		}
		refuse(t, append([]byte{0}, b...))
		refuse(t, append([]byte{181}, b...))
	}
}

// P8.1 Open: a frame stands where its length ends, whatever lies behind.
func TestOpenStopsAtTheEnd(t *testing.T) {
	for _, body := range bodies() {
		b := framed(body)
		all := append(bytes.Clone(b), mixed(100, 1)...)
		wantOpen(t, all[:len(b)], body)
		wantOpen(t, all[:len(b):len(b)], body)
	}
}

// P8.1 Open: each other first byte, with a right sum.
func TestOpenFirstByte(t *testing.T) {
	for _, n := range edges() {
		body := mixed(n, n)
		for first := range 256 {
			b := laid(byte(first), numberOf(n), body, lengthOf(n))
			if first == 181 {
				wantOpen(t, b, body)
				continue
			}
			refuse(t, b)
		}
	}
}

// P8.1 Open: how many bytes there are isn't put as num.Put puts it, in frames of each length.
func TestOpenNumberPutOtherwise(t *testing.T) {
	for _, n := range edges() {
		put := numberOf(n)
		for size := 1; size <= 8; size++ {
			number := []byte{byte(247 + size)}
			for i := size - 1; i >= 0; i-- {
				number = append(number, byte(uint64(n)>>(8*i)))
			}
			if bytes.Equal(number, put) {
				continue
			}
			for _, long := range []int{64, 256, 1024} {
				if b := laid(181, number, mixed(n, n), long); b != nil {
					refuse(t, b)
				}
			}
		}
	}
}

// P8.1 Open: no number at all: too few bytes behind its first one, a byte 0 at its head, one byte that would have been enough, and a first byte of none.
func TestOpenNoNumber(t *testing.T) {
	for first := 248; first < 256; first++ {
		for many := range first - 247 {
			few := append([]byte{181, byte(first)}, bytes.Repeat([]byte{255}, many)...)
			refuse(t, few)
			refuse(t, summed(few))
		}
	}
	for _, long := range []int{64, 256, 1024} {
		for first := 248; first < 256; first++ {
			refuse(t, laid(181, []byte{byte(first)}, nil, long))
			refuse(t, laid(181, []byte{byte(first), 0, 255, 255, 255, 255, 255, 255, 255}, nil, long))
		}
		for second := range 248 {
			refuse(t, laid(181, []byte{248, byte(second)}, nil, long))
		}
		for _, second := range []byte{0, 1, 2, 248, 255} {
			refuse(t, laid(181, []byte{255, second}, nil, long))
			refuse(t, laid(181, []byte{255, 0, 0, 0, 0, 0, 0, 0, second}, nil, long))
		}
	}
}

// P8.1 Open: there are more bytes than MaxBody, though there would be room for them.
func TestOpenMoreThanMaxBody(t *testing.T) {
	for n := 1001; n <= 1017; n++ {
		for _, body := range [][]byte{make([]byte, n), mixed(n, n)} {
			b := laid(181, numberOf(n), body, 1024)
			if b == nil {
				t.Fatalf("%d bytes have no room", n)
			}
			refuse(t, b)
		}
	}
}

// P8.1 Open: longer bytes that would be a frame, if there were a greater class, or if one had more room.
func TestOpenGreaterLengths(t *testing.T) {
	for _, n := range []int{1000, 1001, 1017, 1018, 2000, 4000, 60000} {
		for _, long := range []int{1025, 1100, 2048, 4096, 65536} {
			if b := laid(181, numberOf(n), mixed(n, n), long); b != nil {
				refuse(t, b)
			}
		}
	}
}

// P8.1 Open: there are said to be more bytes than have room, by one or two, into the sum and to its end, and by very many.
func TestOpenMoreThanHasRoom(t *testing.T) {
	for _, long := range []int{64, 256, 1024} {
		for n := long / 4; n < 2*long; n++ {
			number := numberOf(n)
			if room := long - 4 - len(number); n > room {
				refuse(t, laid(181, number, mixed(room, n), long))
				refuse(t, laid(181, number, nil, long))
			}
		}
		for _, n := range []int{1 << 16, 1 << 24, 1<<31 - 1, 1 << 31, 1 << 32, 1<<32 + 2, 1 << 40, 1 << 48, 1<<56 - 1} {
			refuse(t, laid(181, numberOf(n), nil, long))
			refuse(t, laid(181, numberOf(n), []byte("ab"), long))
		}
	}
}

// P8.1 Open: a byte that isn't 0 behind the body, at each place there, with a right sum.
func TestOpenFilledWithOther(t *testing.T) {
	for _, n := range edges() {
		b := framed(mixed(n, n))
		from := 1 + len(numberOf(n)) + n
		for at := from; at < len(b)-3; at++ {
			for _, other := range []byte{1, 2, 128, 181, 255} {
				c := bytes.Clone(b[:len(b)-3])
				c[at] = other
				refuse(t, summed(c))
			}
		}
		if from < len(b)-3 {
			c := bytes.Clone(b[:len(b)-3])
			for at := from; at < len(c); at++ {
				c[at] = 0xff
			}
			refuse(t, summed(c))
		}
	}
}

// P8.1 Open: each length that is no class, with all else right.
func TestOpenNoClass(t *testing.T) {
	for _, n := range edges() {
		body := mixed(n, n)
		for long := 1; long <= 1100; long++ {
			if b := laid(181, numberOf(n), body, long); b != nil && long != lengthOf(n) {
				refuse(t, b)
			}
		}
		for _, long := range []int{2047, 2048, 2049, 4096, 16384} {
			refuse(t, laid(181, numberOf(n), body, long))
		}
	}
}

// P8.1 Open: a greater class than the least that has room, for each number of bytes.
func TestOpenGreaterClass(t *testing.T) {
	for n := range 251 {
		for _, long := range []int{256, 1024} {
			if long > lengthOf(n) {
				refuse(t, laid(181, numberOf(n), mixed(n, n), long))
				refuse(t, laid(181, numberOf(n), make([]byte, n), long))
			}
		}
	}
}

// P8.1 Open: the sum is of all ahead of it, from the mark on: that of the body alone, of all without the mark, without the bytes 0, turned round, or none at all, won't do.
func TestOpenOtherSums(t *testing.T) {
	for _, n := range edges() {
		body := mixed(n, n)
		b := framed(body)
		ahead, end := b[:len(b)-3], b[len(b)-3:]
		from := 1 + len(numberOf(n)) + n
		for _, s := range [][]byte{summed(body)[n:], summed(ahead[1:])[len(ahead)-1:], summed(ahead[:from])[from:], {end[2], end[1], end[0]}, {0, 0, 0}, {^end[0], ^end[1], ^end[2]}} {
			if !bytes.Equal(s, end) {
				refuse(t, slices.Concat(ahead, s))
			}
		}
	}
}

// P8.1 Open: of bytes of many lengths, laid at random and summed, just those are opened that are a body's frame.
func TestOpenAtRandom(t *testing.T) {
	r := rand.New(rand.NewSource(8))
	opened := 0
	for range 20000 {
		long := []int{64, 256, 1024, 64, 256, 63, 65, 255, 512}[r.Intn(9)]
		many := r.Intn(long)
		b := make([]byte, long-3)
		b[0] = []byte{181, 181, 181, 181, 181, 180}[r.Intn(6)]
		from := 1 + copy(b[1:], numberOf(many))
		end := min(from+many, len(b))
		r.Read(b[from:min(end+r.Intn(4)/3*r.Intn(5), len(b))])
		body := bytes.Clone(b[from:end])
		if b = summed(b); !bytes.Equal(b, framed(body)) || many > 1000 {
			refuse(t, b)
			continue
		}
		wantOpen(t, b, body)
		opened++
	}
	if opened < 2000 || opened > 18000 {
		t.Errorf("%d were opened", opened)
	}
}

// P8.2: what is handed in is only read, and so is what lies behind its length, whatever the answer.
func TestOnlyRead(t *testing.T) {
	given := append(bodies(), mixed(1001, 1), mixed(5000, 2))
	for _, body := range bodies() {
		given = append(given, framed(body), framed(body)[:40])
	}
	for _, b := range given {
		all := append(bytes.Clone(b), mixed(1100, 5)...)
		kept := bytes.Clone(all)
		for _, handed := range [][]byte{all[:len(b)], all[:len(b):len(b)]} {
			sealed, _ := Seal(handed)
			opened, _ := Open(handed)
			spoil(sealed)
			spoil(opened)
		}
		if !bytes.Equal(all, kept) {
			t.Fatalf("%v.., %d bytes, were turned", short(b), len(b))
		}
	}
}

// spoil writes over bytes, and over the room behind them.
func spoil(b []byte) {
	for i := range b[:cap(b)] {
		b[:cap(b)][i] ^= 0xa5
	}
}

// P8.2: what is answered is new: what is written into it, into what was handed in, or into another answer leaves no trace.
func TestNewMemory(t *testing.T) {
	for _, body := range bodies() {
		given, want := bytes.Clone(body), framed(body)
		one, _ := Seal(given)
		two, _ := Seal(given)
		spoil(given)
		spoil(one)
		if !bytes.Equal(two, want) {
			t.Fatalf("Seal(%v.., %d bytes) was turned", short(body), len(body))
		}
		three, _ := Open(two)
		four, _ := Open(two)
		spoil(two)
		spoil(three)
		if !bytes.Equal(four, body) {
			t.Fatalf("Open of the frame of %v.., %d bytes, was turned", short(body), len(body))
		}
	}
}

// P8.2, P1: nothing is kept: what comes between two calls turns no answer.
func TestNothingIsKept(t *testing.T) {
	l := bodies()
	for i, body := range l {
		other := l[len(l)-1-i]
		wantSeal(t, body)
		sealed, _ := Seal(other)
		Seal(make([]byte, 1001))
		Open(sealed[:10])
		opened, _ := Open(sealed)
		spoil(sealed)
		spoil(opened)
		Class(-1)
		wantSeal(t, body)
		wantOpen(t, framed(body), body)
	}
}

// P8.3: what is sealed is opened.
func TestSealedIsOpened(t *testing.T) {
	l := bodies()
	for n := range 1001 {
		l = append(l, mixed(n, n+77))
	}
	for _, body := range l {
		b, e := Seal(body)
		if e != api.OK {
			t.Fatalf("Seal(%v.., %d bytes): %d", short(body), len(body), e)
		}
		wantOpen(t, b, body)
	}
}

// P8.3: what is opened is sealed as just these bytes; so no two bodies have one frame, those that differ in bytes 0 at their end alone among them.
func TestOpenedIsSealed(t *testing.T) {
	from := map[string]string{}
	l := bodies()
	for n := range 60 {
		l = append(l, make([]byte, n), append([]byte{1}, make([]byte, n)...))
	}
	for _, body := range l {
		b := framed(body)
		got, _ := Open(b)
		if again, e := Seal(got); !bytes.Equal(again, b) || e != api.OK {
			t.Errorf("Seal of what is in the frame of %v.. is %v.., %d", short(body), short(again), e)
		}
		sealed, _ := Seal(body)
		if other, is := from[string(sealed)]; is && other != string(body) {
			t.Errorf("%v.. and %v.. have one frame", short(body), short([]byte(other)))
		}
		from[string(sealed)] = string(body)
	}
}

// P8.3: a frame's length hangs on how many bytes the body has, not on which, and is what Class tells; there are three lengths.
func TestLengthTellsTheClass(t *testing.T) {
	seen := map[int]int{}
	for n := range 1001 {
		class, _ := Class(n)
		seen[class]++
		for _, body := range [][]byte{make([]byte, n), bytes.Repeat([]byte{255}, n), bytes.Repeat([]byte{181}, n), mixed(n, n), mixed(n, n+1)} {
			if b, e := Seal(body); len(b) != class || e != api.OK {
				t.Errorf("Seal(%v.., %d bytes) has %d bytes, not %d, %d", short(body), n, len(b), class, e)
			}
		}
	}
	if len(seen) != 3 || seen[64] != 60 || seen[256] != 191 || seen[1024] != 750 {
		t.Errorf("there are %v", seen)
	}
}

// P8.3: each byte of a frame turned, bit by bit, and to each other one.
func TestOneByteTurned(t *testing.T) {
	for _, n := range edges() {
		b := framed(mixed(n, n))
		for at := range b {
			for bit := range 8 {
				b[at] ^= 1 << bit
				refuse(t, b)
				b[at] ^= 1 << bit
			}
		}
	}
	for _, n := range []int{0, 2, 59, 60} {
		b := framed(mixed(n, n))
		for at := range b {
			for turn := 1; turn < 256; turn++ {
				b[at] ^= byte(turn)
				refuse(t, b)
				b[at] ^= byte(turn)
			}
		}
	}
}

// P8.3: two and three bytes side by side turned, at each place of a frame.
func TestBytesSideBySideTurned(t *testing.T) {
	r := rand.New(rand.NewSource(83))
	for _, n := range edges() {
		b := framed(mixed(n, n))
		for at := range len(b) - 1 {
			for range 6 {
				c := bytes.Clone(b)
				many := min(2+r.Intn(2), len(b)-at)
				for i := range many {
					c[at+i] ^= byte(1 + r.Intn(255))
				}
				refuse(t, c)
			}
		}
	}
}

// P8.3: two bytes side by side of a short frame, turned in each way, at its head, in its body, behind it, and in its sum.
func TestTwoBytesTurnedInEachWay(t *testing.T) {
	b := framed([]byte("ab"))
	for _, at := range []int{0, 1, 2, 3, 4, 59, 60, 61, 62} {
		for turn := 1; turn < 1<<16; turn++ {
			b[at] ^= byte(turn >> 8)
			b[at+1] ^= byte(turn)
			if got, e := Open(b); e != api.ErrFrame || len(got) != 0 {
				t.Fatalf("at %d turned by %x: %v, %d", at, turn, got, e)
			}
			b[at] ^= byte(turn >> 8)
			b[at+1] ^= byte(turn)
		}
	}
}

// P8.3: bytes side by side that change places.
func TestBytesThatChangePlaces(t *testing.T) {
	for _, n := range edges() {
		b := framed(mixed(n, n))
		for at := range len(b) - 2 {
			for _, other := range []int{at + 1, at + 2} {
				if b[at] == b[other] {
					continue
				}
				c := bytes.Clone(b)
				c[at], c[other] = c[other], c[at]
				refuse(t, c)
			}
		}
	}
}

// P8.3: a beginning of a frame is none, though it has a class's length and its sum is right.
func TestBeginningWithRightSum(t *testing.T) {
	for _, n := range edges() {
		for _, cut := range []int{64, 256} {
			if cut >= lengthOf(n) {
				continue
			}
			head := append([]byte{181}, numberOf(n)...)
			body := mixed(n, n)
			begin := summed(head, body[:cut-3-len(head)])
			body = slices.Concat(begin[len(head):], body[min(n, cut-len(head)):])[:n]
			b := framed(body)
			wantOpen(t, b, body)
			if !bytes.Equal(b[:min(cut, len(head)+n)], begin[:min(cut, len(head)+n)]) {
				t.Fatalf("%d bytes, cut at %d", n, cut)
			}
			refuse(t, b[:cut])
			refuse(t, begin)
		}
	}
}

// W7: bytes of any kind, of lengths up to more than a frame's, end in the error's code and nothing else.
func TestForged(t *testing.T) {
	r := rand.New(rand.NewSource(7))
	for range 20000 {
		b := mixed(r.Intn(1200), r.Int())
		refuse(t, b)
		if len(b) > 1 {
			b[0], b[1] = 181, byte(r.Intn(60))
			refuse(t, b)
		}
	}
}

// The chapter's table of examples, row by row.
func TestExamples(t *testing.T) {
	for n, long := range map[int]int{0: 64, 59: 64, 60: 256, 1000: 1024} {
		if got, e := Class(n); got != long || e != api.OK {
			t.Errorf("Class(%d) is %d, %d", n, got, e)
		}
	}
	b, e := Seal([]byte("ab"))
	if len(b) != 64 || !bytes.Equal(b[:4], []byte{181, 2, 97, 98}) || e != api.OK {
		t.Errorf("Seal(ab) is %v, %d", b, e)
	}
	if body, e := Open(b); string(body) != "ab" || e != api.OK {
		t.Errorf("Open of it is %q, %d", body, e)
	}
	if b, e := Seal(make([]byte, 1001)); len(b) != 0 || e != api.ErrMany {
		t.Errorf("Seal of 1001 bytes is %v.., %d", short(b), e)
	}
	refuse(t, nil)
	refuse(t, b[:63])
}
