package sum

import (
	"bytes"
	"testing"
)

// divided is the sum told another way: the text's bits, the first sum put to its head and 24 zeros behind it, are divided by 1864cfb as one writes a division down; the rest of it is the sum.
func divided(b []byte) uint32 {
	bits := bitsOf(append(bytes.Clone(b), 0, 0, 0))
	put(bits, bitsOf([]byte{0xb7, 0x04, 0xce}))
	by := bitsOf([]byte{1, 0x86, 0x4c, 0xfb})[7:]
	rest := len(bits) - 24
	for i := range rest {
		if bits[i] == 1 {
			put(bits[i:], by)
		}
	}
	s := uint32(0)
	for _, bit := range bits[rest:] {
		s = 2*s + uint32(bit)
	}
	return s
}

func bitsOf(b []byte) []byte {
	var bits []byte
	for _, one := range b {
		for place := byte(128); place > 0; place /= 2 {
			bits = append(bits, one/place%2)
		}
	}
	return bits
}

// put puts the bits (or bytes) of more to the first ones of b, by exclusive or.
func put(b, more []byte) {
	for i := range more {
		b[i] ^= more[i]
	}
}

// told is a sum's three bytes, told by division.
func told(s uint32) []byte {
	return []byte{byte(s / 65536 % 256), byte(s / 256 % 256), byte(s % 256)}
}

// mixed has so many bytes, other ones for each seed.
func mixed(many, seed int) []byte {
	b := make([]byte, many)
	at := uint32(seed)*2654435761 + 12345
	for i := range b {
		at = at*1664525 + 1013904223
		b[i] = byte(at >> 24)
	}
	return b
}

// texts has bytes of each length up to 40 and of some greater ones: mixed ones, and those that are all 0, all 1, all 255.
func texts() [][]byte {
	l := [][]byte{nil, {}}
	many := []int{127, 128, 129, 1000, 1100, 5000}
	for i := range 41 {
		many = append(many, i)
	}
	for _, n := range many {
		l = append(l, mixed(n, n), mixed(n, n+7000))
		for _, all := range []byte{0, 1, 128, 255} {
			l = append(l, bytes.Repeat([]byte{all}, n))
		}
	}
	return l
}

// behind is new memory that has all parts, one behind the other.
func behind(parts ...[]byte) []byte {
	return bytes.Join(parts, nil)
}

// short names bytes where a test fails: their head alone, if they are many.
func short(b []byte) []byte {
	return b[:min(len(b), 12)]
}

// P3.1 Of: ordinary bytes and those of many lengths, against the division.
func TestSums(t *testing.T) {
	for _, b := range texts() {
		if got, want := Of(b), divided(b); got != want {
			t.Errorf("Of(%v.., %d bytes) is %x, not %x", short(b), len(b), got, want)
		}
	}
}

// P3.1 Of: sums that another program told (of such bytes in an armour of OpenPGP).
func TestKnownSums(t *testing.T) {
	each := make([]byte, 256)
	for i := range each {
		each[i] = byte(i)
	}
	for text, want := range map[string]uint32{
		"a": 0xf25713, "ab": 0xa11a2d, "abc": 0xba1c7b, "123456789": 0x21cf02,
		string(each): 0x5bbd34, string(make([]byte, 1000)): 0x5c13bf,
	} {
		if got := Of([]byte(text)); got != want {
			t.Errorf("Of(%q) is %x, not %x", short([]byte(text)), got, want)
		}
	}
}

// P3.1 Of: no bytes have the sum that all begin with.
func TestSumOfNone(t *testing.T) {
	for _, b := range [][]byte{nil, {}, []byte("abc")[:0]} {
		if got := Of(b); got != 0xb704ce {
			t.Errorf("Of(none) is %x", got)
		}
	}
}

// P3.1 Of: each one byte there is, and each two.
func TestSumsOfOneAndTwo(t *testing.T) {
	for i := range 256 {
		if got, want := Of([]byte{byte(i)}), divided([]byte{byte(i)}); got != want {
			t.Errorf("Of(%x) is %x, not %x", i, got, want)
		}
		for j := range 256 {
			b := []byte{byte(i), byte(j)}
			if got, want := Of(b), divided(b); got != want {
				t.Fatalf("Of(%x) is %x, not %x", b, got, want)
			}
		}
	}
}

// P3.1 Of: the order of bytes counts, and zeros at the head and at the end do.
func TestOrderCounts(t *testing.T) {
	l := [][]byte{{}, {0}, {0, 0}, {0, 0, 0}, {1, 2}, {2, 1}, {0, 1, 2}, {1, 2, 0}, {1, 0, 2}}
	seen := map[uint32][]byte{}
	for _, b := range l {
		s := Of(b)
		if other, is := seen[s]; is {
			t.Errorf("%v and %v have the sum %x", b, other, s)
		}
		seen[s] = b
	}
}

// P3.1 Of: a sum has 24 bits and no more; what stands behind the length is none of it.
func TestSumsHave24Bits(t *testing.T) {
	for _, b := range texts() {
		if s := Of(b); s >= 1<<24 {
			t.Errorf("Of(%v..) is %x", short(b), s)
		}
	}
	whole := []byte("123456789 and more")
	if got := Of(whole[:9]); got != 0x21cf02 {
		t.Errorf("Of with room behind it is %x", got)
	}
}

// P3.1 Bytes: numbers of 24 bits, at each byte's edges.
func TestBytes(t *testing.T) {
	edges := []uint32{0, 1, 2, 127, 128, 254, 255}
	for _, high := range edges {
		for _, middle := range edges {
			for _, low := range edges {
				s := high*65536 + middle*256 + low
				if got := Bytes(s); !bytes.Equal(got, []byte{byte(high), byte(middle), byte(low)}) {
					t.Errorf("Bytes(%x) is %x", s, got)
				}
			}
		}
	}
}

// P3.1 Bytes: what is above the lowest 24 bits is left out.
func TestBytesAbove24Bits(t *testing.T) {
	for _, above := range []uint32{1, 2, 127, 128, 254, 255} {
		for _, low := range []uint32{0, 1, 0x21cf02, 0xb704ce, 0x00ff00, 0xfffffe, 0xffffff} {
			if got := Bytes(above<<24 + low); !bytes.Equal(got, told(low)) {
				t.Errorf("Bytes(%x) is %x, not %x", above<<24+low, got, told(low))
			}
		}
	}
}

// P3.1 Right: bytes and their sum's.
func TestRight(t *testing.T) {
	for _, b := range texts() {
		if whole := behind(b, told(divided(b))); !Right(whole) {
			t.Errorf("Right(%v.., %d bytes) is false", short(whole), len(whole))
		}
	}
}

// P3.1 Right: fewer than three bytes are never right: each one there is, and each two.
func TestFewerThanThree(t *testing.T) {
	if Right(nil) || Right([]byte{}) {
		t.Error("none is right")
	}
	for i := range 256 {
		if Right([]byte{byte(i)}) {
			t.Errorf("%x is right", i)
		}
		for j := range 256 {
			if b := []byte{byte(i), byte(j)}; Right(b) {
				t.Errorf("%x is right", b)
			}
		}
	}
	sum := []byte{0xb7, 0x04, 0xce}
	for n := range 3 {
		if Right(sum[:n]) || Right(sum[3-n:]) {
			t.Errorf("%d bytes of a sum are right", n)
		}
	}
}

// P3.1 Right: of three bytes, those of the sum of none are right, and no others.
func TestJustThree(t *testing.T) {
	sum := []byte{0xb7, 0x04, 0xce}
	if !Right(sum) {
		t.Error("the sum of none is not right")
	}
	for at := range 3 {
		for turn := 1; turn < 256; turn++ {
			b := bytes.Clone(sum)
			b[at] ^= byte(turn)
			if Right(b) {
				t.Errorf("%x is right", b)
			}
		}
	}
	for _, b := range [][]byte{{0, 0, 0}, {255, 255, 255}, {0xce, 0x04, 0xb7}, {0x04, 0xb7, 0xce}, {0x86, 0x4c, 0xfb}} {
		if Right(b) {
			t.Errorf("%x is right", b)
		}
	}
}

// P3.1 Bytes, Right: a sum whose highest byte is 0, or whose two highest ones are, has three bytes all the same.
func TestSumsWithZerosAtTheirHead(t *testing.T) {
	one, two := 0, 0
	for i := range 1 << 18 {
		b := []byte{byte(i >> 16), byte(i >> 8), byte(i)}
		s := Of(b)
		if s >= 1<<16 {
			continue
		}
		one++
		sum := []byte{0, byte(s >> 8), byte(s)}
		if !bytes.Equal(Bytes(s), sum) || !Right(behind(b, sum)) || Right(behind(b, sum[1:])) {
			t.Fatalf("%x and its sum %x", b, s)
		}
		if s < 1<<8 {
			two++
			if Right(behind(b, sum[2:])) {
				t.Fatalf("%x and its sum's last byte are right", b)
			}
		}
	}
	if one == 0 || two == 0 {
		t.Error("there were none", one, two)
	}
}

// P3.1 Right: bytes and their sum's have the sum 0; so they are right with zeros behind them, and with no other bytes.
func TestSumThatIsZero(t *testing.T) {
	for _, b := range texts() {
		whole := behind(b, told(divided(b)))
		for many := range 5 {
			zeros := make([]byte, many)
			if !Right(behind(whole, zeros)) || Right(behind(whole, zeros, []byte{1})) || Right(behind(whole, []byte{1}, zeros)) {
				t.Errorf("behind %v.. and its sum, with %d zeros", short(b), many)
			}
		}
	}
}

// P3.1 Right: the sum of other bytes, the sum's bytes in another order, at the head, or not just at the end, are wrong.
func TestSumsOfOthers(t *testing.T) {
	for _, b := range texts() {
		s := told(divided(b))
		for _, other := range [][]byte{behind(b, []byte{0}), behind(b, []byte{1}), behind([]byte{0}, b), behind([]byte{1}, b), {7, 7, 7, 7}} {
			if Right(behind(b, told(divided(other)))) || Right(behind(other, s)) {
				t.Errorf("%v.. is right with the sum of %v..", short(b), short(other))
			}
		}
		for _, wrong := range [][]byte{{s[2], s[1], s[0]}, {s[1], s[2], s[0]}, {^s[0], ^s[1], ^s[2]}, {0, s[0], s[1]}} {
			if whole := behind(b, wrong); !bytes.Equal(wrong, s) && Right(whole) {
				t.Errorf("%v.. is right with %x for %x", short(b), wrong, s)
			}
		}
		for _, more := range []byte{1, 2, 128, 255} {
			if whole := behind(b, s, []byte{more}); Right(whole) {
				t.Errorf("%v.., its sum and %d are right", short(b), more)
			}
		}
		if len(b) > 0 && (Right(behind(s, b)) || Right(b)) {
			t.Errorf("%v.. is right without its sum at the end", short(b))
		}
	}
}

// P3.1 Right: what stands behind the length does not count, if it is the sum or not.
func TestRightStopsAtTheEnd(t *testing.T) {
	whole := []byte("123456789\x21\xcf\x02")
	for n := range len(whole) {
		if Right(whole[:n]) {
			t.Errorf("the first %d are right", n)
		}
	}
	more := behind(whole, []byte("\x21\xcf\x02"))
	if !Right(more[:12]) || !Right(more[:12:12]) || Right(more) {
		t.Error("behind its end")
	}
}

// P3.2: what is handed in stays as it is, and so does what lies behind its length, for bytes that are right and for those that are not.
func TestOnlyRead(t *testing.T) {
	for _, b := range texts() {
		for _, end := range [][]byte{told(divided(b)), {9, 9, 9}, nil} {
			all := behind(b, end, mixed(20, 3))
			kept := bytes.Clone(all)
			handed := all[:len(b)+len(end)]
			Of(handed)
			Right(handed)
			Of(handed[:len(b)])
			Right(handed[:len(b)])
			if !bytes.Equal(all, kept) {
				t.Errorf("%v.. became %v..", short(kept), short(all))
			}
		}
	}
}

// P3.2: what is answered is new each time: two answers share nothing, not even room behind them.
func TestAnswersAreNew(t *testing.T) {
	l := []uint32{0, 1, 0x21cf02, 0xb704ce, 0xffffff, 0xff000001}
	for i, s := range l {
		other := l[len(l)-1-i]
		one, two, again := Bytes(s), Bytes(other), Bytes(s)
		room := one[:cap(one)]
		for i := range room {
			room[i] ^= 0xff
		}
		if !bytes.Equal(two, told(other)) || !bytes.Equal(again, told(s)) || !bytes.Equal(Bytes(s), told(s)) {
			t.Errorf("Bytes(%x) and Bytes(%x) share memory", s, other)
		}
	}
}

// P3.2, P1: nothing is kept: what comes between two calls turns no answer.
func TestNothingIsKept(t *testing.T) {
	l := texts()
	for i, b := range l {
		whole := behind(b, told(divided(b)))
		before := Of(b)
		Of(l[len(l)-1-i])
		Right(l[i/2])
		if Of(b) != before || !Right(whole) || !Right(whole) {
			t.Errorf("%v.. has another sum now", short(b))
		}
	}
}

// P3.3: bytes and their sum's have the sum 0, and with any others behind them they have not.
func TestSumOfAll(t *testing.T) {
	for _, b := range texts() {
		s := Bytes(Of(b))
		if got := Of(behind(b, s)); got != 0 {
			t.Errorf("%v.. and its sum have the sum %x", short(b), got)
		}
		for at := range 3 {
			s[at] ^= 1
			if Of(behind(b, s)) == 0 {
				t.Errorf("%v.. and %x have the sum 0", short(b), s)
			}
			s[at] ^= 1
		}
	}
}

// P3.3: one byte that is turned, to each other one, at each place.
func TestOneByteTurned(t *testing.T) {
	for _, n := range []int{1, 2, 3, 4, 12, 40} {
		b := mixed(n, 11)
		whole := behind(b, Bytes(Of(b)))
		for at := range whole {
			for turn := 1; turn < 256; turn++ {
				turned := bytes.Clone(whole)
				turned[at] ^= byte(turn)
				if Right(turned) || Of(turned) == 0 || at < n && Of(turned[:n]) == Of(b) {
					t.Errorf("%x is as right as %x", turned, whole)
				}
			}
		}
	}
}

// P3.3: two bytes side by side that are turned, in each way, at the beginning, in the middle, at the end, and into the sum.
func TestTwoBytesTurned(t *testing.T) {
	b := mixed(9, 5)
	whole := behind(b, Bytes(Of(b)))
	for _, at := range []int{0, 1, 4, 7, 8, 9, 10} {
		for turn := 1; turn < 1<<16; turn++ {
			turned := bytes.Clone(whole)
			put(turned[at:], []byte{byte(turn >> 8), byte(turn)})
			if Right(turned) || Of(turned) == 0 {
				t.Fatalf("%x is as right as %x", turned, whole)
			}
		}
	}
}

// P3.3: three bytes side by side that are turned, at each place: each single bit of one way and many more.
func TestThreeBytesTurned(t *testing.T) {
	for _, n := range []int{3, 4, 17, 200} {
		b := mixed(n, 21)
		s := Of(b)
		for at := 0; at+3 <= n; at++ {
			for i := range 300 {
				turn := []byte{1 << (i % 8), byte(i * 37), byte(255 - i*11)}
				turned := bytes.Clone(b)
				put(turned[at:], turn)
				if Of(turned) == s || Right(behind(turned, Bytes(s))) {
					t.Errorf("%x at %d of %d turns no sum", turn, at, n)
				}
			}
		}
	}
}

// P3.3: of all texts of three bytes no two have one sum, so whichever of the three are turned, the sum is another one.
func TestAllOfThreeBytes(t *testing.T) {
	had := make([]uint64, 1<<24/64)
	b := make([]byte, 3)
	for i := range 1 << 24 {
		b[0], b[1], b[2] = byte(i>>16), byte(i>>8), byte(i)
		s := Of(b)
		if s >= 1<<24 || had[s/64]>>(s%64)&1 == 1 {
			t.Fatalf("%x: its sum %x is none, or another one has it, too", b, s)
		}
		had[s/64] |= 1 << (s % 64)
	}
}

// P3.3: three texts of one length, put together, have their sums put together; two and the one of zeros do, too.
func TestThreeTextsTogether(t *testing.T) {
	for _, n := range []int{0, 1, 2, 3, 4, 31, 128, 1000} {
		for seed := range 20 {
			a, b, c := mixed(n, seed), mixed(n, seed+100), mixed(n, seed*seed+200)
			if seed == 0 {
				c = make([]byte, n)
			}
			all := bytes.Clone(a)
			put(all, b)
			put(all, c)
			if got, want := Of(all), Of(a)^Of(b)^Of(c); got != want {
				t.Errorf("three of %d bytes have %x, not %x", n, got, want)
			}
		}
	}
}

// The chapter's table of examples, row by row.
func TestExamples(t *testing.T) {
	text := []byte("123456789")
	if Of(nil) != 0xb704ce || Of(text) != 0x21cf02 {
		t.Errorf("Of: %x, %x", Of(nil), Of(text))
	}
	s := Bytes(0x21cf02)
	if !bytes.Equal(s, []byte{0x21, 0xcf, 0x02}) || !Right(behind(text, s)) || Right(nil) {
		t.Errorf("Bytes: %x; Right: %t, %t", s, Right(behind(text, s)), Right(nil))
	}
}
