package runes

import (
	"bytes"
	"math"
	"slices"
	"strings"
	"testing"

	"blindstamp/api"
)

// isRune is the document's word for a rune.
func isRune(n int) bool {
	return 0 <= n && n <= 0x10ffff && !(0xd800 <= n && n <= 0xdfff)
}

// utf is a rune's bytes as UTF-8 has them, told by division; it asks nothing of n but that it is below 2^21.
func utf(n int) string {
	switch {
	case n < 0x80:
		return string([]byte{byte(n)})
	case n < 0x800:
		return string([]byte{byte(192 + n/64), byte(128 + n%64)})
	case n < 0x10000:
		return string([]byte{byte(224 + n/4096), byte(128 + n/64%64), byte(128 + n%64)})
	default:
		return string([]byte{byte(240 + n/262144), byte(128 + n/4096%64), byte(128 + n/64%64), byte(128 + n%64)})
	}
}

// longer is a number in so many bytes of that pattern, whether it needs them or not.
func longer(n, many int) string {
	b := make([]byte, many)
	for i := many - 1; i > 0; i-- {
		b[i] = byte(128 + n%64)
		n /= 64
	}
	b[0] = byte([]int{0, 0, 192, 224, 240, 248, 252}[many] + n)
	return string(b)
}

// read is the document's word for a text's runes, told another way: what the bits of up to four bytes tell is a rune there, if just these are its bytes.
func read(s string) (l []int32, ok bool) {
reading:
	for s != "" {
		for many := 1; many <= min(4, len(s)); many++ {
			n := 0
			for i := range many {
				n = n*64 + int(s[i])%64
			}
			n %= []int{0, 128, 2048, 65536, 2097152}[many]
			if many == 1 {
				n = int(s[0])
			}
			if isRune(n) && utf(n) == s[:many] {
				l = append(l, int32(n))
				s = s[many:]
				continue reading
			}
		}
		return nil, false
	}
	return l, true
}

// edges has the runes that the issue names, those next to them, and some between.
func edges() []int32 {
	return []int32{0, 1, 'a', 'z', 0x7e, 0x7f, 0x80, 0x81, 0xe9, 0x7fe, 0x7ff, 0x800, 0x801, 0x20ac, 0xd7fe, 0xd7ff, 0xe000, 0xe001,
		0xfeff, 0xfffc, 0xfffd, 0xfffe, 0xffff, 0x10000, 0x10001, 0x1f600, 0xfffff, 0x100000, 0x10fffe, 0x10ffff}
}

// wrongOnes has numbers that are neither a rune nor a blank.
func wrongOnes() []int32 {
	return []int32{-2, -3, -128, -256, -0xd800, -0x10000, -0x10ffff, math.MinInt32, math.MinInt32 + 1, 0xd800, 0xd801, 0xdbff, 0xdc00, 0xdffe, 0xdfff,
		0x110000, 0x110001, 0x1fffff, 0x200000, 0x1000000, 0x10000000, math.MaxInt32 - 1, math.MaxInt32}
}

// wrongTexts has texts that are no runes' bytes.
func wrongTexts() []string {
	l := []string{"\x80", "\xbf", "\xc0", "\xc1", "\xf5", "\xf8", "\xfe", "\xff", "\xff\xff\xff\xff", "\xfe\xff", "\x80\x80", "\xf8\x88\x80\x80\x80", "\xfc\x84\x80\x80\x80\x80"}
	for _, n := range edges() {
		whole := utf(int(n))
		for short := 1; short < len(whole); short++ {
			l = append(l, whole[:short], whole[short:], whole[:short]+"a", whole[:short]+whole)
		}
		for many := len(whole) + 1; many <= 6; many++ {
			l = append(l, longer(int(n), many))
		}
	}
	for _, n := range wrongOnes() {
		if 0 < n && n < 1<<21 {
			l = append(l, utf(int(n)))
		}
	}
	// A pair of halves, each as a rune of its own: no UTF-8.
	return append(l, utf(0xd83d)+utf(0xde00))
}

// mixed has so many runes and blanks, other ones for each seed.
func mixed(many, seed int) []int32 {
	all := append(edges(), api.Blank)
	l := make([]int32, many)
	at := uint32(seed)*2654435761 + 12345
	for i := range l {
		at = at*1664525 + 1013904223
		l[i] = all[int(at>>16)%len(all)]
	}
	return l
}

// plain is a row of so many runes, none of them blank.
func plain(many, seed int) []int32 {
	l := mixed(many, seed)
	for i, n := range l {
		if n == api.Blank {
			l[i] = int32(seed%100) + 'a'
		}
	}
	return l
}

// rows has rows that may be: of each length, and of each edge alone.
func rows() [][]int32 {
	l := [][]int32{nil, {}, {api.Blank}}
	for many := 1; many <= 64; many++ {
		l = append(l, mixed(many, many), mixed(many, many+500), slices.Repeat([]int32{api.Blank}, many), make([]int32, many))
	}
	for _, n := range edges() {
		l = append(l, []int32{n}, []int32{n, api.Blank}, []int32{api.Blank, n, n}, slices.Repeat([]int32{n}, 64))
	}
	return l
}

// tooMany has lengths that no row has.
func tooMany() []int {
	return []int{65, 66, 67, 68, 127, 128, 129, 256, 257, 1000, 65536 + 3}
}

// four are the row's bytes, told by division.
func four(l []int32) []byte {
	var b []byte
	for _, n := range l {
		u := int64(n)
		if u < 0 {
			u += 1 << 32
		}
		b = append(b, byte(u/16777216), byte(u/65536%256), byte(u/256%256), byte(u%256))
	}
	return b
}

// textOf is the row's text.
func textOf(l []int32, mark string) string {
	s := ""
	for _, n := range l {
		if n == -1 {
			s += mark
		} else {
			s += utf(int(n))
		}
	}
	return s
}

// hiddenOf is the row with blanks.
func hiddenOf(l []int32, which []bool) []int32 {
	var out []int32
	for i, n := range l {
		if which[i] {
			n = -1
		}
		out = append(out, n)
	}
	return out
}

// places has so many places, other ones for each seed: none of them, all of them, and mixed ones.
func places(many, seed int) []bool {
	which := make([]bool, many)
	for i := range which {
		switch {
		case seed == 0:
		case seed == 1:
			which[i] = true
		default:
			which[i] = (i*7+seed*5)%11%3 == seed%3
		}
	}
	return which
}

func short[T any](l []T) []T {
	return l[:min(len(l), 12)]
}

func head(s string) string {
	return s[:min(len(s), 40)]
}

func wantOf(t *testing.T, s string, want []int32) {
	t.Helper()
	if got, e := Of(s); e != api.OK || !slices.Equal(got, want) {
		t.Errorf("Of(%q, %d bytes) is %v, %d, not %v", head(s), len(s), short(got), e, short(want))
	}
}

func refuseOf(t *testing.T, s string, want api.Errno) {
	t.Helper()
	if got, e := Of(s); e != want || len(got) != 0 {
		t.Errorf("Of(%q, %d bytes) is %v, %d, not the error %d", head(s), len(s), short(got), e, want)
	}
}

// refuseRow asks all that Check's error stands first in.
func refuseRow(t *testing.T, l []int32, want api.Errno) {
	t.Helper()
	if e := Check(l); e != want {
		t.Errorf("Check(%v.., %d of them) is %d, not %d", short(l), len(l), e, want)
	}
	if b, e := Put(l); e != want || len(b) != 0 {
		t.Errorf("Put(%v.., %d of them) is %v, %d, not the error %d", short(l), len(l), short(b), e, want)
	}
	for _, which := range [][]bool{nil, {true}, make([]bool, len(l)), places(len(l), 1), make([]bool, len(l)+1)} {
		if h, e := Hide(l, which); e != want || len(h) != 0 {
			t.Errorf("Hide(%v.., %d of them) is %v, %d, not the error %d", short(l), len(l), short(h), e, want)
		}
	}
	for _, mark := range []string{"", "?", "\xff"} {
		if s, e := Text(l, mark); e != want || s != "" {
			t.Errorf("Text(%v.., %d of them) is %q, %d, not the error %d", short(l), len(l), head(s), e, want)
		}
	}
}

func refuseGet(t *testing.T, b []byte, want api.Errno) {
	t.Helper()
	if l, e := Get(b); e != want || len(l) != 0 {
		t.Errorf("Get(%v.., %d bytes) is %v, %d, not the error %d", short(b), len(b), short(l), e, want)
	}
}

// P4.1 Of: each rune there is, alone and with others beside it.
func TestEachRune(t *testing.T) {
	for n := range 0x110000 {
		if !isRune(n) {
			continue
		}
		s := utf(n)
		if l, e := Of(s); e != api.OK || len(l) != 1 || l[0] != int32(n) {
			t.Fatalf("Of(%q) is %v, %d, not %x", s, l, e, n)
		}
	}
	for _, n := range edges() {
		s := utf(int(n))
		wantOf(t, s, []int32{n})
		wantOf(t, "a"+s, []int32{'a', n})
		wantOf(t, s+"b", []int32{n, 'b'})
		wantOf(t, s+s+"\u00e9"+s, []int32{n, n, 233, n})
	}
}

// P4.1 Of: no text has no runes.
func TestNoText(t *testing.T) {
	wantOf(t, "", nil)
	wantOf(t, "abc"[:0], nil)
}

// P4.1 Of: texts of each length that may be.
func TestTexts(t *testing.T) {
	for many := range 65 {
		for seed := range 10 {
			l := plain(many, seed)
			wantOf(t, textOf(l, ""), l)
		}
	}
}

// P4.1 Of: just MaxRunes, and one more; runes count, not bytes.
func TestOfMany(t *testing.T) {
	for _, n := range edges() {
		s := utf(int(n))
		wantOf(t, strings.Repeat(s, 63), slices.Repeat([]int32{n}, 63))
		wantOf(t, strings.Repeat(s, 64), slices.Repeat([]int32{n}, 64))
		for _, many := range tooMany() {
			refuseOf(t, strings.Repeat(s, many), api.ErrMany)
		}
		wantOf(t, strings.Repeat("a", 63)+s, append(slices.Repeat([]int32{'a'}, 63), n))
		refuseOf(t, strings.Repeat("a", 64)+s, api.ErrMany)
	}
}

// P4.1 Of: bytes that are no rune's, alone and at each end of others.
func TestWrongTexts(t *testing.T) {
	for _, s := range wrongTexts() {
		if _, ok := read(s); ok {
			t.Fatalf("%q is no wrong text", s)
		}
		refuseOf(t, s, api.ErrText)
		for _, n := range edges() {
			refuseOf(t, utf(int(n))+s, api.ErrText)
			refuseOf(t, utf(int(n))+s+"a", api.ErrText)
		}
		refuseOf(t, s+"a", api.ErrText)
		refuseOf(t, s+"\u00e9", api.ErrText)
	}
}

// P4.1 Of: that bytes are no rune's is told first, also if they stand behind more runes than may be.
func TestWrongTextAheadOfMany(t *testing.T) {
	for _, s := range wrongTexts() {
		for _, many := range []int{1, 62, 63, 64, 65, 66, 128, 1000} {
			a := strings.Repeat("a", many)
			refuseOf(t, a+s, api.ErrText)
			refuseOf(t, s+a, api.ErrText)
			refuseOf(t, a+s+a, api.ErrText)
			refuseOf(t, strings.Repeat("\ufffd", many)+s, api.ErrText)
		}
	}
	for _, many := range tooMany() {
		refuseOf(t, strings.Repeat("\xff", many), api.ErrText)
	}
}

// P4.1 Of: the rune fffd is a rune like others, and tells nothing of bytes beside it that are none.
func TestTheRuneOfNone(t *testing.T) {
	const that = "\xef\xbf\xbd"
	wantOf(t, that, []int32{0xfffd})
	wantOf(t, that+that, []int32{0xfffd, 0xfffd})
	wantOf(t, "a"+that+"\u00e9", []int32{'a', 0xfffd, 233})
	wantOf(t, strings.Repeat(that, 64), slices.Repeat([]int32{0xfffd}, 64))
	refuseOf(t, strings.Repeat(that, 65), api.ErrMany)
	for _, s := range append(wrongTexts(), that[:1], that[:2], that[1:], that[2:]) {
		refuseOf(t, that+s, api.ErrText)
		refuseOf(t, that+s+that, api.ErrText)
		refuseOf(t, "a"+that+s+"a", api.ErrText)
		if _, ok := read(s + that); ok {
			t.Fatalf("%q is no wrong text", s)
		}
		refuseOf(t, s+that, api.ErrText)
	}
}

// holdOf holds Of against the other reading.
func holdOf(t *testing.T, b []byte) {
	s := string(b)
	l, ok := read(s)
	want := api.OK
	if !ok {
		want = api.ErrText
	}
	if got, e := Of(s); e != want || !slices.Equal(got, l) {
		t.Fatalf("Of(%x) is %x, %d, not %x, %d", b, got, e, l, want)
	}
}

// P4.1 Of: each text of one byte and of two; of three and of four bytes all whose first two are any, and whose last ones stand at an edge of what may follow.
func TestTextsOfAllBytes(t *testing.T) {
	last := []byte{0, 0x41, 0x7f, 0x80, 0x81, 0xbd, 0xbf, 0xc0, 0xff}
	for i := range 256 {
		holdOf(t, []byte{byte(i)})
		for j := range 256 {
			b := []byte{byte(i), byte(j)}
			holdOf(t, b)
			for _, third := range last {
				holdOf(t, append(b, third))
				for _, fourth := range last {
					holdOf(t, append(b, third, fourth))
				}
			}
		}
	}
}

// P4.1 Check: rows that may be.
func TestCheck(t *testing.T) {
	for _, l := range rows() {
		if e := Check(l); e != api.OK {
			t.Errorf("Check(%v.., %d of them) is %d", short(l), len(l), e)
		}
	}
}

// P4.1 Check: each number around all runes, and those at the ends of numbers.
func TestCheckEachNumber(t *testing.T) {
	hold := func(n int) {
		want := api.ErrBad
		if n == -1 || isRune(n) {
			want = api.OK
		}
		if e := Check([]int32{int32(n)}); e != want {
			t.Fatalf("Check(%d) is %d", n, e)
		}
	}
	for n := -70000; n < 0x120000; n++ {
		hold(n)
	}
	for i := range 1000 {
		hold(math.MaxInt32 - i)
		hold(math.MinInt32 + i)
	}
}

// P4.1 to P4.3, P1: one wrong number, at each place, and all of them wrong: ErrBad, and nothing beside it.
func TestWrongNumbers(t *testing.T) {
	for _, n := range wrongOnes() {
		for _, many := range []int{1, 2, 3, 63, 64} {
			for _, at := range []int{0, 1, many / 2, many - 1} {
				l := mixed(many, at)
				l[at%many] = n
				refuseRow(t, l, api.ErrBad)
			}
			refuseRow(t, slices.Repeat([]int32{n}, many), api.ErrBad)
		}
	}
}

// P4.1 to P4.3, P1: too many numbers: ErrMany, also if there are wrong ones among them.
func TestTooMany(t *testing.T) {
	for _, many := range tooMany() {
		refuseRow(t, mixed(many, 3), api.ErrMany)
		refuseRow(t, slices.Repeat([]int32{api.Blank}, many), api.ErrMany)
		for _, n := range wrongOnes() {
			l := mixed(many, 4)
			l[0] = n
			refuseRow(t, l, api.ErrMany)
			l[0], l[many-1] = 'a', n
			refuseRow(t, l, api.ErrMany)
		}
	}
}

// P4.2 Put, Get: a row's bytes, and back.
func TestPutAndGet(t *testing.T) {
	for _, l := range rows() {
		want := four(l)
		if b, e := Put(l); e != api.OK || !bytes.Equal(b, want) {
			t.Errorf("Put(%v.., %d of them) is %v.., %d", short(l), len(l), short(b), e)
		}
		if got, e := Get(want); e != api.OK || !slices.Equal(got, l) {
			t.Errorf("Get(%v.., %d bytes) is %v.., %d", short(want), len(want), short(got), e)
		}
	}
}

// P4.2 Put: the highest byte first; a blank is ff four times.
func TestPutWrittenDown(t *testing.T) {
	for n, want := range map[int32]string{
		0: "\x00\x00\x00\x00", 0x7f: "\x00\x00\x00\x7f", 0x80: "\x00\x00\x00\x80", 0x7ff: "\x00\x00\x07\xff", 0x800: "\x00\x00\x08\x00",
		0xd7ff: "\x00\x00\xd7\xff", 0xe000: "\x00\x00\xe0\x00", 0xfffd: "\x00\x00\xff\xfd", 0xffff: "\x00\x00\xff\xff",
		0x10000: "\x00\x01\x00\x00", 0x10ffff: "\x00\x10\xff\xff", 0x10203: "\x00\x01\x02\x03", -1: "\xff\xff\xff\xff",
	} {
		if b, e := Put([]int32{n}); e != api.OK || string(b) != want {
			t.Errorf("Put(%x) is %x, %d", n, b, e)
		}
		if l, e := Get([]byte(want)); e != api.OK || !slices.Equal(l, []int32{n}) {
			t.Errorf("Get(%x) is %x, %d", want, l, e)
		}
	}
}

// P4.2 Get: each length: those of rows, those between, and those above all rows, which are told first.
func TestGetLengths(t *testing.T) {
	for n := range 600 {
		b := make([]byte, n)
		switch {
		case n > 256:
			refuseGet(t, b, api.ErrMany)
			refuseGet(t, bytes.Repeat([]byte{0x80}, n), api.ErrMany)
		case n%4 != 0:
			refuseGet(t, b, api.ErrBad)
			refuseGet(t, bytes.Repeat([]byte{0xff}, n), api.ErrBad)
		default:
			if l, e := Get(b); e != api.OK || !slices.Equal(l, make([]int32, n/4)) {
				t.Errorf("Get of %d zeros is %d, %d", n, len(l), e)
			}
		}
	}
	for _, n := range []int{1000, 1100, 65536, 65536 + 4, 1 << 20} {
		refuseGet(t, make([]byte, n), api.ErrMany)
	}
}

// P4.2 Get: bytes of numbers that may not be, at each place of a row.
func TestGetWrongNumbers(t *testing.T) {
	for _, n := range wrongOnes() {
		for _, many := range []int{1, 2, 3, 63, 64} {
			for at := range many {
				l := mixed(many, at)
				l[at] = n
				refuseGet(t, four(l), api.ErrBad)
			}
		}
		refuseGet(t, four(slices.Repeat([]int32{n}, 65)), api.ErrMany)
	}
}

// P4.2 Get: each byte of a number counts, and no number but a blank begins with a bit.
func TestGetEachByte(t *testing.T) {
	for i := range 256 {
		for at := range 4 {
			for _, other := range []byte{0, 0xff} {
				b := bytes.Repeat([]byte{other}, 4)
				b[at] = byte(i)
				n := int64(b[0])*16777216 + int64(b[1])*65536 + int64(b[2])*256 + int64(b[3])
				switch {
				case n == 1<<32-1:
					if l, e := Get(b); e != api.OK || !slices.Equal(l, []int32{-1}) {
						t.Errorf("Get(%x) is %x, %d", b, l, e)
					}
				case isRune(int(n)):
					if l, e := Get(b); e != api.OK || !slices.Equal(l, []int32{int32(n)}) {
						t.Errorf("Get(%x) is %x, %d", b, l, e)
					}
				default:
					refuseGet(t, b, api.ErrBad)
				}
			}
		}
	}
}

// P4.2 Get: what stands behind b's end is none of b.
func TestGetStopsAtTheEnd(t *testing.T) {
	whole := four([]int32{'a', api.Blank, 0x10ffff})
	for n := range len(whole) {
		if n%4 != 0 {
			refuseGet(t, whole[:n], api.ErrBad)
			continue
		}
		if l, e := Get(whole[:n]); e != api.OK || len(l) != n/4 {
			t.Errorf("Get of the first %d is %v, %d", n, l, e)
		}
	}
}

// P4.3 Hide: rows of each length, with no place, all places, and some of them.
func TestHide(t *testing.T) {
	for _, l := range rows() {
		for seed := range 12 {
			which := places(len(l), seed)
			want := hiddenOf(l, which)
			if h, e := Hide(l, which); e != api.OK || !slices.Equal(h, want) {
				t.Errorf("Hide(%v.., %v..) is %v.., %d, not %v..", short(l), short(which), short(h), e, short(want))
			}
		}
	}
}

// P4.3 Hide: each set of places of a short row, blanks in it, too.
func TestHideAllPlaces(t *testing.T) {
	l := []int32{'a', api.Blank, 0, 0x10ffff, 0xfffd, 'b'}
	for set := range 64 {
		which := make([]bool, 6)
		for i := range which {
			which[i] = set>>i&1 == 1
		}
		if h, e := Hide(l, which); e != api.OK || !slices.Equal(h, hiddenOf(l, which)) {
			t.Errorf("Hide(%v) is %v, %d", which, h, e)
		}
	}
}

// P4.3 Hide: places that are fewer or more than the row's numbers: ErrArg, and no row.
func TestHideOtherPlaces(t *testing.T) {
	for _, many := range []int{0, 1, 2, 3, 8, 63, 64} {
		l := mixed(many, many)
		for other := range 130 {
			if other == many {
				continue
			}
			for seed := range 3 {
				if h, e := Hide(l, places(other, seed)); e != api.ErrArg || len(h) != 0 {
					t.Errorf("Hide of %d with %d places is %v.., %d", many, other, short(h), e)
				}
			}
		}
	}
	if h, e := Hide(nil, nil); e != api.OK || len(h) != 0 {
		t.Errorf("Hide of none is %v, %d", h, e)
	}
	// Room behind the places is none of them.
	if h, e := Hide([]int32{'a', 'b'}, []bool{true, true}[:1]); e != api.ErrArg || len(h) != 0 {
		t.Errorf("Hide with room behind is %v, %d", h, e)
	}
}

// P4.3 Text: rows of each length, with marks of each kind: they are put as they are, be they runes or none.
func TestText(t *testing.T) {
	marks := []string{"", "?", "_", "\u00e9", "\ufffd", "\x00", "ab cd", "\xff", "\xc3", "\xed\xa0\x80", strings.Repeat("\U0001f600", 100)}
	for _, l := range rows() {
		for _, mark := range marks {
			want := textOf(l, mark)
			if s, e := Text(l, mark); e != api.OK || s != want {
				t.Errorf("Text(%v.., %q) is %q, %d, not %q", short(l), head(mark), head(s), e, head(want))
			}
		}
	}
}

// P4.3 Text: each rune there is.
func TestTextOfEachRune(t *testing.T) {
	for n := range 0x110000 {
		if !isRune(n) {
			continue
		}
		if s, e := Text([]int32{int32(n)}, "?"); e != api.OK || s != utf(n) {
			t.Fatalf("Text(%x) is %q, %d", n, s, e)
		}
	}
}

// withRoom is l's values with others behind its length.
func withRoom[T any](l []T, more T) (all, handed []T) {
	all = append(slices.Clone(l), slices.Repeat([]T{more}, 300)...)
	return all, all[:len(l)]
}

// P4.4: what is handed in stays as it is, and so does what lies behind its length, whatever the answer.
func TestOnlyRead(t *testing.T) {
	more := rows()
	for _, n := range wrongOnes() {
		more = append(more, []int32{'a', n}, slices.Repeat([]int32{n}, 64))
	}
	more = append(more, mixed(65, 1), mixed(200, 2))
	for _, l := range more {
		all, handed := withRoom(l, 'q')
		for seed := range 4 {
			which, places := withRoom(places(len(l), seed), true)
			kept := slices.Clone(which)
			Hide(handed, places)
			Hide(handed, which)
			if !slices.Equal(which, kept) {
				t.Errorf("Hide turned the places of %v..", short(l))
			}
		}
		Check(handed)
		Put(handed)
		Text(handed, "?")
		if want, _ := withRoom(l, 'q'); !slices.Equal(all, want) {
			t.Errorf("%v.. was turned", short(l))
		}
		b, some := withRoom(four(l), 7)
		Get(some)
		Get(b)
		if want, _ := withRoom(four(l), 7); !bytes.Equal(b, want) {
			t.Errorf("the bytes of %v.. were turned", short(l))
		}
	}
}

// spoil writes over all of an answer, and over the room behind it.
func spoil[T any](l []T, with T) {
	l = l[:cap(l)]
	for i := range l {
		l[i] = with
	}
}

// P4.4: what is answered shares no memory with what was handed in.
func TestAnswersShareNothing(t *testing.T) {
	for _, l := range rows() {
		for seed := range 4 {
			all, handed := withRoom(l, 'q')
			which := places(len(l), seed)
			h, _ := Hide(handed, which)
			spoil(h, 'x')
			if want, _ := withRoom(l, 'q'); !slices.Equal(all, want) || !slices.Equal(which, places(len(l), seed)) {
				t.Errorf("Hide(%v..) shares memory", short(l))
			}
			b, _ := Put(handed)
			spoil(b, 9)
			if want, _ := withRoom(l, 'q'); !slices.Equal(all, want) {
				t.Errorf("Put(%v..) shares memory", short(l))
			}
		}
		all, handed := withRoom(four(l), 7)
		got, _ := Get(handed)
		spoil(got, 'x')
		if want, _ := withRoom(four(l), 7); !bytes.Equal(all, want) {
			t.Errorf("Get of %v.. shares memory", short(l))
		}
	}
}

// P4.4, P1: what is answered is new each time, and nothing is kept: two answers share nothing, and what comes between two calls turns no answer.
func TestAnswersAreNew(t *testing.T) {
	l := rows()
	for i, row := range l {
		other := l[len(l)-1-i]
		which := places(len(row), 5)
		text := textOf(row, "")
		want, _ := read(text)
		of, _ := Of(text)
		put, _ := Put(row)
		got, _ := Get(four(row))
		hidden, _ := Hide(row, which)
		shown, _ := Text(row, "?")

		otherOf, _ := Of(textOf(other, ""))
		otherPut, _ := Put(other)
		otherGot, _ := Get(four(other))
		otherHidden, _ := Hide(other, places(len(other), 1))
		Text(other, "!")
		refuseOf(t, "\xff", api.ErrText)
		spoil(otherOf, 'x')
		spoil(otherPut, 9)
		spoil(otherGot, 'x')
		spoil(otherHidden, 'x')

		if !slices.Equal(of, want) || !bytes.Equal(put, four(row)) || !slices.Equal(got, row) || !slices.Equal(hidden, hiddenOf(row, which)) || shown != textOf(row, "?") {
			t.Errorf("an answer to %v.. was turned", short(row))
		}
		spoil(of, 'x')
		spoil(put, 9)
		spoil(got, 'x')
		spoil(hidden, 'x')
		wantOf(t, text, want)
		put, _ = Put(row)
		got, _ = Get(four(row))
		hidden, _ = Hide(row, which)
		if !bytes.Equal(put, four(row)) || !slices.Equal(got, row) || !slices.Equal(hidden, hiddenOf(row, which)) {
			t.Errorf("the second answer to %v.. is another one", short(row))
		}
	}
}

// P4.5: what is put is got, and what is got is put as just these bytes; a text's runes have that text.
func TestPutIsGot(t *testing.T) {
	for _, l := range rows() {
		b, e := Put(l)
		got, f := Get(b)
		again, g := Put(got)
		if e != api.OK || f != api.OK || g != api.OK || !slices.Equal(got, l) || !bytes.Equal(again, b) {
			t.Errorf("%v.. came back as %v..", short(l), short(got))
		}
		if slices.Contains(l, api.Blank) {
			continue
		}
		s, e := Text(l, "?")
		back, f := Of(s)
		if e != api.OK || f != api.OK || !slices.Equal(back, l) {
			t.Errorf("%v.. came back from its text as %v..", short(l), short(back))
		}
	}
}

// P4.5: a row has four bytes for each number, whatever its runes; so it has when it is hidden.
func TestBytesByLengthAlone(t *testing.T) {
	for many := range 65 {
		for seed := range 20 {
			l := mixed(many, seed*65+many)
			h, _ := Hide(l, places(many, seed))
			for _, row := range [][]int32{l, h, make([]int32, many), slices.Repeat([]int32{api.Blank}, many), slices.Repeat([]int32{0x10ffff}, many)} {
				if b, e := Put(row); e != api.OK || len(b) != 4*many {
					t.Errorf("%d of seed %d have %d bytes, %d", many, seed, len(b), e)
				}
			}
		}
	}
}

// P4.5, W2: two rows that differ in hidden places alone are one when these are hidden: their numbers, their bytes, and their texts.
func TestHiddenTellsNothing(t *testing.T) {
	for many := 1; many <= 64; many++ {
		for seed := range 12 {
			one, which := mixed(many, seed), places(many, seed)
			others := [][]int32{mixed(many, seed+77), plain(many, seed+5), make([]int32, many), slices.Repeat([]int32{api.Blank}, many), slices.Repeat([]int32{0x10ffff}, many)}
			for _, other := range others {
				for i, so := range which {
					if !so {
						other[i] = one[i]
					}
				}
				a, e := Hide(one, which)
				b, f := Hide(other, which)
				if e != api.OK || f != api.OK || !slices.Equal(a, b) {
					t.Errorf("%v.. and %v.. with %v..: %v.., %v..", short(one), short(other), short(which), short(a), short(b))
				}
				aPut, _ := Put(a)
				bPut, _ := Put(b)
				aText, _ := Text(a, "_")
				bText, _ := Text(b, "_")
				if !bytes.Equal(aPut, bPut) || aText != bText {
					t.Errorf("%v.. and %v.. have other bytes or texts", short(one), short(other))
				}
			}
		}
	}
}

// P4.5, P4.3: what is hidden already stays so, and what is not is told.
func TestHideAgain(t *testing.T) {
	for many := range 65 {
		l := mixed(many, many)
		once, _ := Hide(l, places(many, 4))
		twice, e := Hide(once, places(many, 4))
		both, f := Hide(once, places(many, 7))
		same, g := Hide(once, places(many, 0))
		want := hiddenOf(hiddenOf(l, places(many, 4)), places(many, 7))
		if e != api.OK || f != api.OK || g != api.OK || !slices.Equal(once, twice) || !slices.Equal(both, want) || !slices.Equal(same, once) {
			t.Errorf("%v.. hidden again is %v.. and %v..", short(l), short(twice), short(both))
		}
	}
}

// The chapter's table of examples, row by row.
func TestExamples(t *testing.T) {
	wantOf(t, "a\u00e9", []int32{97, 233})
	refuseOf(t, "\xff", api.ErrText)
	wantOf(t, "", nil)
	if b, e := Put([]int32{97, -1}); e != api.OK || string(b) != "\x00\x00\x00\x61\xff\xff\xff\xff" {
		t.Errorf("Put: %x, %d", b, e)
	}
	if l, e := Get([]byte("\x00\x00\x00\x61\xff\xff\xff\xff")); e != api.OK || !slices.Equal(l, []int32{97, -1}) {
		t.Errorf("Get: %v, %d", l, e)
	}
	if h, e := Hide([]int32{97, 98}, []bool{true, false}); e != api.OK || !slices.Equal(h, []int32{-1, 98}) {
		t.Errorf("Hide: %v, %d", h, e)
	}
	if s, e := Text([]int32{-1, 98}, "?"); e != api.OK || s != "?b" {
		t.Errorf("Text: %q, %d", s, e)
	}
	refuseRow(t, []int32{-2}, api.ErrBad)
	refuseGet(t, []byte{0, 0, 0xd8, 0}, api.ErrBad)
	refuseGet(t, []byte{0, 0, 0}, api.ErrBad)
	if h, e := Hide([]int32{97}, nil); e != api.ErrArg || len(h) != 0 {
		t.Errorf("Hide without places: %v, %d", h, e)
	}
}
