package ids

import (
	"bytes"
	"math"
	"slices"
	"testing"

	"blindstamp/api"
)

// handle and id are short ways to make one.
func handle(level uint8, cats uint32, num uint8) api.Handle {
	return api.Handle{Label: api.Label{Level: level, Cats: cats}, Num: num}
}

func id(h api.Handle, counter int) api.Id {
	return api.Id{By: h, Counter: counter}
}

func span(from api.Id, many int) api.Span {
	return api.Span{From: from, Many: many}
}

// handles has handles that may be: the edges of levels, categories and numbers, each with each.
func handles() []api.Handle {
	var l []api.Handle
	for _, level := range []uint8{0, 1, 2, 8, 14, 15} {
		for _, cats := range []uint32{0, 1, 2, 3, 255, 256, 0x01020304, 0x7fffffff, 0x80000000, 0xfedcba98, 0xffffffff} {
			for num := range uint8(8) {
				l = append(l, handle(level, cats, num))
			}
		}
	}
	return l
}

// someHandles has fewer of them.
func someHandles() []api.Handle {
	return []api.Handle{{}, handle(1, 1, 2), handle(1, 1, 3), handle(1, 2, 2), handle(2, 1, 2), handle(15, 0xffffffff, 7), handle(0, 0x80000000, 0)}
}

// wrongHandles has handles that may not be: by their level, by their number, and by both.
func wrongHandles() []api.Handle {
	var l []api.Handle
	for _, cats := range []uint32{0, 1, 0xffffffff} {
		for _, level := range []uint8{16, 17, 31, 32, 127, 128, 254, 255} {
			l = append(l, handle(level, cats, 0), handle(level, cats, 7), handle(level, cats, 8), handle(level, cats, 255))
		}
		for _, num := range []uint8{8, 9, 15, 16, 127, 128, 254, 255} {
			l = append(l, handle(0, cats, num), handle(1, cats, num), handle(15, cats, num))
		}
	}
	return l
}

// counters has counters that may be.
func counters() []int {
	l := []int{1, 2, 3, 7, 8, 9, 10, 63, 64, 65, 127, 128, 255, 256, 257, 65535, 65536, 1<<24 - 1, 1 << 24, 1<<31 - 1, 1 << 31, 1<<32 - 1, 1 << 32, 1<<32 + 1, 0x0102030405}
	for less := 70; less >= 0; less-- {
		l = append(l, 1<<40-less)
	}
	return l
}

// wrongCounters has counters that may not be; some of them would be, if a few of their bits were left out.
func wrongCounters() []int {
	return []int{0, -1, -2, -9, -255, -256, -1 << 32, -1 << 40, -1<<40 + 1, 1<<40 + 1, 1<<40 + 2, 1<<40 + 64, 1 << 41, 1<<41 + 1, 1<<48 + 9, 1<<56 - 1, 1 << 56, 1<<56 + 1, 1<<56 + 9, 1<<62 + 1,
		math.MaxInt, math.MaxInt - 1, math.MaxInt - 63, math.MinInt, math.MinInt + 1, math.MinInt + 9, math.MinInt + 64}
}

// wrongManies has numbers of ids that no span has.
func wrongManies() []int {
	return []int{0, -1, -2, -63, -64, -65, -255, 65, 66, 127, 128, 129, 256, 257, 258, 1<<16 + 1, 1<<32 + 1, 1<<32 + 64, 1<<40 + 1, 1 << 62, math.MaxInt, math.MaxInt - 1, math.MinInt, math.MinInt + 1, math.MinInt + 64}
}

// spans has spans that may be: of each length, at the counters' beginning, in their middle, and at their end.
func spans() []api.Span {
	var l []api.Span
	for _, h := range someHandles() {
		for many := 1; many <= 64; many++ {
			l = append(l, span(id(h, 1), many), span(id(h, 9), many), span(id(h, 250), many), span(id(h, 1<<32-5), many), span(id(h, 1<<40-many), many), span(id(h, 1<<40-many+1), many))
		}
	}
	return l
}

// someSpans has fewer of them.
func someSpans() []api.Span {
	var l []api.Span
	for i, s := range spans() {
		if i%37 == 0 || s.Many == 1 || s.Many == 64 {
			l = append(l, s)
		}
	}
	return l
}

// wrongSpans has spans that may not be: by who made them, by their first counter, by their length, and by their last counter.
func wrongSpans() []api.Span {
	l := []api.Span{{}, {Many: 1}, {From: id(handle(1, 1, 2), 9)}}
	for _, h := range wrongHandles() {
		l = append(l, span(id(h, 9), 1), span(id(h, 9), 64), span(id(h, 1<<40), 1), span(id(h, 9), 65))
	}
	for _, h := range someHandles() {
		for _, counter := range wrongCounters() {
			l = append(l, span(id(h, counter), 1), span(id(h, counter), 2), span(id(h, counter), 64), span(id(h, counter), 0))
		}
		for _, many := range wrongManies() {
			l = append(l, span(id(h, 1), many), span(id(h, 9), many), span(id(h, 1<<40), many), span(id(h, 1<<40-63), many))
		}
		for many := 2; many <= 64; many++ {
			l = append(l, span(id(h, 1<<40-many+2), many), span(id(h, 1<<40), many))
		}
	}
	return l
}

// idsOf has a span's ids, one by one.
func idsOf(s api.Span) []api.Id {
	var l []api.Id
	for counter := s.From.Counter; len(l) < s.Many; counter++ {
		l = append(l, id(s.From.By, counter))
	}
	return l
}

// digits are a number's bytes, so many, told by division.
func digits(n, many int) []byte {
	b := make([]byte, many)
	for i := many - 1; i >= 0; i-- {
		b[i] = byte(n % 256)
		n /= 256
	}
	return b
}

// six and thirteen are the bytes of a handle and of an id, of whatever values that are not below 0.
func six(h api.Handle) []byte {
	return slices.Concat([]byte{h.Label.Level}, digits(int(h.Label.Cats), 4), []byte{h.Num})
}

func thirteen(d api.Id) []byte {
	return slices.Concat(six(d.By), digits(d.Counter, 7))
}

// key is made so that keys as texts have the order of ids: of any ones, below 0 too.
func key(d api.Id) string {
	counter := digits(int(uint64(d.Counter)>>32^1<<31), 4)
	return string(slices.Concat(counter, digits(int(uint32(d.Counter)), 4), six(d.By)))
}

func checkId(t *testing.T, d api.Id, want api.Errno) {
	t.Helper()
	if e := Check(d); e != want {
		t.Errorf("Check(%v) is %d, not %d", d, e, want)
	}
}

func checkHandle(t *testing.T, h api.Handle, want api.Errno) {
	t.Helper()
	if e := CheckHandle(h); e != want {
		t.Errorf("CheckHandle(%v) is %d, not %d", h, e, want)
	}
}

func checkSpan(t *testing.T, s api.Span, want api.Errno) {
	t.Helper()
	if e := CheckSpan(s); e != want {
		t.Errorf("CheckSpan(%v) is %d, not %d", s, e, want)
	}
}

func wantHas(t *testing.T, s api.Span, d api.Id, place int, is bool) {
	t.Helper()
	if n, ok := Has(s, d); n != place || ok != is {
		t.Errorf("Has(%v, %v) is %d, %v, not %d, %v", s, d, n, ok, place, is)
	}
}

func wantAt(t *testing.T, s api.Span, n int, want api.Id, f api.Errno) {
	t.Helper()
	if d, e := At(s, n); d != want || e != f {
		t.Errorf("At(%v, %d) is %v, %d, not %v, %d", s, n, d, e, want, f)
	}
}

func wantCut(t *testing.T, s api.Span, n int, first, others api.Span, f api.Errno) {
	t.Helper()
	if a, b, e := Cut(s, n); a != first || b != others || e != f {
		t.Errorf("Cut(%v, %d) is %v, %v, %d, not %v, %v, %d", s, n, a, b, e, first, others, f)
	}
}

func wantPut(t *testing.T, d api.Id, want []byte) {
	t.Helper()
	if b, e := Put(d); e != api.OK || !bytes.Equal(b, want) {
		t.Errorf("Put(%v) is %v, %d, not %v", d, b, e, want)
	}
}

func refusePut(t *testing.T, d api.Id) {
	t.Helper()
	if b, e := Put(d); e != api.ErrBad || b != nil {
		t.Errorf("Put(%v) is %v, %d, not an error", d, b, e)
	}
}

func wantGet(t *testing.T, b []byte, want api.Id, f api.Errno) {
	t.Helper()
	if d, e := Get(b); d != want || e != f {
		t.Errorf("Get(%v) is %v, %d, not %v, %d", b, d, e, want, f)
	}
}

func wantPutHandle(t *testing.T, h api.Handle, want []byte) {
	t.Helper()
	if b, e := PutHandle(h); e != api.OK || !bytes.Equal(b, want) {
		t.Errorf("PutHandle(%v) is %v, %d, not %v", h, b, e, want)
	}
}

func refusePutHandle(t *testing.T, h api.Handle) {
	t.Helper()
	if b, e := PutHandle(h); e != api.ErrBad || b != nil {
		t.Errorf("PutHandle(%v) is %v, %d, not an error", h, b, e)
	}
}

func wantGetHandle(t *testing.T, b []byte, want api.Handle, f api.Errno) {
	t.Helper()
	if h, e := GetHandle(b); h != want || e != f {
		t.Errorf("GetHandle(%v) is %v, %d, not %v, %d", b, h, e, want, f)
	}
}

// P5.1 CheckHandle: each level with each number, whatever the categories.
func TestCheckHandle(t *testing.T) {
	for level := range 256 {
		for num := range 256 {
			want := api.ErrBad
			if level <= 15 && num <= 7 {
				want = api.OK
			}
			for _, cats := range []uint32{0, 1, 0x80000000, 0xffffffff} {
				checkHandle(t, handle(uint8(level), cats, uint8(num)), want)
			}
		}
	}
}

// P5.1 Check: an id may be if its handle and its counter may be, and only then.
func TestCheck(t *testing.T) {
	for _, h := range handles() {
		for _, counter := range counters() {
			checkId(t, id(h, counter), api.OK)
		}
		for _, counter := range wrongCounters() {
			checkId(t, id(h, counter), api.ErrBad)
		}
	}
	for _, h := range wrongHandles() {
		for _, counter := range append(counters(), wrongCounters()...) {
			checkId(t, id(h, counter), api.ErrBad)
		}
	}
	checkId(t, api.Id{}, api.ErrBad)
}

// P5.1 CheckSpan: spans that may be, up to the last counter there is, and such as may not be.
func TestCheckSpan(t *testing.T) {
	for _, s := range spans() {
		checkSpan(t, s, api.OK)
	}
	for _, s := range wrongSpans() {
		checkSpan(t, s, api.ErrBad)
	}
}

// anyIds has ids that may be and ids that may not: they differ in one thing, or in several.
func anyIds() []api.Id {
	var l []api.Id
	for _, counter := range []int{math.MinInt, math.MinInt + 1, -1 << 32, -2, -1, 0, 1, 8, 9, 10, 256, 1<<32 - 1, 1 << 32, 1 << 40, 1<<40 + 1, math.MaxInt - 1, math.MaxInt} {
		for _, level := range []uint8{0, 1, 2, 15, 16, 255} {
			for _, cats := range []uint32{0, 1, 2, 0x80000000, 0xffffffff} {
				for _, num := range []uint8{0, 1, 7, 8, 255} {
					l = append(l, id(handle(level, cats, num), counter))
				}
			}
		}
	}
	return l
}

// P5.1 Less: of any two ids, by their counters, then by their labels, then by their numbers.
func TestLess(t *testing.T) {
	l := anyIds()
	keys := make([]string, len(l))
	for i, d := range l {
		keys[i] = key(d)
	}
	for i, a := range l {
		for k, b := range l {
			if less := Less(a, b); less != (keys[i] < keys[k]) {
				t.Fatalf("Less(%v, %v) is %v", a, b, less)
			}
		}
	}
}

// P5.1 Less: what comes first counts first, whatever the others are.
func TestLessByOneThing(t *testing.T) {
	for _, pair := range [][2]api.Id{
		{id(handle(2, 9, 7), 8), id(handle(1, 1, 0), 9)},
		{id(handle(15, 9, 7), -1), id(handle(0, 0, 0), 0)},
		{id(handle(255, 9, 255), math.MinInt), id(handle(0, 0, 0), math.MaxInt)},
		{id(handle(1, 9, 7), 9), id(handle(2, 1, 0), 9)},
		{id(handle(15, 9, 7), 9), id(handle(16, 1, 0), 9)},
		{id(handle(1, 1, 7), 9), id(handle(1, 2, 0), 9)},
		{id(handle(1, 1, 2), 9), id(handle(1, 1, 3), 9)},
		{id(handle(1, 1, 7), 9), id(handle(1, 1, 8), 9)},
	} {
		if !Less(pair[0], pair[1]) || Less(pair[1], pair[0]) || Less(pair[0], pair[0]) || Less(pair[1], pair[1]) {
			t.Errorf("%v is not less than %v alone", pair[0], pair[1])
		}
	}
}

// P5.5: Less is an order: of two unlike ones just one is less, of an id and itself none, and what is less than one that is less is less.
func TestLessIsAnOrder(t *testing.T) {
	l := anyIds()
	for i, a := range l {
		for k, b := range l {
			one, other := Less(a, b), Less(b, a)
			if one && other || (one || other) == (i == k) {
				t.Fatalf("%v and %v: %v, %v", a, b, one, other)
			}
		}
	}
	var few []api.Id
	for i, d := range l {
		if i%19 == 0 {
			few = append(few, d)
		}
	}
	for _, a := range few {
		for _, b := range few {
			for _, c := range few {
				if Less(a, b) && Less(b, c) && !Less(a, c) {
					t.Fatalf("%v, %v and %v are in no order", a, b, c)
				}
			}
		}
	}
}

// P5.2 Has, At: each id of a span is at its place, and those next to the span are not in it.
func TestPlaces(t *testing.T) {
	for _, s := range spans() {
		all := idsOf(s)
		for n, d := range all {
			wantHas(t, s, d, n, true)
			wantAt(t, s, n, d, api.OK)
		}
		first, last := all[0], all[len(all)-1]
		for _, by := range []int{1, 2, 64, 65, 256, 1 << 32, 1 << 40} {
			wantHas(t, s, id(first.By, first.Counter-by), 0, false)
			wantHas(t, s, id(last.By, last.Counter+by), 0, false)
		}
		for _, counter := range wrongCounters() {
			wantHas(t, s, id(s.From.By, counter), 0, false)
		}
	}
}

// P5.2 Has: an id by another handle is not there, differ it in what it may, and be it one that may be or not.
func TestHasNotAnothers(t *testing.T) {
	others := slices.Concat(handles(), wrongHandles())
	for _, s := range someSpans() {
		for _, d := range idsOf(s) {
			for _, h := range others {
				if h != s.From.By {
					wantHas(t, s, id(h, d.Counter), 0, false)
				}
			}
		}
	}
}

// wrongPlaces has places that are in no span.
func wrongPlaces() []int {
	return []int{-1, -2, -63, -64, -256, -1 << 32, math.MinInt, math.MinInt + 1, 64, 65, 128, 256, 257, 1 << 32, 1<<32 + 1, 1 << 40, math.MaxInt - 1, math.MaxInt}
}

// P5.2 At: ErrArg at a place that is not there.
func TestAtNoPlace(t *testing.T) {
	for _, s := range spans() {
		for _, n := range append(wrongPlaces(), s.Many, s.Many+1) {
			wantAt(t, s, n, api.Id{}, api.ErrArg)
		}
	}
}

// P5.2 Cut: at each place within a span; ErrArg at its ends and beyond.
func TestCut(t *testing.T) {
	for _, s := range spans() {
		all := idsOf(s)
		for n := 1; n < s.Many; n++ {
			wantCut(t, s, n, span(all[0], n), span(all[n], s.Many-n), api.OK)
		}
		for _, n := range append(wrongPlaces(), 0, s.Many, s.Many+1) {
			wantCut(t, s, n, api.Span{}, api.Span{}, api.ErrArg)
		}
	}
}

// P5.2: of a span that may not be, Has finds nothing, and At and Cut tell its error first, at places that are and that are not.
func TestWrongSpans(t *testing.T) {
	for _, s := range wrongSpans() {
		for _, n := range append(wrongPlaces(), 0, 1, 2, 63) {
			wantAt(t, s, n, api.Id{}, api.ErrBad)
			wantCut(t, s, n, api.Span{}, api.Span{}, api.ErrBad)
		}
		wantHas(t, s, s.From, 0, false)
		wantHas(t, s, id(s.From.By, s.From.Counter+1), 0, false)
		wantHas(t, s, id(s.From.By, s.From.Counter+s.Many-1), 0, false)
		wantHas(t, s, id(handle(1, 1, 2), 9), 0, false)
		wantHas(t, s, api.Id{}, 0, false)
	}
}

// P5.3 Put, Get: ids that may be, both ways.
func TestPutAndGet(t *testing.T) {
	for _, h := range handles() {
		for _, counter := range counters() {
			d := id(h, counter)
			wantPut(t, d, thirteen(d))
			wantGet(t, thirteen(d), d, api.OK)
		}
	}
}

// P5.3 PutHandle, GetHandle: handles that may be, both ways.
func TestPutAndGetHandle(t *testing.T) {
	for _, h := range handles() {
		wantPutHandle(t, h, six(h))
		wantGetHandle(t, six(h), h, api.OK)
	}
}

// P5.3: what may not be is not put, nor are its bytes got.
func TestWrongOnesHaveNoBytes(t *testing.T) {
	for _, h := range wrongHandles() {
		refusePutHandle(t, h)
		wantGetHandle(t, six(h), api.Handle{}, api.ErrBad)
		for _, counter := range counters() {
			refusePut(t, id(h, counter))
			wantGet(t, thirteen(id(h, counter)), api.Id{}, api.ErrBad)
		}
	}
	for _, h := range slices.Concat(handles(), wrongHandles()) {
		for _, counter := range wrongCounters() {
			refusePut(t, id(h, counter))
			if counter >= 0 && counter < 1<<56 {
				wantGet(t, thirteen(id(h, counter)), api.Id{}, api.ErrBad)
			}
		}
	}
}

// P5.3 Get, GetHandle: each byte at each place, in bytes of an id that may be.
func TestEachByte(t *testing.T) {
	d := id(handle(3, 0x01020304, 5), 0x060708090a)
	for at := range 13 {
		for n := range 256 {
			b := thirteen(d)
			b[at] = byte(n)
			want, f := d, api.OK
			switch at {
			case 0:
				want.By.Label.Level = byte(n)
				f = errorIf(n > 15)
			case 1, 2, 3, 4:
				want.By.Label.Cats = uint32(b[1])*16777216 + uint32(b[2])*65536 + uint32(b[3])*256 + uint32(b[4])
			case 5:
				want.By.Num = byte(n)
				f = errorIf(n > 7)
			case 6, 7:
				f = errorIf(n > 0)
			default:
				want.Counter = int(b[8])*4294967296 + int(b[9])*16777216 + int(b[10])*65536 + int(b[11])*256 + int(b[12])
			}
			if f != api.OK {
				want = api.Id{}
			}
			wantGet(t, b, want, f)
			if at < 6 {
				wantGetHandle(t, b[:6], want.By, f)
			}
		}
	}
}

func errorIf(so bool) api.Errno {
	if so {
		return api.ErrBad
	}
	return api.OK
}

// P5.3 Get, GetHandle: bytes that are too few or too many, of any beginning; room behind the length is none of them.
func TestWrongLengths(t *testing.T) {
	long := slices.Concat(thirteen(id(handle(1, 1, 2), 9)), thirteen(id(handle(1, 1, 2), 10)), make([]byte, 300))
	wantGet(t, nil, api.Id{}, api.ErrBad)
	wantGetHandle(t, nil, api.Handle{}, api.ErrBad)
	for many := range len(long) {
		if many != 13 {
			wantGet(t, long[:many], api.Id{}, api.ErrBad)
			wantGet(t, make([]byte, many), api.Id{}, api.ErrBad)
			wantGet(t, slices.Repeat([]byte{1}, many), api.Id{}, api.ErrBad)
		}
		if many != 6 {
			wantGetHandle(t, long[:many], api.Handle{}, api.ErrBad)
			wantGetHandle(t, make([]byte, many), api.Handle{}, api.ErrBad)
			wantGetHandle(t, slices.Repeat([]byte{1}, many), api.Handle{}, api.ErrBad)
		}
	}
	wantGet(t, long[:13], id(handle(1, 1, 2), 9), api.OK)
	wantGetHandle(t, long[:6], handle(1, 1, 2), api.OK)
}

// P5.4: bytes that are handed in stay as they are, and so does what lies behind their length, whatever the answer.
func TestOnlyRead(t *testing.T) {
	bad := id(handle(16, 1, 2), 9)
	for _, b := range [][]byte{nil, {1}, six(handle(1, 1, 2)), six(bad.By), thirteen(id(handle(15, 0xfedcba98, 7), 1<<40)), thirteen(bad), make([]byte, 13), make([]byte, 14)} {
		all := slices.Concat(b, []byte{7, 7, 7, 7, 7, 7, 7, 7})
		kept := slices.Clone(all)
		Get(all[:len(b)])
		GetHandle(all[:len(b)])
		if !bytes.Equal(all, kept) {
			t.Errorf("%v was turned", kept)
		}
	}
}

// spoil writes over all of an answer, and over the room behind it.
func spoil(b []byte) {
	b = b[:cap(b)]
	for i := range b {
		b[i] = 99
	}
}

// P5.4, P1: bytes are new each time, and nothing is kept: two answers share nothing, and what comes between two calls turns no answer.
func TestAnswersAreNew(t *testing.T) {
	for _, h := range handles() {
		d := id(h, 9)
		one, _ := Put(d)
		first, _ := PutHandle(h)
		other, _ := Put(id(handle(2, 7, 1), 1<<40))
		second, _ := PutHandle(handle(2, 7, 1))
		again, _ := Put(d)
		third, _ := PutHandle(h)
		refusePut(t, api.Id{})
		spoil(other)
		spoil(second)
		spoil(again)
		spoil(third)
		if !bytes.Equal(one, thirteen(d)) || !bytes.Equal(first, six(h)) {
			t.Errorf("the bytes of %v were turned", d)
		}
		spoil(one)
		spoil(first)
		wantPut(t, d, thirteen(d))
		wantPutHandle(t, h, six(h))
	}
}

// P5.4: what is got hangs on the bytes as they were at the call alone.
func TestGotIsNew(t *testing.T) {
	d := id(handle(3, 0x01020304, 5), 0x060708090a)
	b := thirteen(d)
	got, _ := Get(b)
	h, _ := GetHandle(b[:6])
	spoil(b)
	if got != d || h != d.By {
		t.Errorf("%v and %v were turned", got, h)
	}
}

// P5.5: an id's bytes are as many, whoever made it; so are a handle's.
func TestAsMany(t *testing.T) {
	for _, h := range handles() {
		for _, counter := range counters() {
			if b, _ := Put(id(h, counter)); len(b) != 13 {
				t.Errorf("%v, %d has %d bytes", h, counter, len(b))
			}
		}
		if b, _ := PutHandle(h); len(b) != 6 {
			t.Errorf("%v has %d bytes", h, len(b))
		}
	}
}

// P5.5: what is put is got, and an id's bytes begin with its handle's.
func TestPutIsGot(t *testing.T) {
	for _, h := range handles() {
		for _, counter := range counters() {
			b, e := Put(id(h, counter))
			d, f := Get(b)
			by, g := GetHandle(b[:6])
			if e != api.OK || f != api.OK || g != api.OK || d != id(h, counter) || by != h {
				t.Errorf("%v, %d came back as %v, %v", h, counter, d, by)
			}
		}
	}
}

// P5.5: what is cut is what was there, in two: each id is in just one of the parts, in the same order, and both may be.
func TestCutIsWhatWasThere(t *testing.T) {
	for _, s := range someSpans() {
		for n := 1; n < s.Many; n++ {
			a, b, e := Cut(s, n)
			if e != api.OK || CheckSpan(a) != api.OK || CheckSpan(b) != api.OK || !slices.Equal(append(idsOf(a), idsOf(b)...), idsOf(s)) {
				t.Fatalf("Cut(%v, %d) is %v, %v, %d", s, n, a, b, e)
			}
			for place := range s.Many {
				d, _ := At(s, place)
				if place < n {
					wantHas(t, a, d, place, true)
					wantHas(t, b, d, 0, false)
				} else {
					wantHas(t, a, d, 0, false)
					wantHas(t, b, d, place-n, true)
				}
			}
		}
	}
}

// P5.5, P5.2: a span's ids are in order, one by one.
func TestSpanIsInOrder(t *testing.T) {
	for _, s := range someSpans() {
		for n := 1; n < s.Many; n++ {
			a, _ := At(s, n-1)
			b, _ := At(s, n)
			if !Less(a, b) || Less(b, a) {
				t.Errorf("%v: %v and %v", s, a, b)
			}
		}
	}
}

// The chapter's table of examples, row by row.
func TestExamples(t *testing.T) {
	h := handle(1, 1, 2)
	h9, h10 := id(h, 9), id(h, 10)
	for _, other := range []api.Id{h10, id(handle(2, 1, 2), 9), id(handle(1, 1, 3), 9)} {
		if !Less(h9, other) {
			t.Errorf("H9 is not less than %v", other)
		}
	}
	wantPut(t, h9, []byte{1, 0, 0, 0, 1, 2, 0, 0, 0, 0, 0, 0, 9})
	wantHas(t, span(h9, 3), id(h, 11), 2, true)
	wantCut(t, span(h9, 3), 1, span(h9, 1), span(h10, 2), api.OK)
	wantAt(t, span(h9, 3), 3, api.Id{}, api.ErrArg)
	checkId(t, id(h, 0), api.ErrBad)
	checkHandle(t, handle(1, 1, 8), api.ErrBad)
	checkSpan(t, span(h9, 65), api.ErrBad)
}
