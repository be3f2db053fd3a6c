package op

import (
	"bytes"
	"math"
	"math/rand"
	"slices"
	"testing"

	"blindstamp/api"
)

// handle, id and span are short ways to make one.
func handle(level uint8, cats uint32, num uint8) api.Handle {
	return api.Handle{Label: api.Label{Level: level, Cats: cats}, Num: num}
}

func id(h api.Handle, counter int) api.Id {
	return api.Id{By: h, Counter: counter}
}

func span(from api.Id, many int) api.Span {
	return api.Span{From: from, Many: many}
}

// letters has a row of so many runes, none a blank.
func letters(many int) []int32 {
	l := make([]int32, many)
	for i := range l {
		l[i] = int32(97 + i)
	}
	return l
}

// with has a row with another number at a place.
func with(l []int32, at int, n int32) []int32 {
	l = slices.Clone(l)
	l[at] = n
	return l
}

// insert, cut and raise have an operation of each kind that may be; the tests turn what they ask about.
func insert(many int) api.Op {
	h := handle(1, 1, 2)
	return api.Op{Kind: 1, By: h, Serial: 65538, Span: span(id(h, 9), many), After: id(handle(1, 3, 3), 5), Runes: letters(many)}
}

func cut(many int) api.Op {
	return api.Op{Kind: 2, By: handle(1, 1, 2), Serial: 1, Span: span(id(handle(2, 5, 4), 9), many)}
}

func raise(many int) api.Op {
	return api.Op{Kind: 3, By: handle(1, 1, 2), Serial: 1<<24 - 1, Span: span(id(handle(0, 1, 1), 0x0102030405), many), To: api.Label{Level: 2, Cats: 0x01020304}}
}

func ofEachKind() []api.Op {
	return []api.Op{insert(1), insert(2), insert(64), cut(1), cut(2), cut(64), raise(1), raise(2), raise(64)}
}

// handles and wrongHandles have handles that may be, and that may not.
func handles() []api.Handle {
	var l []api.Handle
	for _, level := range []uint8{0, 1, 14, 15} {
		for _, cats := range []uint32{0, 1, 0x01020304, 0x80000000, 0xffffffff} {
			l = append(l, handle(level, cats, 0), handle(level, cats, 3), handle(level, cats, 7))
		}
	}
	return l
}

func wrongHandles() []api.Handle {
	var l []api.Handle
	for _, cats := range []uint32{0, 1, 0xffffffff} {
		l = append(l, handle(16, cats, 0), handle(17, cats, 7), handle(128, cats, 1), handle(255, cats, 2), handle(0, cats, 8), handle(1, cats, 9), handle(15, cats, 128), handle(15, cats, 255), handle(16, cats, 8))
	}
	return l
}

// counters and wrongCounters have counters that an id may have, and may not.
func counters() []int {
	return []int{1, 2, 9, 255, 256, 1<<24 + 7, 1<<32 - 1, 1 << 32, 0x0102030405, 1<<40 - 64, 1<<40 - 1, 1 << 40}
}

func wrongCounters() []int {
	return []int{0, -1, -9, -1 << 32, 1<<40 + 1, 1<<40 + 9, 1 << 41, 1<<48 + 9, 1<<56 - 1, 1 << 56, 1<<56 + 9, math.MaxInt, math.MaxInt - 63, math.MinInt, math.MinInt + 9}
}

// serials and wrongSerials have serials that may be, and that may not.
func serials() []int {
	return []int{1, 2, 255, 256, 257, 65535, 65536, 65538, 0x010203, 1<<24 - 2, 1<<24 - 1}
}

func wrongSerials() []int {
	return []int{0, -1, -2, -255, -1 << 24, -1<<24 + 1, 1 << 24, 1<<24 + 1, 1<<24 + 65538, 1 << 31, 1<<32 + 1, 1<<56 + 1, math.MaxInt - 1, math.MaxInt, math.MinInt, math.MinInt + 1}
}

// wrongManies has numbers of elements that no operation has.
func wrongManies() []int {
	return []int{0, -1, -2, -63, -64, -65, -256, 65, 66, 127, 128, 255, 256, 257, 258, 320, 1<<16 + 1, 1<<32 + 1, 1<<32 + 64, 1 << 62, math.MaxInt - 1, math.MaxInt, math.MinInt, math.MinInt + 1, math.MinInt + 64}
}

// wrongRunes has numbers that are neither a rune nor a blank.
func wrongRunes() []int32 {
	return []int32{-2, -3, -97, -256, 0xd800, 0xd801, 0xdbff, 0xdc00, 0xdffe, 0xdfff, 0x110000, 0x110001, 0x200061, 0x1000061, math.MaxInt32, math.MinInt32, math.MinInt32 + 97}
}

// rows has rows that may be, of so many.
func rows(many int) [][]int32 {
	l := [][]int32{letters(many), slices.Repeat([]int32{-1}, many)}
	for _, n := range []int32{-1, 0, 0x7f, 0x80, 0xff, 0x100, 0xd7ff, 0xe000, 0xfffd, 0xffff, 0x10000, 0x10fffe, 0x10ffff} {
		l = append(l, with(letters(many), 0, n), with(letters(many), many-1, n), with(letters(many), many/2, n))
	}
	return l
}

// labels has labels that may be.
func labels() []api.Label {
	return []api.Label{{}, {Level: 1, Cats: 1}, {Level: 2, Cats: 0x01020304}, {Level: 0, Cats: 0x80000000}, {Level: 14, Cats: 7}, {Level: 15}, {Level: 15, Cats: 0xffffffff}}
}

// goodOnes has operations that may be: of each kind, with the edges of each field.
func goodOnes() []api.Op {
	l := ofEachKind()
	for _, h := range handles() {
		for _, o := range []api.Op{insert(2), cut(2), raise(2)} {
			o.By = h
			if o.Kind == 1 {
				o.Span.From.By = h
			}
			l = append(l, o)
			if o.Kind != 1 {
				o.Span.From.By = handle(15, 7, 7)
				l = append(l, o)
			}
		}
		o := insert(3)
		o.After = id(h, 1<<40)
		l = append(l, o)
	}
	for _, o := range []api.Op{insert(5), cut(5), raise(5)} {
		for _, serial := range serials() {
			o.Serial = serial
			l = append(l, o)
		}
		for many := 1; many <= 64; many++ {
			for _, counter := range append(counters(), 1<<40-many+1) {
				o.Span = span(id(o.Span.From.By, counter), many)
				if o.Kind == 1 {
					o.Runes = letters(many)
				}
				if counter+many-1 <= 1<<40 {
					l = append(l, o)
				}
			}
		}
	}
	for _, many := range []int{1, 2, 3, 63, 64} {
		o := insert(many)
		for _, row := range rows(many) {
			o.Runes = row
			l = append(l, o)
		}
		for _, counter := range counters() {
			o.After = id(handle(1, 3, 3), counter)
			l = append(l, o)
		}
		// The beginning, behind its own first id, and behind its own last one: the words rule out none of them.
		for _, after := range []api.Id{{}, o.Span.From, id(o.By, 8+many), id(o.By, 1)} {
			o.After = after
			l = append(l, o)
		}
		o = raise(many)
		for _, to := range labels() {
			o.To = to
			l = append(l, o)
		}
	}
	return l
}

// someGoodOnes has fewer of them, of all parts of the list.
func someGoodOnes() []api.Op {
	l := ofEachKind()
	for i, o := range goodOnes() {
		if i%23 == 0 {
			l = append(l, o)
		}
	}
	return l
}

// wrongOnes has operations that may not be, each by one thing.
func wrongOnes() []api.Op {
	l := []api.Op{{}, {Kind: 1}, {Kind: 2}, {Kind: 3}}
	for _, good := range ofEachKind() {
		many := good.Span.Many
		turn := func(do func(o *api.Op)) {
			o := good
			o.Runes = slices.Clone(good.Runes)
			do(&o)
			l = append(l, o)
		}
		for _, kind := range []uint8{0, 4, 5, 127, 128, 129, 130, 131, 254, 255} {
			turn(func(o *api.Op) { o.Kind = kind })
		}
		for _, h := range wrongHandles() {
			turn(func(o *api.Op) { o.By = h })
			turn(func(o *api.Op) { o.Span.From.By = h })
			turn(func(o *api.Op) { o.By, o.Span.From.By = h, h })
			turn(func(o *api.Op) { o.After = id(h, 5) })
			turn(func(o *api.Op) { o.After = id(h, 0) })
		}
		for _, serial := range wrongSerials() {
			turn(func(o *api.Op) { o.Serial = serial })
		}
		for _, counter := range wrongCounters() {
			turn(func(o *api.Op) { o.Span.From.Counter = counter })
			turn(func(o *api.Op) { o.After = id(handle(1, 1, 2), counter) })
			turn(func(o *api.Op) { o.After = id(o.By, counter) })
			if counter != 0 {
				turn(func(o *api.Op) { o.After = api.Id{Counter: counter} })
			}
		}
		for _, n := range wrongManies() {
			turn(func(o *api.Op) { o.Span.Many = n })
		}
		turn(func(o *api.Op) { o.Span.From.Counter = 1<<40 - many + 2 })
		turn(func(o *api.Op) { o.Span.From.Counter = 1<<40 + 1 })
		for _, n := range []int{0, 1, 2, 3, 63, 64, 65, 66, 128, 256, 5000} {
			if n != len(good.Runes) {
				turn(func(o *api.Op) { o.Runes = letters(n) })
				turn(func(o *api.Op) { o.Runes = slices.Repeat([]int32{-1}, n) })
			}
		}
		if good.Kind == 1 {
			turn(func(o *api.Op) { o.Runes = nil })
			turn(func(o *api.Op) { o.Runes = o.Runes[:many-1] })
			turn(func(o *api.Op) { o.Runes = append(o.Runes, 97) })
			for _, n := range wrongRunes() {
				for _, at := range []int{0, many / 2, many - 1} {
					turn(func(o *api.Op) { o.Runes[at] = n })
				}
			}
			for _, h := range handles() {
				if h != good.By {
					turn(func(o *api.Op) { o.Span.From.By = h })
					turn(func(o *api.Op) { o.By = h })
				}
			}
			turn(func(o *api.Op) { o.Span.From.By.Num = 3 })
			turn(func(o *api.Op) { o.Span.From.By.Label.Level = 2 })
			turn(func(o *api.Op) { o.Span.From.By.Label.Cats = 3 })
		} else {
			turn(func(o *api.Op) { o.After = id(o.By, 5) })
			turn(func(o *api.Op) { o.After = id(handle(0, 0, 0), 1) })
			turn(func(o *api.Op) { o.After = id(handle(0, 0, 1), 0) })
			turn(func(o *api.Op) { o.After = id(handle(0, 1, 0), 0) })
			turn(func(o *api.Op) { o.After = id(handle(1, 0, 0), 0) })
		}
		if good.Kind == 3 {
			for _, level := range []uint8{16, 17, 31, 128, 255} {
				turn(func(o *api.Op) { o.To.Level = level })
				turn(func(o *api.Op) { o.To = api.Label{Level: level} })
			}
		} else {
			for _, to := range []api.Label{{Level: 1}, {Cats: 1}, {Cats: 0x80000000}, {Level: 15, Cats: 0xffffffff}, {Level: 16}, {Level: 255, Cats: 1}, good.By.Label} {
				turn(func(o *api.Op) { o.To = to })
			}
		}
	}
	return l
}

// handleMay, idMay and mayBe are the document's words, told by plain numbers alone.
func handleMay(h api.Handle) bool {
	return int(h.Label.Level) <= 15 && int(h.Num) <= 7
}

func idMay(d api.Id) bool {
	return handleMay(d.By) && d.Counter > 0 && d.Counter <= 1099511627776
}

func spanMay(s api.Span) bool {
	if s.Many <= 0 || s.Many > 64 {
		return false
	}
	for i := range s.Many {
		if !idMay(id(s.From.By, s.From.Counter+i)) {
			return false
		}
	}
	return true
}

func runeMay(n int32) bool {
	return n == -1 || n >= 0 && n <= 0xd7ff || n >= 0xe000 && n <= 0x10ffff
}

func mayBe(o api.Op) bool {
	if !handleMay(o.By) || o.Serial < 1 || o.Serial > 16777215 || !spanMay(o.Span) {
		return false
	}
	after := o.After != api.Id{}
	to := o.To != api.Label{}
	if o.Kind == 2 {
		return !after && !to && len(o.Runes) == 0
	}
	if o.Kind == 3 {
		return !after && int(o.To.Level) <= 15 && len(o.Runes) == 0
	}
	for _, n := range o.Runes {
		if !runeMay(n) {
			return false
		}
	}
	return o.Kind == 1 && o.Span.From.By == o.By && (!after || idMay(o.After)) && len(o.Runes) == o.Span.Many && !to
}

// digitsOf has a number's bytes, so many, told by division.
func digitsOf(n, many int) []byte {
	b := make([]byte, many)
	for i := many - 1; i >= 0; i-- {
		b[i] = byte(n % 256)
		n /= 256
	}
	return b
}

// six and thirteen have the bytes of a handle and of an id, of whatever values that have room.
func six(h api.Handle) []byte {
	return slices.Concat([]byte{h.Label.Level}, digitsOf(int(h.Label.Cats), 4), []byte{h.Num})
}

func thirteen(d api.Id) []byte {
	return append(six(d.By), digitsOf(d.Counter, 7)...)
}

// written has an operation's bytes, told another way, and those that one would have that may not be, as far as its fields have room.
func written(o api.Op) []byte {
	b := slices.Concat([]byte{o.Kind}, six(o.By), digitsOf(o.Serial, 3), thirteen(o.Span.From), []byte{byte(o.Span.Many)})
	if o.Kind == 1 {
		b = append(b, thirteen(o.After)...)
		for _, n := range o.Runes {
			b = append(b, digitsOf(int(uint32(n)), 4)...)
		}
	}
	if o.Kind == 3 {
		b = append(b, o.To.Level)
		b = append(b, digitsOf(int(o.To.Cats), 4)...)
	}
	return b
}

// hasRoom tells whether what an operation has can be told by bytes at all, just so.
func hasRoom(o api.Op) bool {
	in := func(n, end int) bool { return n >= 0 && n < end }
	return in(o.Serial, 1<<24) && in(o.Span.From.Counter, 1<<56) && in(o.Span.Many, 256) && in(o.After.Counter, 1<<56) &&
		(o.Kind == 1 || o.After == api.Id{} && len(o.Runes) == 0) && (o.Kind == 3 || o.To == api.Label{}) && (o.Kind != 1 || len(o.Runes) == o.Span.Many)
}

// numberAt is the number whose bytes stand from a place on.
func numberAt(b []byte, at, many int) int {
	n := 0
	for i := range many {
		n = n*256 + int(b[at+i])
	}
	return n
}

func handleAt(b []byte, at int) api.Handle {
	return handle(b[at], uint32(numberAt(b, at+1, 4)), b[at+5])
}

// toldBy is the operation that b begins with, by places counted from its beginning, and how many bytes it has; 0, if there is none that may be.
func toldBy(b []byte) (api.Op, int) {
	if len(b) < 24 {
		return api.Op{}, 0
	}
	o := api.Op{Kind: b[0], By: handleAt(b, 1), Serial: numberAt(b, 7, 3), Span: span(id(handleAt(b, 10), numberAt(b, 16, 7)), int(b[23]))}
	size := 24
	if o.Kind == 1 {
		if size = 37 + 4*o.Span.Many; len(b) < size {
			return api.Op{}, 0
		}
		o.After = id(handleAt(b, 24), numberAt(b, 30, 7))
		for i := range o.Span.Many {
			o.Runes = append(o.Runes, int32(uint32(numberAt(b, 37+4*i, 4))))
		}
	}
	if o.Kind == 3 {
		if size = 29; len(b) < size {
			return api.Op{}, 0
		}
		o.To = api.Label{Level: b[24], Cats: uint32(numberAt(b, 25, 4))}
	}
	if !mayBe(o) {
		return api.Op{}, 0
	}
	return o, size
}

// equal tells whether two operations are the same, field by field.
func equal(a, b api.Op) bool {
	if len(a.Runes) != len(b.Runes) {
		return false
	}
	for i := range a.Runes {
		if a.Runes[i] != b.Runes[i] {
			return false
		}
	}
	return a.Kind == b.Kind && a.By == b.By && a.Serial == b.Serial && a.Span == b.Span && a.After == b.After && a.To == b.To
}

// nothing tells whether an operation is the zero value, with no runes.
func nothing(o api.Op) bool {
	return equal(o, api.Op{}) && o.Runes == nil
}

func wantPut(t *testing.T, o api.Op) {
	t.Helper()
	if b, e := Put(o); e != api.OK || !bytes.Equal(b, written(o)) {
		t.Errorf("Put(%v) is %v, %d", o, b, e)
	}
}

func refusePut(t *testing.T, o api.Op) {
	t.Helper()
	if b, e := Put(o); e != api.ErrBad || b != nil {
		t.Errorf("Put(%v) is %v, %d, not an error", o, b, e)
	}
}

func wantGet(t *testing.T, b []byte, want api.Op, size int) {
	t.Helper()
	if o, n, e := Get(b); e != api.OK || n != size || !equal(o, want) {
		t.Errorf("Get(%v) is %v, %d, %d, not %v, %d", b, o, n, e, want, size)
	}
}

func refuse(t *testing.T, b []byte) {
	t.Helper()
	if o, n, e := Get(b); e != api.ErrBad || n != 0 || !nothing(o) {
		t.Errorf("Get(%v) is %v, %d, %d, not an error", b, o, n, e)
	}
}

// asTold asks Get for what toldBy tells of the same bytes, and tells whether that is an operation.
func asTold(t *testing.T, b []byte) bool {
	t.Helper()
	o, size := toldBy(b)
	if size == 0 {
		refuse(t, b)
		return false
	}
	wantGet(t, b, o, size)
	return true
}

func wantCheck(t *testing.T, o api.Op, want api.Errno) {
	t.Helper()
	if e := Check(o); e != want {
		t.Errorf("Check(%v) is %d, not %d", o, e, want)
	}
}

// P9.1 Check: operations of each kind that may be, with each field's edges.
func TestCheckGoodOnes(t *testing.T) {
	for _, o := range goodOnes() {
		if !mayBe(o) {
			t.Fatalf("%v is not to be among the good ones", o)
		}
		wantCheck(t, o, api.OK)
	}
}

// P9.1 Check: operations that may not be, each by one thing.
func TestCheckWrongOnes(t *testing.T) {
	for _, o := range wrongOnes() {
		if mayBe(o) {
			t.Fatalf("%v is not to be among the wrong ones", o)
		}
		wantCheck(t, o, api.ErrBad)
	}
}

// P9.1 Check: each kind, with the fields of each of the three. What a delete has is a raise's, too: to the least label.
func TestCheckEachKind(t *testing.T) {
	for kind := range 256 {
		for _, o := range []api.Op{insert(2), cut(2), raise(2)} {
			want := api.ErrBad
			if kind == int(o.Kind) || kind == 3 && o.Kind == 2 {
				want = api.OK
			}
			o.Kind = uint8(kind)
			wantCheck(t, o, want)
		}
	}
}

// P9.1 Check: a delete's and a raise's ids may be anybody's, one's own among them; a raise may go to each label, also to one that is below.
func TestCheckAnybodysIds(t *testing.T) {
	for _, by := range handles() {
		for _, whose := range handles() {
			for _, o := range []api.Op{cut(3), raise(3)} {
				o.By, o.Span.From.By = by, whose
				wantCheck(t, o, api.OK)
			}
			o := insert(3)
			o.By, o.Span.From.By = by, whose
			if by == whose {
				wantCheck(t, o, api.OK)
			} else {
				wantCheck(t, o, api.ErrBad)
			}
		}
		for level := range 256 {
			o := raise(1)
			o.By, o.To.Level = by, uint8(level)
			if level <= 15 {
				wantCheck(t, o, api.OK)
			} else {
				wantCheck(t, o, api.ErrBad)
			}
		}
	}
}

// P9.1 Check: a raise may go to the least label; runes that are empty are none, of a delete and a raise, and of an insert too few.
func TestCheckEmpty(t *testing.T) {
	o := raise(1)
	o.To = api.Label{}
	wantCheck(t, o, api.OK)
	o.Kind = 2
	wantCheck(t, o, api.OK)
	o.Runes = []int32{}
	wantCheck(t, o, api.OK)
	o.Kind = 3
	wantCheck(t, o, api.OK)
	o.Kind = 1
	wantCheck(t, o, api.ErrBad)
}

// P9.1 Check: an insert has as many runes as its span, for each number of them.
func TestCheckAsManyRunes(t *testing.T) {
	for many := range 70 {
		for has := range 70 {
			o := insert(many)
			o.Runes = letters(has)
			want := api.ErrBad
			if many == has && many >= 1 && many <= 64 {
				want = api.OK
			}
			wantCheck(t, o, want)
		}
	}
}

// mixedOp has an operation whose fields are drawn: one that may be with a few things turned, or anything at all.
func mixedOp(r *rand.Rand) api.Op {
	pool := ofEachKind()
	o := Twin(pool[r.Intn(len(pool))])
	pick := func(l []int) int { return l[r.Intn(len(l))] }
	anyHandle := func() api.Handle {
		if r.Intn(3) == 0 {
			return wrongHandles()[r.Intn(len(wrongHandles()))]
		}
		return handles()[r.Intn(len(handles()))]
	}
	for range r.Intn(4) {
		switch r.Intn(9) {
		case 0:
			o.Kind = uint8(pick([]int{0, 1, 1, 2, 2, 3, 3, 4, 255}))
		case 1:
			o.By = anyHandle()
		case 2:
			o.Serial = pick(append(serials(), wrongSerials()...))
		case 3:
			o.Span.From.By = anyHandle()
		case 4:
			o.Span.From.Counter = pick(append(counters(), wrongCounters()...))
		case 5:
			o.Span.Many = pick(append([]int{1, 2, 3, 63, 64}, wrongManies()...))
		case 6:
			o.After = []api.Id{{}, o.Span.From, id(anyHandle(), pick(append(counters(), wrongCounters()...)))}[r.Intn(3)]
		case 7:
			o.To = []api.Label{{}, o.By.Label, anyHandle().Label}[r.Intn(3)]
		default:
			o.Runes = letters(pick([]int{0, 1, 2, 3, 63, 64, 65}))
			if len(o.Runes) > 0 && r.Intn(2) == 0 {
				o.Runes[r.Intn(len(o.Runes))] = append(wrongRunes(), -1, 0, 0x10ffff)[r.Intn(len(wrongRunes())+3)]
			}
		}
	}
	if o.Kind == 1 && r.Intn(2) == 0 {
		o.Span.From.By = o.By
	}
	return o
}

// P9.1, P9.2, P9.4, P1: operations at random, also those with several things wrong.
func TestAtRandom(t *testing.T) {
	r := rand.New(rand.NewSource(9))
	good := 0
	for range 20000 {
		o := mixedOp(r)
		if Plain(o) != !slices.Contains(o.Runes, -1) || !Same(o, Twin(o)) {
			t.Errorf("Plain, Same or Twin of %v", o)
		}
		if !mayBe(o) {
			wantCheck(t, o, api.ErrBad)
			refusePut(t, o)
			if hasRoom(o) {
				refuse(t, written(o))
			}
			continue
		}
		good++
		wantCheck(t, o, api.OK)
		wantPut(t, o)
		b := written(o)
		wantGet(t, b, o, len(b))
		b[r.Intn(len(b))] ^= byte(1 << r.Intn(8))
		asTold(t, b)
	}
	if good < 4000 || good > 16000 {
		t.Errorf("%d may be", good)
	}
}

// P9.1 Plain: rows with no blank, with one at each place, and with blanks alone.
func TestPlain(t *testing.T) {
	for many := 1; many <= 64; many++ {
		o := insert(many)
		if !Plain(o) {
			t.Errorf("%v is not plain", o)
		}
		for at := range many {
			o.Runes = with(letters(many), at, -1)
			if Plain(o) {
				t.Errorf("%v is plain", o)
			}
			for _, other := range []int32{0, 1, -2, 0xffff, 0x10ffff, math.MinInt32, math.MaxInt32} {
				o.Runes[at] = other
				if !Plain(o) {
					t.Errorf("%v is not plain", o)
				}
			}
		}
		o.Runes = slices.Repeat([]int32{-1}, many)
		if Plain(o) {
			t.Errorf("%v is plain", o)
		}
	}
}

// P9.1 Plain: of operations that have no runes, and of those that may not be.
func TestPlainOfAny(t *testing.T) {
	for _, o := range slices.Concat(goodOnes(), wrongOnes()) {
		blanks := 0
		for _, n := range o.Runes {
			if n == -1 {
				blanks++
			}
		}
		if Plain(o) != (blanks == 0) {
			t.Errorf("Plain(%v) is %v", o, Plain(o))
		}
	}
	if !Plain(api.Op{}) || !Plain(api.Op{Runes: []int32{}}) || Plain(api.Op{Runes: []int32{-1}}) || Plain(api.Op{Kind: 255, Runes: with(letters(5000), 4999, -1)}) {
		t.Error("Plain of what is nothing else")
	}
	for _, o := range []api.Op{cut(1), raise(1)} {
		o.Runes = []int32{97, -1}
		if !Plain(cut(1)) || !Plain(raise(1)) || Plain(o) {
			t.Errorf("Plain(%v)", o)
		}
	}
}

// P9.2 Size: each kind with each number of elements.
func TestSize(t *testing.T) {
	for kind := range 256 {
		for many := -300; many <= 600; many++ {
			want := 0
			if many >= 1 && many <= 64 {
				switch kind {
				case 1:
					want = 37 + 4*many
				case 2:
					want = 24
				case 3:
					want = 29
				}
			}
			if got := Size(uint8(kind), many); got != want {
				t.Errorf("Size(%d, %d) is %d, not %d", kind, many, got, want)
			}
		}
		for _, many := range wrongManies() {
			if got := Size(uint8(kind), many); got != 0 {
				t.Errorf("Size(%d, %d) is %d, not 0", kind, many, got)
			}
		}
	}
}

// P9.2 Size: the edges, written out.
func TestSizeEdges(t *testing.T) {
	for _, x := range []struct {
		kind       uint8
		many, want int
	}{
		{1, -1, 0}, {1, 0, 0}, {1, 1, 41}, {1, 2, 45}, {1, 63, 289}, {1, 64, 293}, {1, 65, 0}, {1, math.MaxInt, 0}, {1, math.MinInt, 0},
		{2, -1, 0}, {2, 0, 0}, {2, 1, 24}, {2, 64, 24}, {2, 65, 0}, {2, math.MaxInt, 0}, {2, math.MinInt, 0},
		{3, -1, 0}, {3, 0, 0}, {3, 1, 29}, {3, 64, 29}, {3, 65, 0}, {3, math.MaxInt, 0}, {3, math.MinInt, 0},
		{0, 1, 0}, {4, 1, 0}, {255, 1, 0}, {0, 64, 0}, {4, 64, 0}, {255, 64, 0},
	} {
		if got := Size(x.kind, x.many); got != x.want {
			t.Errorf("Size(%d, %d) is %d, not %d", x.kind, x.many, got, x.want)
		}
	}
}

// P9.2 Put: each kind, byte by byte.
func TestPutBytes(t *testing.T) {
	h := handle(15, 0x01020304, 7)
	for _, x := range []struct {
		o api.Op
		b []byte
	}{
		{api.Op{Kind: 1, By: h, Serial: 0x0a0b0c, Span: span(id(h, 0x1112131415), 2), After: id(handle(2, 0xfedcba98, 3), 1<<40), Runes: []int32{0x10ffff, -1}}, []byte{
			1,
			15, 1, 2, 3, 4, 7,
			0x0a, 0x0b, 0x0c,
			15, 1, 2, 3, 4, 7, 0, 0, 0x11, 0x12, 0x13, 0x14, 0x15, 2,
			2, 0xfe, 0xdc, 0xba, 0x98, 3, 0, 1, 0, 0, 0, 0, 0,
			0, 0x10, 0xff, 0xff, 0xff, 0xff, 0xff, 0xff}},
		{api.Op{Kind: 1, By: h, Serial: 1<<24 - 1, Span: span(id(h, 1<<40), 1), Runes: []int32{97}}, []byte{
			1,
			15, 1, 2, 3, 4, 7,
			0xff, 0xff, 0xff,
			15, 1, 2, 3, 4, 7, 0, 1, 0, 0, 0, 0, 0, 1,
			0, 0, 0, 0, 0, 0, 0, 0, 0, 0, 0, 0, 0,
			0, 0, 0, 97}},
		{api.Op{Kind: 2, By: h, Serial: 1, Span: span(id(handle(0, 0x80000000, 0), 0x0807060504), 64)}, []byte{
			2,
			15, 1, 2, 3, 4, 7,
			0, 0, 1,
			0, 0x80, 0, 0, 0, 0, 0, 0, 8, 7, 6, 5, 4, 64}},
		{api.Op{Kind: 3, By: h, Serial: 256, Span: span(id(handle(1, 1, 2), 1), 3), To: api.Label{Level: 14, Cats: 0x21222324}}, []byte{
			3,
			15, 1, 2, 3, 4, 7,
			0, 1, 0,
			1, 0, 0, 0, 1, 2, 0, 0, 0, 0, 0, 0, 1, 3,
			14, 0x21, 0x22, 0x23, 0x24}},
		{api.Op{Kind: 3, By: h, Serial: 256, Span: span(id(handle(1, 1, 2), 1), 3)}, []byte{
			3,
			15, 1, 2, 3, 4, 7,
			0, 1, 0,
			1, 0, 0, 0, 1, 2, 0, 0, 0, 0, 0, 0, 1, 3,
			0, 0, 0, 0, 0}},
	} {
		if b, e := Put(x.o); e != api.OK || !bytes.Equal(b, x.b) {
			t.Errorf("Put(%v) is %v, %d", x.o, b, e)
		}
		wantGet(t, x.b, x.o, len(x.b))
	}
}

// P9.2 Put, Get: all operations that may be, with nothing behind, and with something.
func TestPutAndGet(t *testing.T) {
	for _, o := range goodOnes() {
		b := written(o)
		wantPut(t, o)
		wantGet(t, b, o, len(b))
		for _, more := range [][]byte{{0}, {255}, {1, 2, 3}, b, make([]byte, 300), bytes.Repeat([]byte{255}, 300), written(insert(64))} {
			wantGet(t, slices.Concat(b, more), o, len(b))
		}
	}
}

// P9.2 Put: Check's error, and no bytes beside it.
func TestPutWrongOnes(t *testing.T) {
	for _, o := range wrongOnes() {
		refusePut(t, o)
	}
}

// P9.2 Get: no bytes at all, and too few to be anything.
func TestGetNothing(t *testing.T) {
	refuse(t, nil)
	refuse(t, []byte{})
	for many := 1; many <= 400; many++ {
		refuse(t, make([]byte, many))
		refuse(t, bytes.Repeat([]byte{255}, many))
	}
	for first := range 256 {
		for many := range 24 {
			refuse(t, append([]byte{byte(first)}, make([]byte, many)...))
		}
	}
}

// P9.2 Get: each operation's bytes with some taken away at the end, whether they lie behind or not.
func TestGetCutShort(t *testing.T) {
	for _, o := range goodOnes() {
		b := written(o)
		refuse(t, b[:len(b)-1])
		refuse(t, bytes.Clone(b[:len(b)-1]))
	}
	for _, o := range someGoodOnes() {
		b := written(o)
		for many := range b {
			refuse(t, b[:many])
			refuse(t, b[:many:many])
		}
		asTold(t, b[1:])
	}
}

// P9.2 Get: each byte turned to each other one.
func TestGetOneByteTurned(t *testing.T) {
	beginning := insert(1)
	beginning.After = api.Id{}
	ends := insert(2)
	ends.Span.From.Counter = 1<<40 - 1
	for _, o := range []api.Op{insert(1), insert(2), beginning, ends, cut(1), cut(64), raise(1), raise(64)} {
		good, wrong := 0, 0
		b := written(o)
		for at := range b {
			for turn := 1; turn < 256; turn++ {
				b[at] ^= byte(turn)
				if asTold(t, b) {
					good++
				} else {
					wrong++
				}
				if again, _, e := Get(b); e == api.OK && equal(again, o) {
					t.Errorf("at %d turned by %d, %v is the same", at, turn, o)
				}
				b[at] ^= byte(turn)
			}
		}
		if good == 0 || wrong == 0 {
			t.Errorf("%v: %d may be, %d may not", o, good, wrong)
		}
	}
}

// P9.2 Get: one bit turned, in operations of all kinds and lengths.
func TestGetOneBitTurned(t *testing.T) {
	for _, o := range someGoodOnes() {
		b := written(o)
		for at := range b {
			for bit := range 8 {
				b[at] ^= 1 << bit
				asTold(t, b)
				b[at] ^= 1 << bit
			}
		}
	}
}

// P9.2 Get: bytes that would be an operation's if it might be, with nothing behind, and with enough to go on.
func TestGetWrongOnes(t *testing.T) {
	refused := 0
	for _, o := range wrongOnes() {
		if hasRoom(o) {
			refused++
			refuse(t, written(o))
			refuse(t, append(written(o), make([]byte, 300)...))
			refuse(t, append(written(o), written(insert(64))...))
		}
	}
	if refused < 1000 {
		t.Errorf("%d have bytes", refused)
	}
}

// P9.2 Get: each part of the bytes, with what it may not be, written out by its place.
func TestGetEachPart(t *testing.T) {
	turned := func(o api.Op, at int, with ...byte) []byte {
		b := append(written(o), make([]byte, 300)...)
		copy(b[at:], with)
		return b
	}
	for _, o := range ofEachKind() {
		for _, b := range [][]byte{
			turned(o, 0, 0), turned(o, 0, 4), turned(o, 0, 255),
			turned(o, 1, 16), turned(o, 1, 255), turned(o, 6, 8), turned(o, 6, 255),
			turned(o, 7, 0, 0, 0),
			turned(o, 10, 16), turned(o, 10, 255), turned(o, 15, 8), turned(o, 15, 255),
			turned(o, 16, 0, 0, 0, 0, 0, 0, 0), turned(o, 16, 0, 1, 0, 0, 0, 0, 1), turned(o, 16, 1, 0, 0, 0, 0, 0, 9), turned(o, 16, 255, 255, 255, 255, 255, 255, 255),
			turned(o, 23, 0), turned(o, 23, 65), turned(o, 23, 128), turned(o, 23, 255),
			turned(o, 16, 0, 1, 0, 0, 0, 0, 0, 2),
		} {
			refuse(t, b)
		}
	}
	for _, many := range []int{1, 2, 64} {
		o := insert(many)
		wantGet(t, turned(o, 24, make([]byte, 13)...), withAfter(o, api.Id{}), 37+4*many)
		wantGet(t, turned(o, 24, 15, 0, 0, 0, 0, 7, 0, 1, 0, 0, 0, 0, 0), withAfter(o, id(handle(15, 0, 7), 1<<40)), 37+4*many)
		for _, b := range [][]byte{
			turned(o, 10, 2), turned(o, 14, 2), turned(o, 15, 3), turned(o, 1, 2), turned(o, 5, 2), turned(o, 6, 3),
			turned(o, 24, 16), turned(o, 29, 8), turned(o, 30, 0, 0, 0, 0, 0, 0, 0), turned(o, 30, 0, 1, 0, 0, 0, 0, 1), turned(o, 30, 1),
			turned(o, 24, 0, 0, 0, 0, 0, 1, 0, 0, 0, 0, 0, 0, 0), turned(o, 24, 0, 0, 0, 0, 1, 0, 0, 0, 0, 0, 0, 0, 0), turned(o, 24, 1, 0, 0, 0, 0, 0, 0, 0, 0, 0, 0, 0, 0),
			turned(o, 24, 16, 0, 0, 0, 0, 0, 0, 0, 0, 0, 0, 0, 0), turned(o, 24, 0, 0, 0, 0, 0, 8, 0, 0, 0, 0, 0, 0, 0), turned(o, 24, 16, 0, 0, 0, 0, 0, 0, 0, 0, 0, 0, 0, 1),
			turned(o, 37, 0xff, 0xff, 0xff, 0xfe), turned(o, 37, 0, 0, 0xd8, 0), turned(o, 37, 0, 0, 0xdf, 0xff), turned(o, 37, 0, 0x11, 0, 0), turned(o, 37, 1, 0, 0, 97), turned(o, 37, 0x80, 0, 0, 97),
			turned(o, 33+4*many, 0xff, 0xff, 0xff, 0xfe), turned(o, 33+4*many, 0, 0, 0xd8, 0), turned(o, 33+4*many, 0, 0x11, 0, 0),
		} {
			refuse(t, b)
		}
		o = raise(many)
		for _, level := range []byte{16, 17, 128, 255} {
			refuse(t, turned(o, 24, level))
		}
		o.To = api.Label{Level: 15, Cats: 0xffffffff}
		wantGet(t, turned(raise(many), 24, 15, 255, 255, 255, 255), o, 29)
	}
}

// P9.2 Get: what may not be is not read as if it were zero, though the bytes of just that operation stand behind.
func TestGetWrongWithRightBehind(t *testing.T) {
	for _, right := range []api.Op{cut(3), raise(3)} {
		right.By = api.Handle{}
		for _, h := range wrongHandles() {
			wrong := right
			wrong.By = h
			refuse(t, append(written(wrong), written(right)...))
		}
	}
	right := withAfter(insert(3), api.Id{})
	for _, h := range wrongHandles() {
		refuse(t, append(written(withAfter(right, id(h, 5))), written(right)...))
	}
	refuse(t, append(written(withAfter(right, id(right.By, 0))), written(right)...))
	refuse(t, append([]byte{0}, written(right)...))
}

// withAfter has an operation with another After.
func withAfter(o api.Op, after api.Id) api.Op {
	o.After = after
	return o
}

// P9.2 Get: the bytes of one kind with another one's in front are read as that one's, if they may be.
func TestGetOtherKind(t *testing.T) {
	for _, o := range ofEachKind() {
		for kind := range 256 {
			b := written(o)
			b[0] = byte(kind)
			asTold(t, b)
			asTold(t, append(b, make([]byte, 300)...))
		}
	}
	b := written(raise(5))
	b[0] = 2
	o := raise(5)
	o.Kind, o.To = 2, api.Label{}
	wantGet(t, b, o, 24)
}

// P9.2, P1, W7: bytes of any kind end in an answer, the one that is to be.
func TestGetForged(t *testing.T) {
	r := rand.New(rand.NewSource(92))
	good := 0
	for range 60000 {
		b := make([]byte, r.Intn(400))
		r.Read(b)
		asTold(t, b)
		if len(b) < 40 {
			continue
		}
		// With the heads' small numbers in place, more of them are an operation's.
		b[0], b[1], b[6], b[10], b[15], b[16], b[17], b[23] = byte(1+r.Intn(3)), byte(r.Intn(17)), byte(r.Intn(9)), byte(r.Intn(17)), byte(r.Intn(9)), 0, 0, byte(r.Intn(66))
		if b[0] == 1 {
			copy(b[10:], b[1:7])
			b[24], b[29], b[30], b[31] = byte(r.Intn(17)), byte(r.Intn(9)), 0, 0
			for at := 37; at+4 <= len(b); at += 4 {
				b[at], b[at+1] = 0, byte(r.Intn(16))
			}
		}
		if asTold(t, b) {
			good++
		}
	}
	if good < 10000 {
		t.Errorf("%d may be", good)
	}
}

// turnedFields has o and, for each field, one that differs in it alone.
func turnedFields(o api.Op) []api.Op {
	l := []api.Op{o}
	for _, do := range []func(o *api.Op){
		func(o *api.Op) { o.Kind ^= 1 },
		func(o *api.Op) { o.Kind ^= 128 },
		func(o *api.Op) { o.By.Label.Level++ },
		func(o *api.Op) { o.By.Label.Cats ^= 1 << 31 },
		func(o *api.Op) { o.By.Num++ },
		func(o *api.Op) { o.Serial++ },
		func(o *api.Op) { o.Serial += 1 << 32 },
		func(o *api.Op) { o.Span.From.By.Label.Level++ },
		func(o *api.Op) { o.Span.From.By.Label.Cats ^= 1 },
		func(o *api.Op) { o.Span.From.By.Num++ },
		func(o *api.Op) { o.Span.From.Counter++ },
		func(o *api.Op) { o.Span.From.Counter += 1 << 56 },
		func(o *api.Op) { o.Span.Many++ },
		func(o *api.Op) { o.Span.Many += 256 },
		func(o *api.Op) { o.After.By.Label.Level++ },
		func(o *api.Op) { o.After.By.Label.Cats ^= 1 << 8 },
		func(o *api.Op) { o.After.By.Num++ },
		func(o *api.Op) { o.After.Counter-- },
		func(o *api.Op) { o.To.Level++ },
		func(o *api.Op) { o.To.Cats ^= 1 },
		func(o *api.Op) { o.Runes = append(slices.Clone(o.Runes), 97) },
		func(o *api.Op) { o.Runes = append(slices.Clone(o.Runes), -1) },
		func(o *api.Op) { o.Runes = append(slices.Clone(o.Runes), 0) },
	} {
		other := o
		do(&other)
		l = append(l, other)
	}
	for at := range o.Runes {
		l = append(l, o, o, o)
		few := l[len(l)-3:]
		few[0].Runes = with(o.Runes, at, -1)
		few[1].Runes = with(o.Runes, at, o.Runes[at]^1<<30)
		few[2].Runes = slices.Delete(slices.Clone(o.Runes), at, at+1)
	}
	return l
}

// P9.1 Same: two that differ in each field alone, and of each with itself, whether they may be or not.
func TestSame(t *testing.T) {
	for _, o := range append(ofEachKind(), api.Op{}, api.Op{Kind: 255, Serial: math.MinInt, Runes: []int32{-2, 5}}, api.Op{Kind: 2, By: handle(16, 1, 8), Span: span(id(handle(1, 1, 2), -1), 65), After: id(handle(255, 0, 255), math.MinInt+1)}) {
		l := turnedFields(o)
		for i, a := range l {
			for k, b := range l {
				if Same(a, b) != (i == k) {
					t.Errorf("Same(%v, %v) is %v", a, b, Same(a, b))
				}
			}
			a.Runes = slices.Clone(a.Runes)
			if !Same(a, l[i]) || !Same(l[i], a) {
				t.Errorf("%v is not the same in other memory", a)
			}
		}
	}
}

// P9.1 Same: runes that are nil and that are empty are the same; those that change places are not, and no room behind the length counts.
func TestSameRunes(t *testing.T) {
	for _, o := range []api.Op{cut(1), raise(1), {}, {Kind: 1}} {
		a, b, c := o, o, o
		a.Runes, b.Runes, c.Runes = nil, []int32{}, letters(5)[:0]
		for _, x := range []api.Op{a, b, c} {
			for _, y := range []api.Op{a, b, c} {
				if !Same(x, y) {
					t.Errorf("%v: no runes are not the same as none", o)
				}
			}
		}
		a.Runes = []int32{0}
		if Same(a, b) || Same(b, a) {
			t.Errorf("%v: one rune is the same as none", o)
		}
	}
	a, b := insert(3), insert(3)
	a.Runes, b.Runes = []int32{97, 98, 99}, []int32{97, 99, 98}
	if Same(a, b) {
		t.Error("runes that change places are the same")
	}
	a.Runes, b.Runes = []int32{97, 98, 99, 1}[:3], []int32{97, 98, 99, 2}[:3]
	if !Same(a, b) {
		t.Error("what lies behind the runes counts")
	}
}

// P9.1 Twin: of any one, whether it may be or not.
func TestTwin(t *testing.T) {
	l := slices.Concat(goodOnes(), wrongOnes())
	for _, o := range ofEachKind() {
		l = append(l, turnedFields(o)...)
	}
	for _, o := range append(l, api.Op{Runes: []int32{}}, api.Op{Kind: 9, Runes: letters(5000)}) {
		if twin := Twin(o); !equal(twin, o) || !Same(twin, o) {
			t.Errorf("Twin(%v) is %v", o, twin)
		}
	}
}

// guarded has an operation whose runes lie in the middle of others, and all of these.
func guarded(o api.Op) (api.Op, []int32) {
	all := slices.Concat([]int32{7, 7}, o.Runes, []int32{7, 7, 7, 7})
	o.Runes = all[2 : 2+len(o.Runes)]
	return o, all
}

// P9.3: what is handed in is only read, and so is what lies behind its length, whatever the answer.
func TestOnlyRead(t *testing.T) {
	for _, o := range slices.Concat(goodOnes(), wrongOnes()) {
		given, all := guarded(o)
		other, others := guarded(o)
		kept := slices.Clone(all)
		Check(given)
		Plain(given)
		b, _ := Put(given)
		spoil(b)
		Same(given, other)
		spoilRunes(Twin(given).Runes)
		if !slices.Equal(all, kept) || !slices.Equal(others, kept) || !equal(given, o) {
			t.Fatalf("%v was turned", o)
		}
		if !hasRoom(o) {
			continue
		}
		bs := append(written(o), 9, 9, 9, 9, 9, 9, 9, 9)
		keptBs := bytes.Clone(bs)
		for _, handed := range [][]byte{bs, bs[:len(bs)-8], bs[: len(bs)-8 : len(bs)-8], bs[:len(bs)-9]} {
			got, _, _ := Get(handed)
			spoilRunes(got.Runes)
		}
		if !bytes.Equal(bs, keptBs) {
			t.Fatalf("the bytes of %v were turned", o)
		}
	}
}

// spoil and spoilRunes write over all of an answer, and over the room behind it.
func spoil(b []byte) {
	for i := range b[:cap(b)] {
		b[:cap(b)][i] ^= 0xa5
	}
}

func spoilRunes(l []int32) {
	for i := range l[:cap(l)] {
		l[:cap(l)][i] ^= 0x15
	}
}

// P9.3: what is written into an answer, or into what was handed in, leaves no trace in any other.
func TestNewMemory(t *testing.T) {
	for _, o := range slices.Concat(someGoodOnes(), []api.Op{{Kind: 9, Runes: letters(70)}, {Runes: []int32{-2}}}) {
		given := o
		given.Runes = slices.Clone(o.Runes)
		one, two := Twin(given), Twin(given)
		spoilRunes(one.Runes)
		if !equal(given, o) || !equal(two, o) {
			t.Fatalf("a twin of %v was turned by what was written into another one", o)
		}
		spoilRunes(given.Runes)
		if !equal(two, o) {
			t.Fatalf("the twin of %v was turned by what was written into that", o)
		}
		if !mayBe(o) {
			continue
		}
		given.Runes = slices.Clone(o.Runes)
		first, _ := Put(given)
		second, _ := Put(given)
		spoil(first)
		spoilRunes(given.Runes)
		if !bytes.Equal(second, written(o)) {
			t.Fatalf("the bytes of %v were turned", o)
		}
		got, _, _ := Get(second)
		again, _, _ := Get(second)
		spoilRunes(got.Runes)
		if !bytes.Equal(second, written(o)) || !equal(again, o) {
			t.Fatalf("%v was turned by what was written into what was got", o)
		}
		spoil(second)
		if !equal(again, o) {
			t.Fatalf("%v was turned by what was written into its bytes", o)
		}
	}
}

// P9.3, P1: nothing is kept: what comes between two calls turns no answer.
func TestNothingIsKept(t *testing.T) {
	l := someGoodOnes()
	for i, o := range l {
		other := l[len(l)-1-i]
		wantPut(t, o)
		b, _ := Put(other)
		got, _, _ := Get(b)
		refusePut(t, api.Op{})
		refuse(t, b[:len(b)-1])
		spoil(b)
		spoilRunes(got.Runes)
		Size(4, 1)
		wantPut(t, o)
		wantGet(t, written(o), o, len(written(o)))
	}
}

// P9.4: what is put is got, whatever stands behind, and several stand one behind the other.
func TestPutIsGot(t *testing.T) {
	var all []byte
	l := someGoodOnes()
	for _, o := range l {
		b, e := Put(o)
		if e != api.OK {
			t.Fatalf("Put(%v): %d", o, e)
		}
		wantGet(t, b, o, len(b))
		for behind := range 256 {
			wantGet(t, append(bytes.Clone(b), byte(behind)), o, len(b))
		}
		all = append(all, b...)
	}
	for _, o := range l {
		wantGet(t, all, o, Size(o.Kind, o.Span.Many))
		all = all[Size(o.Kind, o.Span.Many):]
	}
	if len(all) != 0 {
		t.Errorf("%d bytes are left", len(all))
	}
}

// P9.4: what is got is put as just these bytes; so no two operations have one's bytes.
func TestGotIsPut(t *testing.T) {
	from := map[string]api.Op{}
	for _, o := range goodOnes() {
		b := append(written(o), 7, 7, 7)
		got, size, e := Get(b)
		again, f := Put(got)
		if e != api.OK || f != api.OK || !bytes.Equal(again, b[:size]) {
			t.Errorf("Get of the bytes of %v is %v, %d, %d, put as %v, %d", o, got, size, e, again, f)
		}
		if other, is := from[string(again)]; is && !equal(other, o) {
			t.Errorf("%v and %v have one's bytes", other, o)
		}
		from[string(again)] = o
	}
}

// P9.4: how many bytes there are hangs on the kind and the number of elements alone, and is what Size tells.
func TestAsManyBytes(t *testing.T) {
	seen := map[[2]int]int{}
	for _, o := range goodOnes() {
		b, e := Put(o)
		if e != api.OK || len(b) != Size(o.Kind, o.Span.Many) {
			t.Errorf("%v has %d bytes, not %d, %d", o, len(b), Size(o.Kind, o.Span.Many), e)
		}
		of := [2]int{int(o.Kind), o.Span.Many}
		if many, is := seen[of]; is && many != len(b) {
			t.Errorf("%v has %d bytes, another one %d", o, len(b), many)
		}
		seen[of] = len(b)
	}
	if len(seen) != 3*64 {
		t.Errorf("%d kinds and numbers were asked", len(seen))
	}
}

// W2, P9.4: of two operations that differ in runes alone, as many, be they blanks or not, the bytes differ in the runes' alone.
func TestRunesTellNothingElse(t *testing.T) {
	for _, many := range []int{1, 2, 5, 64} {
		plain, _ := Put(insert(many))
		for _, row := range rows(many) {
			o := insert(many)
			o.Runes = row
			b, e := Put(o)
			if e != api.OK || len(b) != len(plain) || !bytes.Equal(b[:37], plain[:37]) {
				t.Errorf("%v has the bytes %v, %d", o, b, e)
			}
		}
	}
}

// The chapter's table of examples, row by row.
func TestExamples(t *testing.T) {
	if Size(1, 2) != 45 || Size(2, 5) != 24 || Size(3, 64) != 29 || Size(1, 65) != 0 || Size(4, 1) != 0 {
		t.Error("Size")
	}
	h := handle(1, 1, 2)
	o := api.Op{Kind: api.OpDelete, By: h, Serial: 1, Span: span(id(h, 9), 2)}
	want := []byte{2, 1, 0, 0, 0, 1, 2, 0, 0, 1, 1, 0, 0, 0, 1, 2, 0, 0, 0, 0, 0, 0, 9, 2}
	if b, e := Put(o); e != api.OK || !bytes.Equal(b, want) {
		t.Errorf("Put(%v) is %v, %d", o, b, e)
	}
	others := api.Op{Kind: api.OpInsert, By: h, Serial: 1, Span: span(id(handle(1, 1, 3), 9), 1), Runes: []int32{97}}
	wantCheck(t, others, api.ErrBad)
	others.Span.From.By = h
	wantCheck(t, others, api.OK)
	o.Runes = []int32{97, 98}
	wantCheck(t, o, api.ErrBad)
	up := api.Op{Kind: api.OpRaise, By: h, Serial: 1, Span: span(id(h, 9), 2), To: api.Label{Level: 16}}
	wantCheck(t, up, api.ErrBad)
	up.To.Level = 15
	wantCheck(t, up, api.OK)
}
