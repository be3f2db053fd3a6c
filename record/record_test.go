package record

import (
	"bytes"
	"math"
	"math/rand"
	"slices"
	"testing"

	"blindstamp/api"
	"blindstamp/op"
)

// handle and id are short ways to make one.
func handle(level uint8, cats uint32, num uint8) api.Handle {
	return api.Handle{Label: api.Label{Level: level, Cats: cats}, Num: num}
}

func id(h api.Handle, counter int) api.Id {
	return api.Id{By: h, Counter: counter}
}

// letters has a row of so many runes, none a blank.
func letters(many int) []int32 {
	l := make([]int32, many)
	for i := range l {
		l[i] = int32(97 + i)
	}
	return l
}

// insert, cut and raise have an operation of each kind that may be, and is plain; hidden has an insert with a blank at a place.
func insert(many int) api.Op {
	h := handle(1, 1, 2)
	return api.Op{Kind: 1, By: h, Serial: 65538, Span: api.Span{From: id(h, 9), Many: many}, After: id(handle(1, 3, 3), 5), Runes: letters(many)}
}

func cut(many int) api.Op {
	h := handle(1, 1, 2)
	return api.Op{Kind: 2, By: h, Serial: 1, Span: api.Span{From: id(h, 9), Many: many}}
}

func raise(many int) api.Op {
	return api.Op{Kind: 3, By: handle(1, 1, 2), Serial: 1<<24 - 1, Span: api.Span{From: id(handle(0, 1, 1), 0x0102030405), Many: many}, To: api.Label{Level: 2, Cats: 0x01020304}}
}

func hidden(many, at int) api.Op {
	o := insert(many)
	o.Runes[at] = -1
	return o
}

// opening, done and given have a record of each kind.
func opening(h api.Handle, user int) api.Record {
	return api.Record{Kind: 1, User: user, Op: api.Op{By: h}}
}

func done(o api.Op, code api.Errno) api.Record {
	return api.Record{Kind: 2, Op: o, Code: code}
}

func given(user int, c api.Clear) api.Record {
	return api.Record{Kind: 3, Grant: api.Grant{User: user, Clear: c}}
}

func cleared(level uint8, cats uint32) api.Clear {
	return api.Clear{Label: api.Label{Level: level, Cats: cats}, Ok: true}
}

// handles and wrongHandles have handles that may be, and that may not.
func handles() []api.Handle {
	var l []api.Handle
	for _, level := range []uint8{0, 1, 14, 15} {
		for _, cats := range []uint32{0, 1, 0x01020304, 0x80000000, 0xffffffff} {
			l = append(l, handle(level, cats, 0), handle(level, cats, 3), handle(level, cats, 7))
		}
	}
	return l
}

func wrongHandles() []api.Handle {
	var l []api.Handle
	for _, cats := range []uint32{0, 1, 0xffffffff} {
		l = append(l, handle(16, cats, 0), handle(17, cats, 7), handle(128, cats, 1), handle(255, cats, 2), handle(0, cats, 8), handle(1, cats, 9), handle(15, cats, 128), handle(15, cats, 255), handle(16, cats, 8))
	}
	return l
}

// users and codes have numbers that may be; the wrong ones those that may not.
func users() []int {
	return []int{0, 1, 2, 3, 7, 8, 127, 128, 254, 255}
}

func wrongUsers() []int {
	return []int{-1, -2, -255, -256, 256, 257, 512, 1 << 16, 1 << 24, 1<<32 + 1, math.MaxInt - 1, math.MaxInt, math.MinInt, math.MinInt + 1}
}

func codes() []api.Errno {
	return []api.Errno{0, 1, 2, 8, 80, 90, 230, 231, 255, 256, 260, 0x0102, 1<<16 - 2, 1<<16 - 1}
}

func wrongCodes() []api.Errno {
	return []api.Errno{-1, -2, -256, -65535, -65536, 1 << 16, 1<<16 + 1, 1<<16 + 260, 1 << 24, 1<<32 + 1, math.MaxInt - 1, math.MaxInt, math.MinInt, math.MinInt + 1}
}

// clears and wrongClears have clearances that may be, and that may not.
func clears() []api.Clear {
	l := []api.Clear{{}}
	for _, level := range []uint8{0, 1, 14, 15} {
		for _, cats := range []uint32{0, 1, 0x01020304, 0x80000000, 0xffffffff} {
			l = append(l, cleared(level, cats))
		}
	}
	return l
}

func wrongClears() []api.Clear {
	var l []api.Clear
	for _, level := range []uint8{16, 17, 128, 255} {
		l = append(l, cleared(level, 0), cleared(level, 1), api.Clear{Label: api.Label{Level: level}})
	}
	return append(l, api.Clear{Label: api.Label{Level: 1}}, api.Clear{Label: api.Label{Cats: 1}}, api.Clear{Label: api.Label{Level: 15, Cats: 0xffffffff}}, api.Clear{Label: api.Label{Cats: 0x80000000}})
}

// plainOps, hiddenOps and wrongOps have operations that may be and are plain, that may be and have blanks, and that may not be.
func plainOps() []api.Op {
	beginning := insert(2)
	beginning.After = api.Id{}
	empty := cut(1)
	empty.Runes = []int32{}
	far := insert(3)
	far.Runes = []int32{0, 0xd7ff, 0x10ffff}
	l := []api.Op{beginning, empty, far}
	for many := 1; many <= 64; many++ {
		l = append(l, insert(many), cut(many), raise(many))
	}
	return l
}

func hiddenOps() []api.Op {
	all := insert(64)
	all.Runes = slices.Repeat([]int32{-1}, 64)
	return []api.Op{hidden(1, 0), hidden(2, 0), hidden(2, 1), hidden(19, 18), hidden(20, 19), hidden(64, 0), hidden(64, 31), hidden(64, 63), all}
}

func wrongOps() []api.Op {
	l := []api.Op{{}, {Kind: 1}, {Kind: 2}, {Kind: 3}, {By: handle(1, 1, 2)}}
	turn := func(o api.Op, do func(o *api.Op)) {
		do(&o)
		l = append(l, o)
	}
	for _, o := range []api.Op{insert(2), cut(2), raise(2)} {
		turn(o, func(o *api.Op) { o.Kind = 0 })
		turn(o, func(o *api.Op) { o.Kind = 4 })
		turn(o, func(o *api.Op) { o.Kind = 255 })
		turn(o, func(o *api.Op) { o.By.Num = 8 })
		turn(o, func(o *api.Op) { o.By.Label.Level = 16 })
		turn(o, func(o *api.Op) { o.Serial = 0 })
		turn(o, func(o *api.Op) { o.Serial = -1 })
		turn(o, func(o *api.Op) { o.Serial = 1 << 24 })
		turn(o, func(o *api.Op) { o.Span.Many = 0 })
		turn(o, func(o *api.Op) { o.Span.Many = 65 })
		turn(o, func(o *api.Op) { o.Span.From.Counter = 0 })
		turn(o, func(o *api.Op) { o.Span.From.Counter = 1 << 40 })
		turn(o, func(o *api.Op) { o.Runes = letters(3) })
		turn(o, func(o *api.Op) { o.Runes = []int32{-2, 97} })
	}
	turn(insert(64), func(o *api.Op) { o.Runes[63] = 0x110000 })
	turn(insert(2), func(o *api.Op) { o.Runes = nil })
	turn(insert(2), func(o *api.Op) { o.Span.From.By.Num = 3 })
	turn(insert(2), func(o *api.Op) { o.To = api.Label{Level: 1} })
	turn(cut(2), func(o *api.Op) { o.After = id(o.By, 5) })
	turn(cut(2), func(o *api.Op) { o.To = api.Label{Level: 1} })
	turn(raise(2), func(o *api.Op) { o.To.Level = 16 })
	return l
}

// ofEachKind has records of each kind that may be; the tests turn what they ask about.
func ofEachKind() []api.Record {
	return []api.Record{
		opening(handle(1, 1, 2), 3),
		opening(handle(15, 0x01020304, 7), 255),
		done(insert(1), 0x0102),
		done(insert(19), 0),
		done(insert(20), 230),
		done(insert(49), 1<<16-1),
		done(insert(50), 9),
		done(insert(64), 0x0304),
		done(cut(3), 8),
		done(raise(64), 1),
		given(1, cleared(1, 1)),
		given(7, cleared(15, 0x01020304)),
		given(0, api.Clear{}),
	}
}

// goodOnes has records that may be: of each kind, with the edges of each field.
func goodOnes() []api.Record {
	l := ofEachKind()
	for _, h := range handles() {
		l = append(l, opening(h, 3))
	}
	for _, n := range users() {
		l = append(l, opening(handle(1, 1, 2), n), opening(api.Handle{}, n))
	}
	for _, o := range plainOps() {
		l = append(l, done(o, 0), done(o, 0x0405))
	}
	for _, e := range codes() {
		l = append(l, done(cut(1), e), done(insert(20), e))
	}
	for _, c := range clears() {
		l = append(l, given(0, c), given(7, c))
	}
	for user := range 8 {
		l = append(l, given(user, cleared(2, 3)), given(user, api.Clear{}))
	}
	return append(l, emptied(opening(handle(1, 1, 2), 3)), emptied(given(1, cleared(1, 1))), emptied(done(raise(1), 1)))
}

// emptied has a record whose runes are empty, and not nil.
func emptied(r api.Record) api.Record {
	r.Op.Runes = []int32{}
	return r
}

// turned has copies of a record, each with one thing done to it.
func turned(r api.Record, l ...func(r *api.Record)) []api.Record {
	var out []api.Record
	for _, do := range l {
		c := copied(r)
		do(&c)
		out = append(out, c)
	}
	return out
}

// copied has a record in other memory, without a call of the package.
func copied(r api.Record) api.Record {
	r.Op.Runes = slices.Clone(r.Op.Runes)
	return r
}

// wrongOnes has records that may not be, each by one thing.
func wrongOnes() []api.Record {
	l := []api.Record{{}, {Kind: 2}, {Kind: 2, Code: 1}, {Kind: 4}, {Kind: 255}}
	for _, r := range ofEachKind() {
		for _, kind := range []uint8{0, 4, 5, 8, 127, 128, 129, 130, 131, 254, 255} {
			l = append(l, turned(r, func(r *api.Record) { r.Kind = kind })...)
		}
		l = append(l, wrongParts(r)...)
		l = append(l, notIts(r)...)
	}
	return l
}

// wrongParts has r with each thing that it has turned to what that may not be.
func wrongParts(r api.Record) []api.Record {
	var l []api.Record
	switch r.Kind {
	case 1:
		for _, h := range wrongHandles() {
			l = append(l, opening(h, r.User))
		}
		for _, n := range wrongUsers() {
			l = append(l, opening(r.Op.By, n))
		}
	case 2:
		for _, o := range slices.Concat(wrongOps(), hiddenOps()) {
			l = append(l, done(o, r.Code))
		}
		for _, e := range wrongCodes() {
			l = append(l, done(r.Op, e))
		}
	case 3:
		for _, n := range []int{-1, -2, 8, 9, 127, 255, 256, 257, 1<<32 + 1, math.MaxInt, math.MinInt} {
			l = append(l, given(n, r.Grant.Clear))
		}
		for _, c := range wrongClears() {
			l = append(l, given(r.Grant.User, c))
		}
	}
	return l
}

// notIts has r with each field that its kind does not have set to something.
func notIts(r api.Record) []api.Record {
	var l []api.Record
	set := func(do func(r *api.Record)) { l = append(l, turned(r, do)...) }
	for _, n := range []int{1, 2, 255, 256, -1, 1 << 16, 1 << 32, math.MaxInt, math.MinInt} {
		if r.Kind != 1 {
			set(func(r *api.Record) { r.User = n })
		}
		if r.Kind != 2 {
			set(func(r *api.Record) { r.Code = api.Errno(n) })
			set(func(r *api.Record) { r.Op.Serial = n })
			set(func(r *api.Record) { r.Op.Span.Many = n })
			set(func(r *api.Record) { r.Op.Span.From.Counter = n })
			set(func(r *api.Record) { r.Op.After.Counter = n })
			set(func(r *api.Record) { r.Op.Runes = []int32{int32(n)} })
		}
		if r.Kind != 3 {
			set(func(r *api.Record) { r.Grant.User = n })
		}
	}
	for _, n := range []uint8{1, 2, 3, 15, 16, 128, 255} {
		if r.Kind != 2 {
			set(func(r *api.Record) { r.Op.Kind = n })
			set(func(r *api.Record) { r.Op.Span.From.By.Num = n })
			set(func(r *api.Record) { r.Op.Span.From.By.Label.Level = n })
			set(func(r *api.Record) { r.Op.Span.From.By.Label.Cats = uint32(n) })
			set(func(r *api.Record) { r.Op.After.By.Num = n })
			set(func(r *api.Record) { r.Op.After.By.Label.Level = n })
			set(func(r *api.Record) { r.Op.After.By.Label.Cats = uint32(n) })
			set(func(r *api.Record) { r.Op.To.Level = n })
			set(func(r *api.Record) { r.Op.To.Cats = uint32(n) })
		}
		if r.Kind == 3 {
			set(func(r *api.Record) { r.Op.By.Num = n })
			set(func(r *api.Record) { r.Op.By.Label.Level = n })
			set(func(r *api.Record) { r.Op.By.Label.Cats = uint32(n) })
		}
		if r.Kind != 3 {
			set(func(r *api.Record) { r.Grant.Clear.Label.Level = n })
			set(func(r *api.Record) { r.Grant.Clear.Label.Cats = uint32(n) })
			set(func(r *api.Record) { r.Grant.Clear = cleared(n%16, 1) })
		}
	}
	if r.Kind != 3 {
		set(func(r *api.Record) { r.Grant.Clear.Ok = true })
		set(func(r *api.Record) { r.Grant = api.Grant{User: 1, Clear: cleared(1, 1)} })
	}
	if r.Kind != 2 {
		set(func(r *api.Record) { r.Op = insert(2) })
		set(func(r *api.Record) { r.Op.Runes = letters(1) })
		set(func(r *api.Record) { r.Op.Runes = []int32{-1} })
		set(func(r *api.Record) { r.Op.Runes = []int32{0} })
	}
	return l
}

// sameOp and equal tell whether operations, and records, are the same, field by field.
func sameOp(a, b api.Op) bool {
	return a.Kind == b.Kind && a.By == b.By && a.Serial == b.Serial && a.Span == b.Span && a.After == b.After && a.To == b.To && slices.Equal(a.Runes, b.Runes)
}

func equal(a, b api.Record) bool {
	return a.Kind == b.Kind && a.User == b.User && sameOp(a.Op, b.Op) && a.Code == b.Code && a.Grant == b.Grant
}

// mayBe is the document's words, told by plain numbers alone, and what layer 9 tells of operations.
func mayBe(r api.Record) bool {
	in := func(n, first, last int) bool { return n >= first && n <= last }
	left := r
	left.Kind = 0
	may := false
	switch r.Kind {
	case 1:
		h := r.Op.By
		may = in(int(h.Label.Level), 0, 15) && in(int(h.Num), 0, 7) && in(r.User, 0, 255)
		left.Op.By, left.User = api.Handle{}, 0
	case 2:
		may = op.Check(r.Op) == api.OK && !slices.Contains(r.Op.Runes, -1) && in(int(r.Code), 0, 65535)
		left.Op, left.Code = api.Op{}, 0
	case 3:
		c := r.Grant.Clear
		may = in(r.Grant.User, 0, 7) && in(int(c.Label.Level), 0, 15) && (c.Ok || c.Label.Level == 0 && c.Label.Cats == 0)
		left.Grant = api.Grant{}
	}
	return may && equal(left, api.Record{})
}

// digitsOf has a number's lowest bytes, so many, told by division.
func digitsOf(n, many int) []byte {
	b := make([]byte, many)
	for i := many - 1; i >= 0; i-- {
		b[i] = byte(n % 256)
		n /= 256
	}
	return b
}

// opBytes has the bytes of an operation, told another way, and those that one would have that may not be.
func opBytes(o api.Op) []byte {
	b := slices.Concat([]byte{o.Kind}, handleBytes(o.By), digitsOf(o.Serial, 3), handleBytes(o.Span.From.By), digitsOf(o.Span.From.Counter, 7), []byte{byte(o.Span.Many)})
	if o.Kind == 1 {
		b = slices.Concat(b, handleBytes(o.After.By), digitsOf(o.After.Counter, 7))
		for _, n := range o.Runes {
			b = append(b, digitsOf(int(uint32(n)), 4)...)
		}
	}
	if o.Kind == 3 {
		b = append(append(b, o.To.Level), digitsOf(int(o.To.Cats), 4)...)
	}
	return b
}

func handleBytes(h api.Handle) []byte {
	return slices.Concat([]byte{h.Label.Level}, digitsOf(int(h.Label.Cats), 4), []byte{h.Num})
}

// written has a record's bytes, told another way, and those that one would have that may not be: of numbers that have no room the lowest bytes.
func written(r api.Record) []byte {
	switch r.Kind {
	case 1:
		return slices.Concat([]byte{1}, handleBytes(r.Op.By), []byte{byte(r.User)})
	case 2:
		return slices.Concat([]byte{2}, digitsOf(int(r.Code), 2), opBytes(r.Op))
	case 3:
		c := r.Grant.Clear
		b := []byte{3, byte(r.Grant.User), 0, c.Label.Level}
		if c.Ok {
			b[2] = 1
		}
		return append(b, digitsOf(int(c.Label.Cats), 4)...)
	default:
		return []byte{r.Kind}
	}
}

// inBlocks has blocks for bytes, told place by place, by a start and a number, of which so many say how many they are; if need be, more of them have bytes 0 alone.
func inBlocks(b []byte, start, number, many int) [][]byte {
	l := make([][]byte, many)
	for i := range l {
		l[i] = make([]byte, 128)
		copy(l[i], slices.Concat(digitsOf(start, 4), digitsOf(number, 3), []byte{byte(i), byte(many)}))
		for at := 9; at < 128; at++ {
			if from := i*119 + at - 9; from < len(b) {
				l[i][at] = b[from]
			}
		}
	}
	return l
}

// manyFor is how many blocks bytes need.
func manyFor(b []byte) int {
	many := 0
	for room := 0; room < len(b); room += 119 {
		many++
	}
	return many
}

// blocksOf has a record's blocks, told another way.
func blocksOf(r api.Record, start, number int) [][]byte {
	b := written(r)
	return inBlocks(b, start, number, manyFor(b))
}

// numberAt is the number whose bytes stand from a place on.
func numberAt(b []byte, at, many int) int {
	n := 0
	for i := range many {
		n = n*256 + int(b[at+i])
	}
	return n
}

// headTold is the head that a block tells, by places counted from the beginning, and whether there is such.
func headTold(b []byte) (api.Head, bool) {
	if len(b) != 128 {
		return api.Head{}, false
	}
	h := api.Head{Start: numberAt(b, 0, 4), Number: numberAt(b, 4, 3), Index: int(b[7]), Of: int(b[8])}
	if h.Start == 0 || h.Start > 2147483647 || h.Number == 0 || h.Index >= h.Of || h.Of > 4 {
		return api.Head{}, false
	}
	return h, true
}

// toldBy is the record whose blocks l are, by places counted from the beginning, the head of the first one, and whether there is such.
func toldBy(l [][]byte) (api.Record, api.Head, bool) {
	var first api.Head
	var b []byte
	for i, next := range l {
		h, ok := headTold(next)
		if i == 0 {
			first = h
		}
		if !ok || h.Index != i || h.Of != len(l) || h.Start != first.Start || h.Number != first.Number {
			return api.Record{}, api.Head{}, false
		}
		b = append(b, next[9:]...)
	}
	if len(l) == 0 {
		return api.Record{}, api.Head{}, false
	}
	r := api.Record{Kind: b[0]}
	long := 8
	switch b[0] {
	case 1:
		r.Op.By = handle(b[1], uint32(numberAt(b, 2, 4)), b[6])
		r.User = int(b[7])
	case 2:
		o, size, e := op.Get(b[3:])
		if e != api.OK {
			return api.Record{}, api.Head{}, false
		}
		r.Code, r.Op, long = api.Errno(numberAt(b, 1, 2)), o, 3+size
	case 3:
		r.Grant = api.Grant{User: int(b[1]), Clear: api.Clear{Label: api.Label{Level: b[3], Cats: uint32(numberAt(b, 4, 4))}, Ok: b[2] == 1}}
		if b[2] > 1 {
			return api.Record{}, api.Head{}, false
		}
	}
	for _, rest := range b[long:] {
		if rest != 0 {
			return api.Record{}, api.Head{}, false
		}
	}
	if !mayBe(r) || manyFor(b[:long]) != len(l) {
		return api.Record{}, api.Head{}, false
	}
	return r, first, true
}

// nothing tells whether a record is the zero value, with no runes.
func nothing(r api.Record) bool {
	return equal(r, api.Record{}) && r.Op.Runes == nil
}

func sameBlocks(a, b [][]byte) bool {
	return slices.EqualFunc(a, b, bytes.Equal)
}

// copyBlocks has blocks in other memory.
func copyBlocks(l [][]byte) [][]byte {
	var out [][]byte
	for _, b := range l {
		out = append(out, bytes.Clone(b))
	}
	return out
}

func wantCheck(t *testing.T, r api.Record, want api.Errno) {
	t.Helper()
	if e := Check(r); e != want {
		t.Errorf("Check(%v) is %d, not %d", r, e, want)
	}
}

func wantPut(t *testing.T, r api.Record, start, number int) {
	t.Helper()
	want := blocksOf(r, start, number)
	if l, e := Put(r, start, number); e != api.OK || !sameBlocks(l, want) {
		t.Errorf("Put(%v, %d, %d) is %v, %d", r, start, number, l, e)
	}
	if many, e := Count(r); e != api.OK || many != len(want) {
		t.Errorf("Count(%v) is %d, %d, not %d", r, many, e, len(want))
	}
}

func refusePut(t *testing.T, r api.Record, start, number int, want api.Errno) {
	t.Helper()
	if l, e := Put(r, start, number); e != want || l != nil {
		t.Errorf("Put(%v, %d, %d) is %v, %d, not %d", r, start, number, l, e, want)
	}
}

func refuseCount(t *testing.T, r api.Record) {
	t.Helper()
	if many, e := Count(r); e != api.ErrBad || many != 0 {
		t.Errorf("Count(%v) is %d, %d, not an error", r, many, e)
	}
}

func wantGet(t *testing.T, l [][]byte, want api.Record, head api.Head) {
	t.Helper()
	if r, h, e := Get(l); e != api.OK || !equal(r, want) || h != head {
		t.Errorf("Get(%v) is %v, %v, %d, not %v, %v", l, r, h, e, want, head)
	}
}

func refuse(t *testing.T, l [][]byte) {
	t.Helper()
	if r, h, e := Get(l); e != api.ErrBad || !nothing(r) || h != (api.Head{}) {
		t.Errorf("Get(%v) is %v, %v, %d, not an error", l, r, h, e)
	}
}

// asTold asks Get for what toldBy tells of the same blocks, and tells whether that is a record.
func asTold(t *testing.T, l [][]byte) bool {
	t.Helper()
	r, h, ok := toldBy(l)
	if ok {
		wantGet(t, l, r, h)
	} else {
		refuse(t, l)
	}
	return ok
}

func wantHead(t *testing.T, b []byte, want api.Head) {
	t.Helper()
	if h, e := Head(b); e != api.OK || h != want {
		t.Errorf("Head(%v) is %v, %d, not %v", b, h, e, want)
	}
}

func refuseHead(t *testing.T, b []byte) {
	t.Helper()
	if h, e := Head(b); e != api.ErrBad || h != (api.Head{}) {
		t.Errorf("Head(%v) is %v, %d, not an error", b, h, e)
	}
}

// P11.1 Check: records of each kind that may be, with each field's edges.
func TestCheckGoodOnes(t *testing.T) {
	for _, r := range goodOnes() {
		if !mayBe(r) {
			t.Fatalf("%v is not to be among the good ones", r)
		}
		wantCheck(t, r, api.OK)
	}
}

// P11.1, P11.2 Check, Count, Put: records that may not be, each by one thing; nothing stands beside the error.
func TestCheckWrongOnes(t *testing.T) {
	for _, r := range wrongOnes() {
		if mayBe(r) {
			t.Fatalf("%v is not to be among the wrong ones", r)
		}
		wantCheck(t, r, api.ErrBad)
		refuseCount(t, r)
		refusePut(t, r, 1, 1, api.ErrBad)
	}
}

// P11.1 Check: each kind, with nothing beside it, and with the fields of each of the three.
func TestCheckEachKind(t *testing.T) {
	for kind := range 256 {
		want := api.ErrBad
		if kind == 1 || kind == 3 {
			want = api.OK
		}
		wantCheck(t, api.Record{Kind: uint8(kind)}, want)
		for _, r := range ofEachKind() {
			want := api.ErrBad
			if int(r.Kind) == kind || equal(r, given(0, api.Clear{})) && kind == 1 {
				want = api.OK
			}
			r.Kind = uint8(kind)
			wantCheck(t, r, want)
		}
	}
}

// P11.1 Check: the numbers' edges, written out.
func TestCheckEdges(t *testing.T) {
	edges := func(of func(n int) api.Record, last int) {
		for _, n := range []int{math.MinInt, math.MinInt + 1, -1 << 32, -last - 1, -last, -2, -1, 0, 1, 2, last - 1, last, last + 1, last + 2, 2*last + 1, 2*last + 2, 1 << 31, 1 << 32, 1<<32 + 1, math.MaxInt - 1, math.MaxInt} {
			want := api.ErrBad
			if n >= 0 && n <= last {
				want = api.OK
			}
			wantCheck(t, of(n), want)
		}
	}
	h := handle(1, 1, 2)
	edges(func(n int) api.Record { return opening(h, n) }, 255)
	for _, o := range []api.Op{insert(1), insert(64), cut(2), raise(2)} {
		edges(func(n int) api.Record { return done(o, api.Errno(n)) }, 1<<16-1)
	}
	edges(func(n int) api.Record { return given(n, api.Clear{}) }, 7)
	edges(func(n int) api.Record { return given(n, cleared(1, 1)) }, 7)
	for n := range 256 {
		level, num := api.OK, api.OK
		if n > 15 {
			level = api.ErrBad
		}
		if n > 7 {
			num = api.ErrBad
		}
		wantCheck(t, opening(handle(uint8(n), 1, 2), 3), level)
		wantCheck(t, opening(handle(1, 1, uint8(n)), 3), num)
		wantCheck(t, given(1, cleared(uint8(n), 1)), level)
	}
}

// P11.1 Check: of each kind each field that it does not have, set to something; and that there are such of each.
func TestCheckNotIts(t *testing.T) {
	for _, r := range ofEachKind() {
		l := notIts(r)
		if len(l) < 40 {
			t.Errorf("%v: %d are asked", r, len(l))
		}
		for _, x := range l {
			wantCheck(t, x, api.ErrBad)
		}
	}
}

// P11.1 Check: an operation is to be plain, with a blank at each place it is not, whatever its code.
func TestCheckBlanks(t *testing.T) {
	for many := 1; many <= 64; many++ {
		wantCheck(t, done(insert(many), 0), api.OK)
		for at := range many {
			o := hidden(many, at)
			if op.Check(o) != api.OK {
				t.Fatalf("%v may not be", o)
			}
			wantCheck(t, done(o, 0), api.ErrBad)
			wantCheck(t, done(o, 2), api.ErrBad)
		}
	}
}

// P11.1 Check, Put, Get: runes that are nil and that are empty, where none are asked.
func TestCheckNoRunes(t *testing.T) {
	for _, r := range ofEachKind() {
		if len(r.Op.Runes) > 0 {
			continue
		}
		for _, row := range [][]int32{nil, {}, letters(3)[:0]} {
			x := r
			x.Op.Runes = row
			wantCheck(t, x, api.OK)
			wantPut(t, x, 1, 2)
			wantGet(t, blocksOf(x, 1, 2), r, api.Head{Start: 1, Number: 2, Of: 1})
		}
	}
}

// P11.2 Put: each kind, byte by byte, written out.
func TestPutBytes(t *testing.T) {
	h := handle(15, 0x01020304, 7)
	o := api.Op{Kind: 1, By: h, Serial: 0x0a0b0c, Span: api.Span{From: id(h, 0x1112131415), Many: 2}, Runes: []int32{0x10ffff, 97}}
	inserted := "\x01\x0f\x01\x02\x03\x04\x07\x0a\x0b\x0c\x0f\x01\x02\x03\x04\x07\x00\x00\x11\x12\x13\x14\x15\x02" + "\x00\x00\x00\x00\x00\x00\x00\x00\x00\x00\x00\x00\x00" + "\x00\x10\xff\xff\x00\x00\x00\x61"
	deleted := "\x02\x01\x00\x00\x00\x01\x02\x00\x00\x01\x01\x00\x00\x00\x01\x02\x00\x00\x00\x00\x00\x00\x09\x03"
	raised := "\x03\x01\x00\x00\x00\x01\x02\xff\xff\xff\x00\x00\x00\x00\x01\x01\x00\x00\x01\x02\x03\x04\x05\x02\x02\x01\x02\x03\x04"
	for _, x := range []struct {
		r api.Record
		b string
	}{
		{opening(h, 255), "\x01\x0f\x01\x02\x03\x04\x07\xff"},
		{opening(handle(1, 1, 2), 3), "\x01\x01\x00\x00\x00\x01\x02\x03"},
		{opening(api.Handle{}, 0), "\x01\x00\x00\x00\x00\x00\x00\x00"},
		{done(o, 0x0d0e), "\x02\x0d\x0e" + inserted},
		{done(cut(3), 0), "\x02\x00\x00" + deleted},
		{done(raise(2), 1<<16-1), "\x02\xff\xff" + raised},
		{given(0, api.Clear{}), "\x03\x00\x00\x00\x00\x00\x00\x00"},
		{given(1, cleared(1, 1)), "\x03\x01\x01\x01\x00\x00\x00\x01"},
		{given(7, cleared(15, 0x01020304)), "\x03\x07\x01\x0f\x01\x02\x03\x04"},
	} {
		l, e := Put(x.r, 0x01020304, 0x050607)
		want := "\x01\x02\x03\x04\x05\x06\x07\x00\x01" + x.b
		if e != api.OK || len(l) != 1 || string(l[0]) != want+string(make([]byte, 128-len(want))) {
			t.Errorf("Put(%v) is %v, %d", x.r, l, e)
		}
		wantGet(t, l, x.r, api.Head{Start: 0x01020304, Number: 0x050607, Of: 1})
	}
}

// P11.2 Put: an insert's blocks, where its bytes just have room, where four have not, and of three blocks; each byte stands where it is to.
func TestPutPieces(t *testing.T) {
	for many := 1; many <= 64; many++ {
		r := done(insert(many), 0x0102)
		b := written(r)
		l, e := Put(r, 7, 8)
		if e != api.OK || len(l) != (len(b)+118)/119 {
			t.Fatalf("an insert of %d has %d blocks, %d", many, len(l), e)
		}
		for i, block := range l {
			piece := b[119*i : min(119*(i+1), len(b))]
			if len(block) != 128 || !bytes.Equal(block[:9], []byte{0, 0, 0, 7, 0, 0, 8, byte(i), byte(len(l))}) || !bytes.Equal(block[9:9+len(piece)], piece) {
				t.Errorf("block %d of an insert of %d is %v", i, many, block)
			}
			if slices.ContainsFunc(block[9+len(piece):], func(b byte) bool { return b != 0 }) {
				t.Errorf("behind the piece of block %d of an insert of %d stands %v", i, many, block[9+len(piece):])
			}
		}
	}
	// Of all records just that of an insert of 20 has one byte more than pieces have room for; none fills its last piece, or lacks one byte.
	for _, r := range goodOnes() {
		over := len(written(r)) % 119
		if over == 0 || over == 118 || over == 1 && len(r.Op.Runes) != 20 {
			t.Errorf("%v has %d bytes", r, len(written(r)))
		}
	}
	l, _ := Put(done(insert(20), 0), 7, 8)
	if len(l) != 2 || l[1][9] != 116 || l[0][127] != 0 || !bytes.Equal(l[1][10:], make([]byte, 118)) {
		t.Errorf("an insert of 20 has blocks %v", l)
	}
}

// starts and numbers have those that a head may have; the wrong ones those that it may not.
func starts() []int {
	return []int{1, 2, 255, 256, 0x01020304, 1<<24 - 1, 1 << 24, 1<<31 - 2, 1<<31 - 1}
}

func wrongStarts() []int {
	return []int{0, -1, -2, -1 << 31, 1 << 31, 1<<31 + 1, 1<<32 - 1, 1 << 32, 1<<32 + 1, 1<<33 + 5, math.MaxInt - 1, math.MaxInt, math.MinInt, math.MinInt + 1}
}

func numbers() []int {
	return []int{1, 2, 255, 256, 0x050607, 65535, 65536, 1<<24 - 2, 1<<24 - 1}
}

func wrongNumbers() []int {
	return []int{0, -1, -2, -1 << 24, 1 << 24, 1<<24 + 1, 1 << 31, 1<<32 + 1, math.MaxInt - 1, math.MaxInt, math.MinInt, math.MinInt + 1}
}

// P11.2, P11.3 Put, Get: each start and number that may be, and ErrArg for those that may not, with nothing beside it.
func TestPutStartsAndNumbers(t *testing.T) {
	for _, r := range ofEachKind() {
		for _, start := range starts() {
			for _, number := range numbers() {
				wantPut(t, r, start, number)
				l := blocksOf(r, start, number)
				wantGet(t, l, r, api.Head{Start: start, Number: number, Of: len(l)})
			}
			for _, number := range wrongNumbers() {
				refusePut(t, r, start, number, api.ErrArg)
			}
		}
		for _, start := range wrongStarts() {
			for _, number := range slices.Concat(numbers(), wrongNumbers()) {
				refusePut(t, r, start, number, api.ErrArg)
			}
		}
	}
}

// P11.2, P1 Put: of a record that may not be, Check's error comes first, whatever the start and the number.
func TestPutFirstError(t *testing.T) {
	for _, r := range []api.Record{{}, {Kind: 2}, {Kind: 4}, opening(handle(16, 0, 0), 1), opening(api.Handle{}, 256), done(hidden(64, 5), 0), done(cut(1), -1), given(8, api.Clear{}), given(1, api.Clear{Label: api.Label{Level: 1}})} {
		for _, start := range slices.Concat(starts(), wrongStarts()) {
			for _, number := range slices.Concat(numbers(), wrongNumbers()) {
				refusePut(t, r, start, number, api.ErrBad)
			}
		}
	}
}

// P11.2, P11.3, P11.5 Put, Get: all records that may be: what is put is got.
func TestPutAndGet(t *testing.T) {
	for _, r := range goodOnes() {
		wantPut(t, r, 0x01020304, 0x050607)
		l, _ := Put(r, 3, 4)
		wantGet(t, l, r, api.Head{Start: 3, Number: 4, Of: len(l)})
		wantGet(t, blocksOf(r, 3, 4), r, api.Head{Start: 3, Number: 4, Of: len(l)})
	}
}

// blockWith has nine bytes of a head, and others behind them, all alike.
func blockWith(h api.Head, behind byte) []byte {
	b := bytes.Repeat([]byte{behind}, 128)
	copy(b, slices.Concat(digitsOf(h.Start, 4), digitsOf(h.Number, 3), []byte{byte(h.Index), byte(h.Of)}))
	return b
}

// P11.2 Head: heads at each edge, whatever stands behind.
func TestHead(t *testing.T) {
	for _, start := range append(starts(), 0, 1<<31, 1<<31+1, 1<<32-1) {
		for _, number := range append(numbers(), 0) {
			for of := range 7 {
				for index := range 7 {
					h := api.Head{Start: start, Number: number, Index: index, Of: of}
					for _, behind := range []byte{0, 1, 255} {
						b := blockWith(h, behind)
						if start >= 1 && start < 1<<31 && number >= 1 && of >= 1 && of <= 4 && index < of {
							wantHead(t, b, h)
						} else {
							refuseHead(t, b)
						}
					}
				}
			}
		}
	}
	for n := range 256 {
		h := api.Head{Start: 5, Number: 6, Index: 0, Of: n}
		if n >= 1 && n <= 4 {
			wantHead(t, blockWith(h, 7), h)
		} else {
			refuseHead(t, blockWith(h, 7))
		}
		for of := 1; of <= 4; of++ {
			h = api.Head{Start: 5, Number: 6, Index: n, Of: of}
			if n < of {
				wantHead(t, blockWith(h, 7), h)
			} else {
				refuseHead(t, blockWith(h, 7))
			}
		}
	}
}

// P11.2 Head: bytes that are none, or not just as many as a block has.
func TestHeadLengths(t *testing.T) {
	b := append(blockWith(api.Head{Start: 5, Number: 6, Index: 1, Of: 2}, 0), make([]byte, 300)...)
	refuseHead(t, nil)
	for many := range b {
		if many == 128 {
			wantHead(t, b[:many], api.Head{Start: 5, Number: 6, Index: 1, Of: 2})
		} else {
			refuseHead(t, b[:many])
			refuseHead(t, bytes.Clone(b[:many]))
		}
	}
	refuseHead(t, make([]byte, 128))
	refuseHead(t, bytes.Repeat([]byte{255}, 128))
}

// P11.2 Head: each of the first nine bytes turned to each other one, and each behind them, which turns nothing.
func TestHeadTurned(t *testing.T) {
	for _, start := range []api.Head{{Start: 0x01020304, Number: 0x050607, Index: 0, Of: 1}, {Start: 1, Number: 1, Index: 3, Of: 4}, {Start: 1<<31 - 1, Number: 1<<24 - 1, Index: 1, Of: 3}} {
		b := blockWith(start, 9)
		for at := range b {
			for turn := 1; turn < 256; turn++ {
				b[at] ^= byte(turn)
				h, ok := headTold(b)
				if ok {
					wantHead(t, b, h)
				} else {
					refuseHead(t, b)
				}
				if ok && (h == start) != (at > 8) {
					t.Errorf("at %d turned by %d: %v", at, turn, h)
				}
				b[at] ^= byte(turn)
			}
		}
	}
}

// P11.2 Head: of each block of each record, as Put made it.
func TestHeadOfBlocks(t *testing.T) {
	for _, r := range goodOnes() {
		l, _ := Put(r, 1<<31-1, 1<<24-1)
		for i, b := range l {
			wantHead(t, b, api.Head{Start: 1<<31 - 1, Number: 1<<24 - 1, Index: i, Of: len(l)})
		}
	}
}

// P11.3 Get: no blocks, and blocks that are none.
func TestGetNothing(t *testing.T) {
	refuse(t, nil)
	refuse(t, [][]byte{})
	refuse(t, blocksOf(cutOnce(), 1, 2)[:0])
	for many := range 7 {
		refuse(t, make([][]byte, many))
		for _, long := range []int{0, 1, 8, 9, 10, 119, 127, 128, 129, 256} {
			for _, fill := range []byte{0, 1, 255} {
				refuse(t, slices.Repeat([][]byte{bytes.Repeat([]byte{fill}, long)}, many))
			}
		}
	}
	refuse(t, slices.Repeat(blocksOf(cutOnce(), 1, 2), 100000))
}

func cutOnce() api.Record {
	return done(cut(1), 0)
}

// P11.3, P11.5 Get: each record's blocks without one, with one twice, with one more behind or ahead, and in each other order.
func TestGetOtherBlocks(t *testing.T) {
	for _, r := range goodOnes() {
		l := blocksOf(r, 3, 4)
		for i, b := range l {
			refuse(t, slices.Delete(slices.Clone(l), i, i+1))
			refuse(t, slices.Insert(slices.Clone(l), i, b))
			refuse(t, append(slices.Clone(l), b))
			refuse(t, append([][]byte{b}, l...))
			for k := range l {
				twice := slices.Clone(l)
				twice[k] = b
				if k != i {
					refuse(t, twice)
				}
				swapped := slices.Clone(l)
				swapped[i], swapped[k] = swapped[k], swapped[i]
				if k != i {
					refuse(t, swapped)
				}
			}
		}
		for _, more := range [][]byte{nil, {}, {0}, make([]byte, 128), blocksOf(cutOnce(), 3, 4)[0]} {
			refuse(t, append(slices.Clone(l), more))
			refuse(t, append([][]byte{more}, l...))
		}
		refuse(t, slices.Concat(l, l))
		if len(l) == 3 {
			refuse(t, [][]byte{l[1], l[2], l[0]})
			refuse(t, [][]byte{l[2], l[0], l[1]})
		}
	}
}

// P11.3 Get: each record's bytes in more blocks, or in fewer, than they need, whose heads all tell how many there are.
func TestGetOtherCounts(t *testing.T) {
	for _, r := range goodOnes() {
		b := written(r)
		need := manyFor(b)
		for many := 1; many <= 6; many++ {
			l := inBlocks(b, 3, 4, many)
			if many == need {
				wantGet(t, l, r, api.Head{Start: 3, Number: 4, Of: many})
			} else {
				refuse(t, l)
			}
		}
	}
}

// P11.3 Get: a block with one byte, or several, taken away at its end or put behind, or made of none.
func TestGetOtherLengths(t *testing.T) {
	for _, r := range goodOnes() {
		l := blocksOf(r, 3, 4)
		for i, b := range l {
			other := func(b []byte) {
				x := slices.Clone(l)
				x[i] = b
				refuse(t, x)
			}
			other(b[:127])
			other(bytes.Clone(b[:127]))
			other(append(bytes.Clone(b), 0))
			other(append(bytes.Clone(b), 1))
			other(append(bytes.Clone(b), b...))
			other(b[1:])
			other(nil)
		}
	}
	for _, r := range ofEachKind() {
		l := blocksOf(r, 3, 4)
		for i, b := range l {
			for many := range 128 {
				x := slices.Clone(l)
				x[i] = b[:many]
				refuse(t, x)
			}
		}
		// As many bytes in all, cut at another place.
		if len(l) > 1 {
			x := slices.Clone(l)
			x[0], x[1] = append(bytes.Clone(l[0]), l[1][0]), l[1][1:]
			refuse(t, x)
		}
	}
}

// P11.3 Get: each byte of each block turned to each other one: of head, piece, and what stands behind it.
func TestGetOneByteTurned(t *testing.T) {
	for _, r := range ofEachKind() {
		good := 0
		l := blocksOf(r, 0x01020304, 0x050607)
		head := api.Head{Start: 0x01020304, Number: 0x050607, Of: len(l)}
		long := len(written(r))
		for i, b := range l {
			for at := range b {
				// The start and the number of one block alone may be others.
				inHead := at < 9 && (len(l) > 1 || at > 6)
				behind := at >= 9 && 119*i+at-9 >= long
				for turn := 1; turn < 256; turn++ {
					b[at] ^= byte(turn)
					if inHead || behind {
						refuse(t, l)
					} else if asTold(t, l) {
						good++
					}
					if told, h, ok := toldBy(l); ok && equal(told, r) && h == head {
						t.Errorf("block %d at %d turned by %d, %v is the same", i, at, turn, r)
					}
					b[at] ^= byte(turn)
				}
			}
		}
		if good == 0 {
			t.Errorf("%v: none may be", r)
		}
	}
}

// P11.3, P11.5 Get: one block of another start, of another number, of both, or of another record, or all but one.
func TestGetMixedBlocks(t *testing.T) {
	for many := 20; many <= 64; many++ {
		r := done(insert(many), 2)
		l := blocksOf(r, 3, 4)
		other := copied(r)
		other.Op.Runes[0] = 98
		other.Op.Runes[many-1] = 99
		for _, m := range [][][]byte{blocksOf(r, 4, 4), blocksOf(r, 2, 4), blocksOf(r, 3, 5), blocksOf(r, 3, 3), blocksOf(r, 4, 3), blocksOf(r, 3+1<<24, 4), blocksOf(r, 3, 4+1<<16)} {
			for i := range l {
				l[i], m[i] = m[i], l[i]
				refuse(t, l)
				refuse(t, m)
				l[i], m[i] = m[i], l[i]
			}
		}
		m := blocksOf(other, 3, 4)
		for i := range l {
			l[i], m[i] = m[i], l[i]
			asTold(t, l)
			asTold(t, m)
			l[i], m[i] = m[i], l[i]
		}
		shorter := blocksOf(done(insert(19), 2), 3, 4)
		longer := blocksOf(done(insert(64), 2), 3, 4)
		for _, m := range [][][]byte{shorter, longer} {
			if len(m) == len(l) {
				continue
			}
			for i := range min(len(l), len(m)) {
				l[i], m[i] = m[i], l[i]
				refuse(t, l)
				refuse(t, m)
				l[i], m[i] = m[i], l[i]
			}
		}
	}
}

// P11.3 Get: blocks whose record may not be, as far as its fields have room, in as many blocks as it needs, and in others.
func TestGetWrongOnes(t *testing.T) {
	refused := 0
	for _, r := range wrongOnes() {
		b := written(r)
		for many := 1; many <= 4; many++ {
			if !asTold(t, inBlocks(b, 3, 4, many)) && many == manyFor(b) {
				refused++
			}
		}
	}
	if refused < 200 {
		t.Errorf("%d are refused", refused)
	}
	for _, o := range hiddenOps() {
		refuse(t, blocksOf(done(o, 0), 3, 4))
	}
	for _, h := range wrongHandles() {
		refuse(t, blocksOf(opening(h, 3), 3, 4))
	}
	for _, c := range wrongClears() {
		refuse(t, blocksOf(given(1, c), 3, 4))
	}
	for kind := range 256 {
		for _, r := range ofEachKind() {
			l := blocksOf(r, 3, 4)
			l[0][9] = byte(kind)
			asTold(t, l)
			if kind == 0 || kind > 3 {
				refuse(t, l)
			}
		}
	}
}

// P11.3 Get: a grant's byte for Ok is 0 or 1, and its user below 8.
func TestGetGrantBytes(t *testing.T) {
	for n := range 256 {
		for _, c := range []api.Clear{{}, cleared(0, 0), cleared(1, 1)} {
			l := blocksOf(given(1, c), 3, 4)
			l[0][11] = byte(n)
			want := given(1, api.Clear{Label: c.Label, Ok: n == 1})
			if n == 1 || n == 0 && c.Label == (api.Label{}) {
				wantGet(t, l, want, api.Head{Start: 3, Number: 4, Of: 1})
			} else {
				refuse(t, l)
			}
			l = blocksOf(given(1, c), 3, 4)
			l[0][10] = byte(n)
			if n < 8 {
				wantGet(t, l, given(n, c), api.Head{Start: 3, Number: 4, Of: 1})
			} else {
				refuse(t, l)
			}
		}
	}
}

// P11.3 Get: each head that may not be, or is not the first one's, on the blocks of a record that may be.
func TestGetWrongHeads(t *testing.T) {
	for _, r := range ofEachKind() {
		b := written(r)
		need := manyFor(b)
		for _, start := range []int{0, 1 << 31, 1<<31 + 1, 1<<32 - 1} {
			refuse(t, inBlocks(b, start, 4, need))
		}
		refuse(t, inBlocks(b, 3, 0, need))
		for of := range 256 {
			for index := range 8 {
				l := inBlocks(b, 3, 4, need)
				for i := range l {
					l[i][7], l[i][8] = byte(index+i), byte(of)
				}
				if of == need && index == 0 {
					wantGet(t, l, r, api.Head{Start: 3, Number: 4, Of: need})
				} else {
					refuse(t, l)
				}
			}
		}
	}
}

// mixer draws records whose fields are drawn from what it has: one that may be, or not, with a few things turned.
type mixer struct {
	*rand.Rand
	good, wrong, each []api.Record
	ops               []api.Op
}

func newMixer(seed int64) mixer {
	return mixer{Rand: rand.New(rand.NewSource(seed)), good: goodOnes(), wrong: wrongOnes(), each: ofEachKind(), ops: plainOps()}
}

// one draws one of a list.
func one[T any](m mixer, l ...T) T {
	return l[m.Intn(len(l))]
}

func (m mixer) next() api.Record {
	r := copied(one(m, one(m, m.good, m.good, m.wrong, m.each)...))
	for range m.Intn(3) {
		switch m.Intn(8) {
		case 0:
			r.Kind = uint8(m.Intn(5))
		case 1:
			r.User = one(m, slices.Concat(users(), wrongUsers())...)
		case 2:
			r.Code = one(m, slices.Concat(codes(), wrongCodes())...)
		case 3:
			r.Op.By = one(m, slices.Concat(handles(), wrongHandles())...)
		case 4:
			r.Op = one(m, m.ops...)
		case 5:
			r.Grant.User = m.Intn(10) - 1
		case 6:
			r.Grant.Clear = one(m, slices.Concat(clears(), wrongClears())...)
		case 7:
			r.Grant = api.Grant{}
		}
	}
	return r
}

// P11.1, P11.2, P11.3, P11.5, P1: records at random, also such with several things wrong.
func TestAtRandom(t *testing.T) {
	r := newMixer(11)
	good := 0
	for range 20000 {
		x := r.next()
		if twin := Twin(x); !equal(x, twin) || !Same(x, twin) {
			t.Errorf("Same or Twin of %v", x)
		}
		start, number := 1+r.Intn(1<<31-1), 1+r.Intn(1<<24-1)
		if !mayBe(x) {
			wantCheck(t, x, api.ErrBad)
			refuseCount(t, x)
			refusePut(t, x, start, number, api.ErrBad)
			continue
		}
		good++
		wantCheck(t, x, api.OK)
		wantPut(t, x, start, number)
		l := blocksOf(x, start, number)
		wantGet(t, l, x, api.Head{Start: start, Number: number, Of: len(l)})
		l[r.Intn(len(l))][r.Intn(128)] ^= byte(1 << r.Intn(8))
		asTold(t, l)
	}
	if good < 6000 || good > 16000 {
		t.Errorf("%d may be", good)
	}
}

// P11.3, P1: blocks of any bytes end in an answer, the one that is to be.
func TestGetForged(t *testing.T) {
	r := rand.New(rand.NewSource(117))
	good := 0
	for range 20000 {
		var l [][]byte
		for range r.Intn(6) {
			b := make([]byte, []int{128, 128, 128, 127, 129, r.Intn(300)}[r.Intn(6)])
			r.Read(b)
			l = append(l, b)
			if h, ok := headTold(b); ok {
				wantHead(t, b, h)
			} else {
				refuseHead(t, b)
			}
		}
		asTold(t, l)
		many := 1 + r.Intn(4)
		b := make([]byte, r.Intn(119*many))
		r.Read(b)
		asTold(t, inBlocks(b, 1+r.Intn(9), 1+r.Intn(9), many))
		b = append([]byte{byte(1 + r.Intn(3)), byte(r.Intn(8)), byte(r.Intn(2)), byte(r.Intn(16))}, b...)
		b = b[:min(len(b), 7)]
		b = append(b, byte(r.Intn(8)))
		b = append(b[:6:6], byte(r.Intn(9)), byte(r.Intn(256)))
		if asTold(t, inBlocks(b, 1+r.Intn(9), 1+r.Intn(9), 1)) {
			good++
		}
	}
	if good < 2000 {
		t.Errorf("%d are records", good)
	}
}

// turnedFields has r and, for each field, one that differs in it alone.
func turnedFields(r api.Record) []api.Record {
	l := append([]api.Record{r}, turned(r,
		func(r *api.Record) { r.Kind ^= 1 },
		func(r *api.Record) { r.Kind ^= 128 },
		func(r *api.Record) { r.User++ },
		func(r *api.Record) { r.User += 256 },
		func(r *api.Record) { r.User += 1 << 32 },
		func(r *api.Record) { r.Code++ },
		func(r *api.Record) { r.Code += 1 << 16 },
		func(r *api.Record) { r.Code += 1 << 32 },
		func(r *api.Record) { r.Grant.User++ },
		func(r *api.Record) { r.Grant.User += 256 },
		func(r *api.Record) { r.Grant.Clear.Ok = !r.Grant.Clear.Ok },
		func(r *api.Record) { r.Grant.Clear.Label.Level ^= 1 },
		func(r *api.Record) { r.Grant.Clear.Label.Level ^= 128 },
		func(r *api.Record) { r.Grant.Clear.Label.Cats ^= 1 },
		func(r *api.Record) { r.Grant.Clear.Label.Cats ^= 1 << 31 },
		func(r *api.Record) { r.Op.Kind ^= 4 },
		func(r *api.Record) { r.Op.By.Num++ },
		func(r *api.Record) { r.Op.By.Label.Level ^= 1 },
		func(r *api.Record) { r.Op.By.Label.Cats ^= 2 },
		func(r *api.Record) { r.Op.Serial++ },
		func(r *api.Record) { r.Op.Span.Many++ },
		func(r *api.Record) { r.Op.Span.From.By.Num ^= 1 },
		func(r *api.Record) { r.Op.Span.From.By.Label.Level ^= 1 },
		func(r *api.Record) { r.Op.Span.From.By.Label.Cats ^= 2 },
		func(r *api.Record) { r.Op.Span.From.Counter += 3 },
		func(r *api.Record) { r.Op.After.By.Num ^= 1 },
		func(r *api.Record) { r.Op.After.By.Label.Level ^= 1 },
		func(r *api.Record) { r.Op.After.By.Label.Cats ^= 2 },
		func(r *api.Record) { r.Op.After.Counter++ },
		func(r *api.Record) { r.Op.To.Level ^= 8 },
		func(r *api.Record) { r.Op.To.Cats ^= 8 },
		func(r *api.Record) { r.Op.Runes = append(r.Op.Runes, 0) },
		func(r *api.Record) { r.Op.Runes = append(r.Op.Runes, -1) },
		func(r *api.Record) { r.Op.Runes = append(r.Op.Runes, 0, 0) },
	)...)
	for i := range r.Op.Runes {
		l = append(l, turned(r, func(r *api.Record) { r.Op.Runes[i] ^= 1 << 30 })...)
	}
	if len(r.Op.Runes) > 0 {
		l = append(l, turned(r, func(r *api.Record) { r.Op.Runes = r.Op.Runes[1:] })...)
	}
	return l
}

// anyOnes has records that Same and Twin are asked of, though they may not be.
func anyOnes() []api.Record {
	return append(ofEachKind(),
		api.Record{},
		api.Record{Kind: 255, User: math.MinInt, Code: -1, Op: api.Op{Kind: 9, Serial: math.MaxInt, Runes: []int32{-5, 6}}, Grant: api.Grant{User: math.MaxInt, Clear: api.Clear{Label: api.Label{Level: 255, Cats: 7}}}},
		api.Record{Kind: 1, Op: insert(3), Grant: api.Grant{User: 1, Clear: cleared(1, 1)}},
		done(hidden(3, 1), -5),
	)
}

// P11.1 Same: two that differ in each field alone, and each with itself, whether they may be or not.
func TestSame(t *testing.T) {
	for _, r := range anyOnes() {
		l := turnedFields(r)
		for i, a := range l {
			for k, b := range l {
				if Same(a, b) != (i == k) {
					t.Errorf("Same(%v, %v) is %v", a, b, Same(a, b))
				}
			}
			if other := copied(a); !Same(other, a) || !Same(a, other) {
				t.Errorf("%v is not the same in other memory", a)
			}
		}
	}
}

// P11.1 Same: runes that are nil and that are empty are the same; those that change places are not.
func TestSameRunes(t *testing.T) {
	for _, r := range []api.Record{{}, {Kind: 1, User: 3}, {Kind: 2, Code: 4}, {Kind: 3, Grant: api.Grant{User: 2}}} {
		a, b, c := r, r, r
		a.Op.Runes, b.Op.Runes, c.Op.Runes = nil, []int32{}, letters(4)[:0]
		for _, x := range []api.Record{a, b, c} {
			for _, y := range []api.Record{a, b, c} {
				if !Same(x, y) {
					t.Errorf("%v: no runes are not the same as none", r)
				}
			}
		}
		a.Op.Runes = []int32{0}
		if Same(a, b) || Same(b, a) {
			t.Errorf("%v: one rune is the same as none", r)
		}
		a.Op.Runes, b.Op.Runes = []int32{97, 98}, []int32{98, 97}
		if Same(a, b) {
			t.Errorf("%v: runes that change places are the same", r)
		}
		a.Op.Runes, b.Op.Runes = []int32{97, 98}[:1], []int32{97, 99}[:1]
		if !Same(a, b) {
			t.Errorf("%v: what lies behind the runes counts", r)
		}
	}
	if Same(api.Record{User: 1}, api.Record{Code: 1}) || Same(api.Record{User: 1}, api.Record{Grant: api.Grant{User: 1}}) {
		t.Error("numbers that change places are the same")
	}
}

// P11.1 Twin: of any one, whether it may be or not, also of more runes than may be.
func TestTwin(t *testing.T) {
	l := slices.Concat(goodOnes(), wrongOnes())
	for _, r := range anyOnes() {
		l = append(l, turnedFields(r)...)
	}
	for _, r := range append(l, emptied(api.Record{}), api.Record{Kind: 9, Op: api.Op{Runes: letters(5000)}}) {
		if twin := Twin(r); !equal(twin, r) || !Same(twin, r) {
			t.Errorf("Twin(%v) is %v", r, twin)
		}
	}
}

// spoil, spoilBlocks and spoilRunes write over all of an answer, and over the room behind it.
func spoil(b []byte) {
	for i := range b[:cap(b)] {
		b[:cap(b)][i] ^= 0xa5
	}
}

func spoilBlocks(l [][]byte) {
	for _, b := range l {
		spoil(b)
	}
	for i := range l[:cap(l)] {
		l[:cap(l)][i] = []byte{5}
	}
}

func spoilRunes(r api.Record) {
	row := r.Op.Runes[:cap(r.Op.Runes)]
	for i := range row {
		row[i] ^= 0x15
	}
}

// guarded has a record whose runes lie in the middle of others.
func guarded(r api.Record) (api.Record, []int32) {
	row := slices.Concat([]int32{7, 7}, r.Op.Runes, []int32{8, 8, 8})
	r.Op.Runes = row[2 : 2+len(r.Op.Runes)]
	return r, row
}

// untouched tells whether what guarded made is as it was.
func untouched(row []int32, r api.Record) bool {
	return slices.Equal(row, slices.Concat([]int32{7, 7}, r.Op.Runes, []int32{8, 8, 8}))
}

// guardedBlocks has blocks that lie in the middle of other bytes, and among other blocks.
func guardedBlocks(l [][]byte) (inner [][]byte, all [][]byte, memory [][]byte) {
	all = append(all, []byte{1})
	for _, b := range l {
		m := slices.Concat([]byte{7, 7}, b, []byte{8, 8, 8})
		memory = append(memory, m)
		all = append(all, m[2:2+len(b)])
	}
	all = append(all, []byte{2}, []byte{3})
	return all[1 : 1+len(l)], all, memory
}

// P11.4: what is handed in is only read, and so is what lies beside it, whatever the answer.
func TestOnlyRead(t *testing.T) {
	for _, r := range slices.Concat(goodOnes(), wrongOnes(), anyOnes()) {
		mine, row := guarded(r)
		other, others := guarded(r)
		Check(mine)
		Count(mine)
		l, _ := Put(mine, 3, 4)
		spoilBlocks(l)
		Put(mine, 0, 4)
		Same(mine, other)
		spoilRunes(Twin(mine))
		if !untouched(row, r) || !untouched(others, r) || !equal(mine, r) || !equal(other, r) {
			t.Fatalf("%v was turned", r)
		}
		kept := blocksOf(r, 3, 4)
		inner, all, memory := guardedBlocks(kept)
		allKept, memoryKept := copyBlocks(all), copyBlocks(memory)
		for _, handed := range [][][]byte{inner, all, inner[:len(inner)-1], all[:1+len(inner)], memory} {
			got, _, _ := Get(handed)
			spoilRunes(got)
			for _, b := range handed {
				Head(b)
			}
		}
		if !sameBlocks(all, allKept) || !sameBlocks(memory, memoryKept) || !sameBlocks(inner, kept) {
			t.Fatalf("the blocks of %v were turned", r)
		}
	}
}

// P11.4: what is written into an answer, or into what was handed in, leaves no trace in any other.
func TestNewMemory(t *testing.T) {
	for _, r := range slices.Concat(goodOnes(), anyOnes()) {
		mine := copied(r)
		one, two := Twin(mine), Twin(mine)
		spoilRunes(one)
		if !equal(mine, r) || !equal(two, r) {
			t.Fatalf("a twin of %v was turned by what was written into another one", r)
		}
		spoilRunes(mine)
		if !equal(two, r) {
			t.Fatalf("the twin of %v was turned by what was written into that", r)
		}
		if !mayBe(r) {
			continue
		}
		mine = copied(r)
		first, _ := Put(mine, 3, 4)
		second, _ := Put(mine, 3, 4)
		spoilBlocks(first)
		spoilRunes(mine)
		if !sameBlocks(second, blocksOf(r, 3, 4)) {
			t.Fatalf("the blocks of %v were turned", r)
		}
		got, _, _ := Get(second)
		again, _, _ := Get(second)
		spoilRunes(got)
		if !sameBlocks(second, blocksOf(r, 3, 4)) || !equal(again, r) {
			t.Fatalf("%v was turned by what was written into what was got", r)
		}
		spoilBlocks(second)
		if !equal(again, r) {
			t.Fatalf("%v was turned by what was written into its blocks", r)
		}
	}
}

// P11.4: no two blocks of one answer share memory: what is written into one, and behind it, leaves the others.
func TestBlocksByThemselves(t *testing.T) {
	for _, r := range goodOnes() {
		want := blocksOf(r, 3, 4)
		for at := range want {
			l, _ := Put(r, 3, 4)
			spoil(l[at])
			for other := range want {
				if other != at && !bytes.Equal(l[other], want[other]) {
					t.Errorf("block %d of %v was turned by what was written into block %d", other, r, at)
				}
			}
		}
	}
}

// P11.4, P1: nothing is kept: what comes between two calls turns no answer.
func TestNothingIsKept(t *testing.T) {
	l := goodOnes()
	for i, r := range l {
		other := l[len(l)-1-i]
		wantPut(t, r, 3, 4)
		blocks, _ := Put(other, 5, 6)
		got, _, _ := Get(blocks)
		refusePut(t, api.Record{}, 1, 1, api.ErrBad)
		refusePut(t, other, 0, 1, api.ErrArg)
		refuse(t, blocks[:len(blocks)-1])
		spoilBlocks(blocks)
		spoilRunes(got)
		wantPut(t, r, 3, 4)
		wantGet(t, blocksOf(r, 3, 4), r, api.Head{Start: 3, Number: 4, Of: len(blocksOf(r, 3, 4))})
	}
}

// P11.5: what is got is put, by its head, as just these blocks; so no two records have one's blocks.
func TestGotIsPut(t *testing.T) {
	from := map[string]api.Record{}
	for _, r := range goodOnes() {
		l := blocksOf(r, 0x01020304, 0x050607)
		got, h, e := Get(l)
		again, f := Put(got, h.Start, h.Number)
		if e != api.OK || f != api.OK || !sameBlocks(again, l) {
			t.Errorf("Get of the blocks of %v is %v, %v, %d, put as %v, %d", r, got, h, e, again, f)
		}
		key := string(bytes.Join(again, nil))
		if other, is := from[key]; is && !equal(other, r) {
			t.Errorf("%v and %v have one's blocks", other, r)
		}
		from[key] = r
	}
}

// P11.5: how many blocks there are hangs on the kind, and, of an operation, on its kind and how many elements it has, alone; one, but of operations, which have at most three.
func TestAsManyBlocks(t *testing.T) {
	seen := map[[3]int]int{}
	most := 0
	for _, r := range goodOnes() {
		many, e := Count(r)
		key := [3]int{int(r.Kind)}
		want := 1
		if r.Kind == 2 {
			key = [3]int{2, int(r.Op.Kind), r.Op.Span.Many}
			if r.Op.Kind == 1 && r.Op.Span.Many > 19 {
				want = 2
			}
			if r.Op.Kind == 1 && r.Op.Span.Many > 49 {
				want = 3
			}
		}
		if e != api.OK || many != want {
			t.Errorf("%v has %d blocks, %d, not %d", r, many, e, want)
		}
		if other, is := seen[key]; is && other != many {
			t.Errorf("%v has %d blocks, another one %d", r, many, other)
		}
		seen[key] = many
		most = max(most, many)
	}
	if len(seen) != 2+3*64 || most != 3 {
		t.Errorf("%d kinds of records were asked, which have at most %d blocks", len(seen), most)
	}
}

// P11.5: inserts of all who may make them, behind anything, with any runes and codes, have as many blocks.
func TestAsManyBlocksOfInserts(t *testing.T) {
	for _, many := range []int{1, 18, 19, 20, 21, 48, 49, 50, 51, 63, 64} {
		want, _ := Count(done(insert(many), 0))
		for _, h := range handles() {
			for _, n := range []int32{0, 97, 0xd7ff, 0xe000, 0x10ffff} {
				o := insert(many)
				o.By, o.Span.From.By, o.Serial, o.Span.From.Counter = h, h, 1<<24-1, 1<<40-64
				o.Runes = slices.Repeat([]int32{n}, many)
				if n == 0 {
					o.After = api.Id{}
				}
				if got, e := Count(done(o, 1<<16-1)); e != api.OK || got != want {
					t.Errorf("Count(%v) is %d, %d, not %d", o, got, e, want)
				}
			}
		}
	}
}

// W2, P11.5: of two records that differ in runes alone, as many, the blocks differ in the runes' bytes alone.
func TestRunesTellNothingElse(t *testing.T) {
	for _, many := range []int{1, 2, 19, 20, 49, 50, 64} {
		plain, _ := Put(done(insert(many), 5), 3, 4)
		for at := range many {
			for _, n := range []int32{0, 97, 0xd7ff, 0xe000, 0x10ffff} {
				o := insert(many)
				o.Runes[at] = n
				l, e := Put(done(o, 5), 3, 4)
				if e != api.OK || len(l) != len(plain) {
					t.Fatalf("with %v: %v, %d", o, l, e)
				}
				for i, b := range l {
					for k := range b {
						place := 119*i + k - 9 - (3 + 37 + 4*at)
						inRune := k >= 9 && place >= 0 && place < 4
						if !inRune && b[k] != plain[i][k] {
							t.Errorf("with %v block %d differs at %d", o, i, k)
						}
					}
				}
			}
		}
	}
}

// The chapter's table of examples, row by row.
func TestExamples(t *testing.T) {
	h := handle(1, 1, 2)
	open := api.Record{Kind: api.RecOpen, Op: api.Op{By: h}, User: 3}
	l, e := Put(open, 1, 2)
	if e != api.OK || len(l) != 1 || !bytes.Equal(l[0][:17], []byte{0, 0, 0, 1, 0, 0, 2, 0, 1, 1, 1, 0, 0, 0, 1, 2, 3}) {
		t.Errorf("Put is %v, %d", l, e)
	}
	for _, x := range []struct {
		o    api.Op
		many int
	}{{insert(64), 3}, {insert(19), 1}, {cut(3), 1}} {
		if many, e := Count(api.Record{Kind: api.RecOp, Op: x.o}); e != api.OK || many != x.many {
			t.Errorf("Count of %v is %d, %d", x.o, many, e)
		}
	}
	wantGet(t, l, open, api.Head{Start: 1, Number: 2, Index: 0, Of: 1})
	refuse(t, nil)
	refusePut(t, open, 0, 2, api.ErrArg)
}
