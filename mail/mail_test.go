package mail

import (
	"bytes"
	"math"
	"math/rand"
	"slices"
	"strings"
	"testing"

	"blindstamp/api"
	"blindstamp/op"
)

// handle and id are short ways to make one.
func handle(level uint8, cats uint32, num uint8) api.Handle {
	return api.Handle{Label: api.Label{Level: level, Cats: cats}, Num: num}
}

func id(h api.Handle, counter int) api.Id {
	return api.Id{By: h, Counter: counter}
}

// letters has a row of so many runes, none a blank.
func letters(many int) []int32 {
	l := make([]int32, many)
	for i := range l {
		l[i] = int32(97 + i)
	}
	return l
}

// insert, cut and raise have an operation of each kind that may be, and is plain; hidden has an insert with a blank at a place.
func insert(many int) api.Op {
	h := handle(1, 1, 2)
	return api.Op{Kind: 1, By: h, Serial: 65538, Span: api.Span{From: id(h, 9), Many: many}, After: id(handle(1, 3, 3), 5), Runes: letters(many)}
}

func cut(many int) api.Op {
	h := handle(1, 1, 2)
	return api.Op{Kind: 2, By: h, Serial: 1, Span: api.Span{From: id(h, 9), Many: many}}
}

func raise(many int) api.Op {
	return api.Op{Kind: 3, By: handle(1, 1, 2), Serial: 1<<24 - 1, Span: api.Span{From: id(handle(0, 1, 1), 0x0102030405), Many: many}, To: api.Label{Level: 2, Cats: 0x01020304}}
}

func hidden(many, at int) api.Op {
	o := insert(many)
	o.Runes[at] = -1
	return o
}

func ops(l ...api.Op) []api.Op {
	return l
}

// plainOps, hiddenOps and wrongOps have operations that may be and are plain, that may be and have blanks, and that may not be.
func plainOps() []api.Op {
	beginning := insert(2)
	beginning.After = api.Id{}
	empty := cut(1)
	empty.Runes = []int32{}
	return ops(insert(1), insert(2), insert(64), cut(1), cut(2), cut(64), raise(1), raise(64), beginning, empty)
}

func hiddenOps() []api.Op {
	all := insert(64)
	all.Runes = slices.Repeat([]int32{-1}, 64)
	return ops(hidden(1, 0), hidden(2, 0), hidden(2, 1), hidden(64, 0), hidden(64, 31), hidden(64, 63), all)
}

func wrongOps() []api.Op {
	l := ops(api.Op{}, api.Op{Kind: 1}, api.Op{Kind: 2}, api.Op{Kind: 3})
	turn := func(o api.Op, do func(o *api.Op)) {
		do(&o)
		l = append(l, o)
	}
	for _, o := range []api.Op{insert(2), cut(2), raise(2)} {
		turn(o, func(o *api.Op) { o.Kind = 0 })
		turn(o, func(o *api.Op) { o.Kind = 4 })
		turn(o, func(o *api.Op) { o.Kind = 255 })
		turn(o, func(o *api.Op) { o.By.Num = 8 })
		turn(o, func(o *api.Op) { o.By.Label.Level = 16 })
		turn(o, func(o *api.Op) { o.Serial = 0 })
		turn(o, func(o *api.Op) { o.Serial = -1 })
		turn(o, func(o *api.Op) { o.Serial = 1 << 24 })
		turn(o, func(o *api.Op) { o.Span.Many = 0 })
		turn(o, func(o *api.Op) { o.Span.Many = 65 })
		turn(o, func(o *api.Op) { o.Span.From.Counter = 0 })
		turn(o, func(o *api.Op) { o.Span.From.Counter = 1 << 40 })
		turn(o, func(o *api.Op) { o.Runes = letters(3) })
		turn(o, func(o *api.Op) { o.Runes = []int32{-2, 97} })
	}
	turn(insert(2), func(o *api.Op) { o.Runes = nil })
	turn(insert(2), func(o *api.Op) { o.Span.From.By.Num = 3 })
	turn(insert(2), func(o *api.Op) { o.To = api.Label{Level: 1} })
	turn(cut(2), func(o *api.Op) { o.After = id(o.By, 5) })
	turn(cut(2), func(o *api.Op) { o.To = api.Label{Level: 1} })
	turn(raise(2), func(o *api.Op) { o.To.Level = 16 })
	return l
}

// counts, codes and users have numbers that may be; the wrong ones those that may not.
func counts() []int {
	return []int{0, 1, 2, 255, 256, 258, 0x010203, 65535, 65536, 1<<24 - 2, 1<<24 - 1}
}

func wrongCounts() []int {
	return []int{-1, -2, -255, -256, -1 << 24, -1<<24 + 1, 1 << 24, 1<<24 + 1, 1<<24 + 258, 1 << 31, 1<<32 + 1, 1 << 56, math.MaxInt - 1, math.MaxInt, math.MinInt, math.MinInt + 1}
}

func codes() []api.Errno {
	return []api.Errno{0, 1, 2, 8, 80, 90, 230, 231, 255, 256, 260, 0x0102, 1<<16 - 2, 1<<16 - 1}
}

func wrongCodes() []api.Errno {
	return []api.Errno{-1, -2, -256, -65535, -65536, 1 << 16, 1<<16 + 1, 1<<16 + 260, 1 << 24, 1<<32 + 1, math.MaxInt - 1, math.MaxInt, math.MinInt, math.MinInt + 1}
}

func users() []int {
	return []int{0, 1, 2, 3, 7, 8, 127, 128, 254, 255}
}

func wrongUsers() []int {
	return []int{-1, -2, -255, -256, 256, 257, 512, 1 << 16, 1 << 24, 1<<32 + 1, math.MaxInt - 1, math.MaxInt, math.MinInt, math.MinInt + 1}
}

func wrongAsked() []uint8 {
	return []uint8{0, 3, 4, 127, 128, 129, 130, 254, 255}
}

// pages has lists of operations that a page may have.
func pages() [][]api.Op {
	l := [][]api.Op{nil, {}, ops(insert(64), insert(64), insert(64)), ops(raise(1), cut(1), insert(1)), ops(hidden(2, 0), hidden(2, 1), hidden(3, 1)), ops(cut(1), cut(1), cut(1))}
	all := slices.Concat(plainOps(), hiddenOps())
	for i, o := range all {
		next := all[(i+1)%len(all)]
		l = append(l, ops(o), ops(o, next), ops(next, o, cut(3)), ops(raise(2), next, o))
	}
	return l
}

// ofEachKind has mail of each kind that may be; the tests turn what they ask about.
func ofEachKind() []api.Mail {
	return []api.Mail{
		{Kind: 1, User: 3},
		{Kind: 2, Ops: ops(insert(2))},
		{Kind: 2, Ops: ops(cut(3))},
		{Kind: 2, Ops: ops(raise(64))},
		{Kind: 3, From: 0x010203},
		{Kind: 4, Asked: 1},
		{Kind: 4, Asked: 2},
		{Kind: 5},
		{Kind: 6, Code: 0x0102},
		{Kind: 7, Serial: 0x010203, Code: 0x0405},
		{Kind: 8, From: 0x010203, Total: 0x040506},
		{Kind: 8, From: 1, Total: 2, Ops: ops(cut(2))},
		{Kind: 8, From: 0x010203, Total: 0x040506, Ops: ops(insert(2), raise(2))},
		{Kind: 8, From: 0x010203, Total: 0x040506, Ops: ops(hidden(2, 1), cut(1), insert(1))},
		{Kind: 9, Asked: 1, Told: [4]int{0x010203, 0x040506, 0x070809, 0x0a0b0c}},
		{Kind: 9, Asked: 2, Told: [4]int{1, 2, 3, 4}},
		{Kind: 10, Code: 0x0102},
	}
}

// goodOnes has mail that may be: of each kind, with the edges of each field.
func goodOnes() []api.Mail {
	l := append(ofEachKind(), api.Mail{Kind: 5, Ops: ops()}, api.Mail{Kind: 1, Ops: ops()})
	for _, n := range users() {
		l = append(l, api.Mail{Kind: 1, User: n})
	}
	for _, o := range plainOps() {
		l = append(l, api.Mail{Kind: 2, Ops: ops(o)})
	}
	for _, n := range counts() {
		l = append(l, api.Mail{Kind: 3, From: n}, api.Mail{Kind: 8, From: n}, api.Mail{Kind: 8, Total: n}, api.Mail{Kind: 8, From: n, Total: 7, Ops: ops(cut(1))})
		if n > 0 {
			l = append(l, api.Mail{Kind: 7, Serial: n}, api.Mail{Kind: 7, Serial: n, Code: 260})
		}
		for at := range 4 {
			m := api.Mail{Kind: 9, Asked: 2}
			m.Told[at] = n
			l = append(l, m)
		}
		l = append(l, api.Mail{Kind: 9, Asked: 1, Told: [4]int{n, n, n, n}})
	}
	for _, e := range codes() {
		l = append(l, api.Mail{Kind: 6, Code: e}, api.Mail{Kind: 7, Serial: 1, Code: e}, api.Mail{Kind: 10, Code: e})
	}
	for _, p := range pages() {
		l = append(l, api.Mail{Kind: 8, Ops: p}, api.Mail{Kind: 8, From: 1<<24 - 1, Total: 1<<24 - 1, Ops: p})
	}
	return l
}

// turned has copies of mail, each with one thing done to it.
func turned(m api.Mail, l ...func(m *api.Mail)) []api.Mail {
	var out []api.Mail
	for _, do := range l {
		c := m
		c.Ops = slices.Clone(m.Ops)
		do(&c)
		out = append(out, c)
	}
	return out
}

// wrongOnes has mail that may not be, each by one thing.
func wrongOnes() []api.Mail {
	l := []api.Mail{{}, {Kind: 2}, {Kind: 4}, {Kind: 7}, {Kind: 9}, {Kind: 7, Code: 1}}
	for _, m := range ofEachKind() {
		for _, kind := range []uint8{0, 11, 12, 16, 127, 128, 129, 133, 138, 255} {
			l = append(l, turned(m, func(m *api.Mail) { m.Kind = kind })...)
		}
		l = append(l, wrongNumbers(m)...)
		l = append(l, wrongLists(m)...)
		l = append(l, notIts(m)...)
	}
	return l
}

// wrongNumbers has m with each of its numbers turned to what it may not be.
func wrongNumbers(m api.Mail) []api.Mail {
	var l []api.Mail
	if m.Kind == 1 {
		for _, n := range wrongUsers() {
			l = append(l, turned(m, func(m *api.Mail) { m.User = n })...)
		}
	}
	for _, n := range wrongCounts() {
		if m.Kind == 3 || m.Kind == 8 {
			l = append(l, turned(m, func(m *api.Mail) { m.From = n })...)
		}
		if m.Kind == 7 {
			l = append(l, turned(m, func(m *api.Mail) { m.Serial = n }, func(m *api.Mail) { m.Serial = 0 })...)
		}
		if m.Kind == 8 {
			l = append(l, turned(m, func(m *api.Mail) { m.Total = n })...)
		}
		if m.Kind == 9 {
			for at := range 4 {
				l = append(l, turned(m, func(m *api.Mail) { m.Told[at] = n })...)
			}
		}
	}
	if m.Kind == 6 || m.Kind == 7 || m.Kind == 10 {
		for _, e := range wrongCodes() {
			l = append(l, turned(m, func(m *api.Mail) { m.Code = e })...)
		}
	}
	if m.Kind == 4 || m.Kind == 9 {
		for _, n := range wrongAsked() {
			l = append(l, turned(m, func(m *api.Mail) { m.Asked = n })...)
		}
	}
	return l
}

// wrongLists has a submit or a page with operations that it may not have.
func wrongLists(m api.Mail) []api.Mail {
	var lists [][]api.Op
	if m.Kind == 2 {
		lists = append(lists, nil, ops(), ops(cut(1), cut(1)), ops(insert(1), cut(1)), ops(cut(1), cut(2), cut(3)), ops(cut(1), hidden(2, 0)), ops(cut(1), api.Op{}))
		for _, o := range slices.Concat(wrongOps(), hiddenOps()) {
			lists = append(lists, ops(o))
		}
	}
	if m.Kind == 8 {
		lists = append(lists, ops(cut(1), cut(2), cut(3), cut(4)), ops(insert(64), insert(64), insert(64), insert(64)), slices.Repeat(ops(cut(1)), 5), slices.Repeat(ops(cut(1)), 255), slices.Repeat(ops(cut(1)), 256), slices.Repeat(ops(cut(1)), 257), slices.Repeat(ops(cut(1)), 259))
		for _, o := range wrongOps() {
			lists = append(lists, ops(o), ops(o, cut(1)), ops(cut(1), o), ops(o, cut(1), raise(1)), ops(cut(1), o, raise(1)), ops(cut(1), hidden(2, 0), o), ops(o, o, o), ops(cut(1), cut(1), cut(1), o))
		}
	}
	var out []api.Mail
	for _, l := range lists {
		out = append(out, turned(m, func(m *api.Mail) { m.Ops = l })...)
	}
	return out
}

// fieldsOf names, by kinds, the fields that mail has: User, Serial, the Errno Code, From, Total, Asked, the Numbers told, Ops.
func fieldsOf(kind uint8) string {
	return []string{"", "U", "O", "F", "A", "", "E", "SE", "FTO", "AN", "E"}[kind]
}

// notIts has m with each field that its kind does not have set to something.
func notIts(m api.Mail) []api.Mail {
	var l []api.Mail
	set := func(field string, do func(m *api.Mail)) {
		if !strings.Contains(fieldsOf(m.Kind), field) {
			l = append(l, turned(m, do)...)
		}
	}
	for _, n := range []int{1, 2, 3, 255, 256, -1, 1 << 24, 1 << 32, math.MaxInt, math.MinInt} {
		set("U", func(m *api.Mail) { m.User = n })
		set("S", func(m *api.Mail) { m.Serial = n })
		set("E", func(m *api.Mail) { m.Code = api.Errno(n) })
		set("F", func(m *api.Mail) { m.From = n })
		set("T", func(m *api.Mail) { m.Total = n })
		for at := range 4 {
			set("N", func(m *api.Mail) { m.Told[at] = n })
		}
		set("N", func(m *api.Mail) { m.Told = [4]int{n, n, n, n} })
	}
	for _, n := range []uint8{1, 2, 3, 128, 255} {
		set("A", func(m *api.Mail) { m.Asked = n })
	}
	for _, o := range []api.Op{cut(1), insert(2), hidden(2, 0), {}} {
		set("O", func(m *api.Mail) { m.Ops = ops(o) })
		set("O", func(m *api.Mail) { m.Ops = ops(o, o, o) })
	}
	set("U", func(m *api.Mail) { m.User, m.From, m.Total, m.Serial = 1, 1, 1, 1 })
	return l
}

// sameOps and equal tell whether operations, and mail, are the same, field by field.
func sameOps(a, b []api.Op) bool {
	if len(a) != len(b) {
		return false
	}
	for i, x := range a {
		y := b[i]
		if x.Kind != y.Kind || x.By != y.By || x.Serial != y.Serial || x.Span != y.Span || x.After != y.After || x.To != y.To || !slices.Equal(x.Runes, y.Runes) {
			return false
		}
	}
	return true
}

func equal(a, b api.Mail) bool {
	return a.Kind == b.Kind && a.User == b.User && a.Serial == b.Serial && a.Code == b.Code && a.From == b.From && a.Total == b.Total && a.Asked == b.Asked && a.Told == b.Told && sameOps(a.Ops, b.Ops)
}

// mayBe is the document's words, told by plain numbers alone, and what layer 9 tells of operations.
func mayBe(m api.Mail) bool {
	in := func(n, first, last int) bool { return n >= first && n <= last }
	left := m
	left.Kind = 0
	may := true
	switch m.Kind {
	case 1:
		may, left.User = in(m.User, 0, 255), 0
	case 2:
		may, left.Ops = len(m.Ops) == 1 && op.Check(m.Ops[0]) == api.OK && !slices.Contains(m.Ops[0].Runes, -1), nil
	case 3:
		may, left.From = in(m.From, 0, 16777215), 0
	case 4:
		may, left.Asked = in(int(m.Asked), 1, 2), 0
	case 5:
	case 6, 10:
		may, left.Code = in(int(m.Code), 0, 65535), 0
	case 7:
		may, left.Serial, left.Code = in(m.Serial, 1, 16777215) && in(int(m.Code), 0, 65535), 0, 0
	case 8:
		may = in(m.From, 0, 16777215) && in(m.Total, 0, 16777215) && len(m.Ops) < 4
		for _, o := range m.Ops {
			may = may && op.Check(o) == api.OK
		}
		left.From, left.Total, left.Ops = 0, 0, nil
	case 9:
		may = in(int(m.Asked), 1, 2)
		for _, n := range m.Told {
			may = may && in(n, 0, 16777215)
		}
		left.Asked, left.Told = 0, [4]int{}
	default:
		return false
	}
	return may && equal(left, api.Mail{})
}

// digitsOf has a number's bytes, so many, told by division.
func digitsOf(n, many int) []byte {
	b := make([]byte, many)
	for i := many - 1; i >= 0; i-- {
		b[i] = byte(n % 256)
		n /= 256
	}
	return b
}

// opBytes has the bytes of an operation, told another way, and those that one would have that may not be.
func opBytes(o api.Op) []byte {
	whose := func(h api.Handle) []byte {
		return slices.Concat([]byte{h.Label.Level}, digitsOf(int(h.Label.Cats), 4), []byte{h.Num})
	}
	b := slices.Concat([]byte{o.Kind}, whose(o.By), digitsOf(o.Serial, 3), whose(o.Span.From.By), digitsOf(o.Span.From.Counter, 7), []byte{byte(o.Span.Many)})
	if o.Kind == 1 {
		b = append(append(b, whose(o.After.By)...), digitsOf(o.After.Counter, 7)...)
		for _, n := range o.Runes {
			b = append(b, digitsOf(int(uint32(n)), 4)...)
		}
	}
	if o.Kind == 3 {
		b = append(append(b, o.To.Level), digitsOf(int(o.To.Cats), 4)...)
	}
	return b
}

// written has mail's bytes, told another way, and those that mail would have that may not be: of numbers that have no room the lowest bytes.
func written(m api.Mail) []byte {
	b := []byte{m.Kind}
	switch m.Kind {
	case 1:
		b = append(b, byte(m.User))
	case 3:
		b = append(b, digitsOf(m.From, 3)...)
	case 4, 9:
		b = append(b, m.Asked)
	case 6, 10:
		b = append(b, digitsOf(int(m.Code), 2)...)
	case 7:
		b = slices.Concat(b, digitsOf(m.Serial, 3), digitsOf(int(m.Code), 2))
	case 8:
		b = slices.Concat(b, digitsOf(m.From, 3), digitsOf(m.Total, 3), []byte{byte(len(m.Ops))})
	}
	if m.Kind == 9 {
		for _, n := range m.Told {
			b = append(b, digitsOf(n, 3)...)
		}
	}
	for _, o := range m.Ops {
		b = append(b, opBytes(o)...)
	}
	return b
}

// numberAt is the number whose bytes stand from a place on.
func numberAt(b []byte, at, many int) int {
	n := 0
	for i := range many {
		n = n*256 + int(b[at+i])
	}
	return n
}

// toldBy is the mail whose bytes b are, by places counted from the beginning, and whether there is such.
func toldBy(b []byte) (api.Mail, bool) {
	if len(b) == 0 || b[0] > 10 {
		return api.Mail{}, false
	}
	long := []int{0, 2, 1, 4, 2, 1, 3, 6, 8, 14, 3}[b[0]]
	if len(b) < long {
		return api.Mail{}, false
	}
	m := api.Mail{Kind: b[0]}
	many := 0
	switch b[0] {
	case 1:
		m.User = int(b[1])
	case 2:
		many = 1
	case 3:
		m.From = numberAt(b, 1, 3)
	case 4:
		m.Asked = b[1]
	case 6, 10:
		m.Code = api.Errno(numberAt(b, 1, 2))
	case 7:
		m.Serial, m.Code = numberAt(b, 1, 3), api.Errno(numberAt(b, 4, 2))
	case 8:
		m.From, m.Total, many = numberAt(b, 1, 3), numberAt(b, 4, 3), int(b[7])
	case 9:
		m.Asked, m.Told = b[1], [4]int{numberAt(b, 2, 3), numberAt(b, 5, 3), numberAt(b, 8, 3), numberAt(b, 11, 3)}
	}
	for range many {
		o, size, e := op.Get(b[long:])
		if e != api.OK {
			return api.Mail{}, false
		}
		m.Ops = append(m.Ops, o)
		long += size
	}
	if long != len(b) || !mayBe(m) {
		return api.Mail{}, false
	}
	return m, true
}

// nothing tells whether mail is the zero value, with no operations.
func nothing(m api.Mail) bool {
	return equal(m, api.Mail{}) && m.Ops == nil
}

func wantCheck(t *testing.T, m api.Mail, want api.Errno) {
	t.Helper()
	if e := Check(m); e != want {
		t.Errorf("Check(%v) is %d, not %d", m, e, want)
	}
	if up := Up(m); up != (want == api.OK && m.Kind <= 5) {
		t.Errorf("Up(%v) is %v", m, up)
	}
}

func wantPut(t *testing.T, m api.Mail) {
	t.Helper()
	if b, e := Put(m); e != api.OK || !bytes.Equal(b, written(m)) {
		t.Errorf("Put(%v) is %v, %d", m, b, e)
	}
}

func refusePut(t *testing.T, m api.Mail) {
	t.Helper()
	if b, e := Put(m); e != api.ErrBad || b != nil {
		t.Errorf("Put(%v) is %v, %d, not an error", m, b, e)
	}
}

func wantGet(t *testing.T, b []byte, want api.Mail) {
	t.Helper()
	if m, e := Get(b); e != api.OK || !equal(m, want) {
		t.Errorf("Get(%v) is %v, %d, not %v", b, m, e, want)
	}
}

func refuse(t *testing.T, b []byte) {
	t.Helper()
	if m, e := Get(b); e != api.ErrMail || !nothing(m) {
		t.Errorf("Get(%v) is %v, %d, not an error", b, m, e)
	}
}

// asTold asks Get for what toldBy tells of the same bytes, and tells whether that is mail.
func asTold(t *testing.T, b []byte) bool {
	t.Helper()
	m, ok := toldBy(b)
	if ok {
		wantGet(t, b, m)
	} else {
		refuse(t, b)
	}
	return ok
}

// P10.1 Check, Up: mail of each kind that may be, with each field's edges.
func TestCheckGoodOnes(t *testing.T) {
	for _, m := range goodOnes() {
		if !mayBe(m) {
			t.Fatalf("%v is not to be among the good ones", m)
		}
		wantCheck(t, m, api.OK)
	}
}

// P10.1 Check, Up: mail that may not be, each by one thing; it goes nowhere.
func TestCheckWrongOnes(t *testing.T) {
	for _, m := range wrongOnes() {
		if mayBe(m) {
			t.Fatalf("%v is not to be among the wrong ones", m)
		}
		wantCheck(t, m, api.ErrBad)
	}
}

// P10.1 Check, Up: each kind, with nothing beside it, and with the fields of each of the ten.
func TestCheckEachKind(t *testing.T) {
	bare := []uint8{1, 3, 5, 6, 8, 10}
	for kind := range 256 {
		want := api.ErrBad
		if slices.Contains(bare, uint8(kind)) {
			want = api.OK
		}
		wantCheck(t, api.Mail{Kind: uint8(kind)}, want)
		for _, m := range ofEachKind() {
			m.Kind = uint8(kind)
			want := api.ErrBad
			if mayBe(m) {
				want = api.OK
			}
			if kind == 0 || kind > 10 {
				want = api.ErrBad
			}
			wantCheck(t, m, want)
		}
	}
}

// P10.1 Check: the numbers' edges, written out.
func TestCheckEdges(t *testing.T) {
	edges := func(field string, of func(n int) api.Mail, first, last int) {
		for _, n := range []int{math.MinInt, math.MinInt + 1, -1 << 32, -last - 1, -last, -1, 0, 1, 2, first - 1, first, first + 1, last - 1, last, last + 1, last + 2, 2*last + 1, 2*last + 2, 1 << 31, 1 << 32, 1<<32 + 1, math.MaxInt - 1, math.MaxInt} {
			want := api.ErrBad
			if n >= first && n <= last {
				want = api.OK
			}
			if e := Check(of(n)); e != want {
				t.Errorf("%s of %v is %d: %d, not %d", field, of(n), n, e, want)
			}
		}
	}
	edges("User", func(n int) api.Mail { return api.Mail{Kind: 1, User: n} }, 0, 255)
	edges("From", func(n int) api.Mail { return api.Mail{Kind: 3, From: n} }, 0, 1<<24-1)
	edges("Code", func(n int) api.Mail { return api.Mail{Kind: 6, Code: api.Errno(n)} }, 0, 1<<16-1)
	edges("Serial", func(n int) api.Mail { return api.Mail{Kind: 7, Serial: n} }, 1, 1<<24-1)
	edges("Code", func(n int) api.Mail { return api.Mail{Kind: 7, Serial: 1, Code: api.Errno(n)} }, 0, 1<<16-1)
	edges("From", func(n int) api.Mail { return api.Mail{Kind: 8, From: n} }, 0, 1<<24-1)
	edges("Total", func(n int) api.Mail { return api.Mail{Kind: 8, Total: n} }, 0, 1<<24-1)
	for at := range 4 {
		edges("Told", func(n int) api.Mail {
			m := api.Mail{Kind: 9, Asked: 1}
			m.Told[at] = n
			return m
		}, 0, 1<<24-1)
	}
	edges("Code", func(n int) api.Mail { return api.Mail{Kind: 10, Code: api.Errno(n)} }, 0, 1<<16-1)
	for asked := range 256 {
		for _, kind := range []uint8{4, 9} {
			want := api.ErrBad
			if asked == 1 || asked == 2 {
				want = api.OK
			}
			wantCheck(t, api.Mail{Kind: kind, Asked: uint8(asked)}, want)
		}
	}
}

// P10.1 Check: a page's From and Total need not have to do with one another, nor with how many operations there are.
func TestCheckPageNumbers(t *testing.T) {
	for _, from := range counts() {
		for _, total := range counts() {
			for many := range 4 {
				wantCheck(t, api.Mail{Kind: 8, From: from, Total: total, Ops: slices.Repeat(ops(cut(1)), many)}, api.OK)
			}
		}
	}
}

// P10.1 Check: of each kind each field that it does not have, set to something; and that there are such of each.
func TestCheckNotIts(t *testing.T) {
	for _, m := range ofEachKind() {
		l := notIts(m)
		if len(l) < 40 {
			t.Errorf("%v: %d are asked", m, len(l))
		}
		for _, x := range l {
			wantCheck(t, x, api.ErrBad)
			refusePut(t, x)
		}
	}
}

// P10.1 Check: how many operations a submit and a page may have; those of all others are none, nil or empty.
func TestCheckHowMany(t *testing.T) {
	for kind := range uint8(12) {
		for many := range 300 {
			for _, o := range []api.Op{cut(1), insert(2), raise(2)} {
				m := api.Mail{Kind: kind, Ops: slices.Repeat(ops(o), many)}
				want := api.ErrBad
				if kind == 2 && many == 1 || kind == 8 && many <= 3 || many == 0 && strings.ContainsRune("\x01\x03\x05\x06\x0a", rune(kind)) {
					want = api.OK
				}
				wantCheck(t, m, want)
			}
		}
	}
	for _, m := range ofEachKind() {
		if len(m.Ops) == 0 {
			m.Ops = ops()
			wantCheck(t, m, api.OK)
			m.Ops = ops(cut(1))[:0]
			wantCheck(t, m, api.OK)
			wantPut(t, m)
		}
	}
}

// P10.1 Check: a submit's operation is to be plain, with a blank at each place it is not; a page's need not.
func TestCheckBlanks(t *testing.T) {
	for many := 1; many <= 64; many++ {
		wantCheck(t, api.Mail{Kind: 2, Ops: ops(insert(many))}, api.OK)
		for at := range many {
			o := hidden(many, at)
			wantCheck(t, api.Mail{Kind: 2, Ops: ops(o)}, api.ErrBad)
			wantCheck(t, api.Mail{Kind: 8, Ops: ops(o)}, api.OK)
			wantCheck(t, api.Mail{Kind: 8, Ops: ops(cut(1), o, hidden(many, 0))}, api.OK)
		}
	}
}

// P10.1 Check: an operation that may not be, at each place of a page, beside others that may be.
func TestCheckEachPlace(t *testing.T) {
	for _, wrong := range wrongOps() {
		for many := 1; many <= 3; many++ {
			for at := range many {
				l := slices.Repeat(ops(hidden(2, 1)), many)
				wantCheck(t, api.Mail{Kind: 8, Ops: l}, api.OK)
				l[at] = wrong
				wantCheck(t, api.Mail{Kind: 8, Ops: l}, api.ErrBad)
			}
		}
	}
}

// P10.1 Up: of each kind, mail that may be, and mail of it that may not.
func TestUp(t *testing.T) {
	seen := map[uint8]int{}
	for _, m := range goodOnes() {
		seen[m.Kind]++
		if Up(m) != (m.Kind == 1 || m.Kind == 2 || m.Kind == 3 || m.Kind == 4 || m.Kind == 5) {
			t.Errorf("Up(%v) is %v", m, Up(m))
		}
	}
	if len(seen) != 10 {
		t.Errorf("%d kinds were asked", len(seen))
	}
	for _, m := range wrongOnes() {
		if Up(m) {
			t.Errorf("%v goes up", m)
		}
	}
}

// P10.2 Put: each kind, byte by byte.
func TestPutBytes(t *testing.T) {
	h := handle(15, 0x01020304, 7)
	o := api.Op{Kind: 1, By: h, Serial: 0x0a0b0c, Span: api.Span{From: id(h, 0x1112131415), Many: 2}, Runes: []int32{0x10ffff, 97}}
	hid := o
	hid.Runes = []int32{-1, 97}
	head := "\x01\x0f\x01\x02\x03\x04\x07\x0a\x0b\x0c\x0f\x01\x02\x03\x04\x07\x00\x00\x11\x12\x13\x14\x15\x02" + strings.Repeat("\x00", 13)
	plain, blank := head+"\x00\x10\xff\xff\x00\x00\x00\x61", head+"\xff\xff\xff\xff\x00\x00\x00\x61"
	deleted := "\x02\x01\x00\x00\x00\x01\x02\x00\x00\x01\x01\x00\x00\x00\x01\x02\x00\x00\x00\x00\x00\x00\x09\x03"
	raised := "\x03\x01\x00\x00\x00\x01\x02\xff\xff\xff\x00\x00\x00\x00\x01\x01\x00\x00\x01\x02\x03\x04\x05\x02\x02\x01\x02\x03\x04"
	for _, x := range []struct {
		m api.Mail
		b string
	}{
		{api.Mail{Kind: 1}, "\x01\x00"},
		{api.Mail{Kind: 1, User: 255}, "\x01\xff"},
		{api.Mail{Kind: 2, Ops: ops(o)}, "\x02" + plain},
		{api.Mail{Kind: 2, Ops: ops(cut(3))}, "\x02" + deleted},
		{api.Mail{Kind: 2, Ops: ops(raise(2))}, "\x02" + raised},
		{api.Mail{Kind: 3}, "\x03\x00\x00\x00"},
		{api.Mail{Kind: 3, From: 0x010203}, "\x03\x01\x02\x03"},
		{api.Mail{Kind: 3, From: 1<<24 - 1}, "\x03\xff\xff\xff"},
		{api.Mail{Kind: 4, Asked: 1}, "\x04\x01"},
		{api.Mail{Kind: 4, Asked: 2}, "\x04\x02"},
		{api.Mail{Kind: 5}, "\x05"},
		{api.Mail{Kind: 6}, "\x06\x00\x00"},
		{api.Mail{Kind: 6, Code: 0x0102}, "\x06\x01\x02"},
		{api.Mail{Kind: 6, Code: 1<<16 - 1}, "\x06\xff\xff"},
		{api.Mail{Kind: 7, Serial: 0x010203, Code: 0x0405}, "\x07\x01\x02\x03\x04\x05"},
		{api.Mail{Kind: 7, Serial: 1<<24 - 1}, "\x07\xff\xff\xff\x00\x00"},
		{api.Mail{Kind: 7, Serial: 1, Code: 1<<16 - 1}, "\x07\x00\x00\x01\xff\xff"},
		{api.Mail{Kind: 8}, "\x08\x00\x00\x00\x00\x00\x00\x00"},
		{api.Mail{Kind: 8, From: 0x010203, Total: 0x040506}, "\x08\x01\x02\x03\x04\x05\x06\x00"},
		{api.Mail{Kind: 8, From: 1<<24 - 1, Ops: ops(hid)}, "\x08\xff\xff\xff\x00\x00\x00\x01" + blank},
		{api.Mail{Kind: 8, Total: 1<<24 - 1, Ops: ops(cut(3), hid)}, "\x08\x00\x00\x00\xff\xff\xff\x02" + deleted + blank},
		{api.Mail{Kind: 8, From: 1, Total: 2, Ops: ops(raise(2), o, cut(3))}, "\x08\x00\x00\x01\x00\x00\x02\x03" + raised + plain + deleted},
		{api.Mail{Kind: 9, Asked: 1}, "\x09\x01\x00\x00\x00\x00\x00\x00\x00\x00\x00\x00\x00\x00"},
		{api.Mail{Kind: 9, Asked: 2, Told: [4]int{0x010203, 0x040506, 0x070809, 0x0a0b0c}}, "\x09\x02\x01\x02\x03\x04\x05\x06\x07\x08\x09\x0a\x0b\x0c"},
		{api.Mail{Kind: 10}, "\x0a\x00\x00"},
		{api.Mail{Kind: 10, Code: 0x0102}, "\x0a\x01\x02"},
	} {
		if b, e := Put(x.m); e != api.OK || string(b) != x.b {
			t.Errorf("Put(%v) is %v, %d", x.m, b, e)
		}
		wantGet(t, []byte(x.b), x.m)
	}
}

// P10.2 Put, Get, P10.4: all mail that may be: what is put is got.
func TestPutAndGet(t *testing.T) {
	for _, m := range goodOnes() {
		wantPut(t, m)
		wantGet(t, written(m), m)
		b, _ := Put(m)
		wantGet(t, b, m)
	}
}

// P10.2 Put: Check's error, and no bytes beside it.
func TestPutWrongOnes(t *testing.T) {
	for _, m := range wrongOnes() {
		refusePut(t, m)
	}
}

// P10.2 Get: no bytes at all, and bytes that are all the same.
func TestGetNothing(t *testing.T) {
	refuse(t, nil)
	refuse(t, []byte{})
	refuse(t, []byte{5}[:0])
	for many := 1; many <= 1000; many++ {
		refuse(t, make([]byte, many))
		refuse(t, bytes.Repeat([]byte{255}, many))
	}
	for first := range 256 {
		for many := range 40 {
			asTold(t, append([]byte{byte(first)}, make([]byte, many)...))
			asTold(t, append([]byte{byte(first)}, bytes.Repeat([]byte{1}, many)...))
		}
	}
}

// P10.2 Get: all of two bytes, and of three those of few kinds: as many users, questions and codes as there are.
func TestGetAllShort(t *testing.T) {
	good := 0
	for a := range 256 {
		asTold(t, []byte{byte(a)})
		for b := range 256 {
			if asTold(t, []byte{byte(a), byte(b)}) {
				good++
			}
		}
	}
	if good != 256+2 {
		t.Errorf("%d of two bytes are mail", good)
	}
	for code := range 1 << 16 {
		b := []byte{6, byte(code >> 8), byte(code)}
		wantGet(t, b, api.Mail{Kind: 6, Code: api.Errno(code)})
		b[0] = 10
		wantGet(t, b, api.Mail{Kind: 10, Code: api.Errno(code)})
	}
}

// P10.2 Get: each mail's bytes with some taken away at the end, whether they lie behind or not, and at the beginning.
func TestGetCutShort(t *testing.T) {
	for _, m := range goodOnes() {
		b := written(m)
		refuse(t, b[:len(b)-1])
		refuse(t, b[:len(b)-1:len(b)-1])
		asTold(t, b[1:])
	}
	for _, m := range ofEachKind() {
		b := written(m)
		for many := range b {
			refuse(t, b[:many])
			refuse(t, bytes.Clone(b[:many]))
		}
	}
}

// P10.2 Get: each mail's bytes with one and with more behind.
func TestGetWithMore(t *testing.T) {
	for _, m := range goodOnes() {
		b := written(m)
		for _, more := range [][]byte{{0}, {1}, {5}, {255}, {0, 0}, {1, 2, 3}, make([]byte, 300), opBytes(cut(1)), opBytes(insert(2)), {5, 5}, b} {
			refuse(t, slices.Concat(b, more))
		}
	}
	for _, m := range ofEachKind() {
		for behind := range 256 {
			refuse(t, append(written(m), byte(behind)))
		}
	}
}

// P10.2 Get: each byte turned to each other one.
func TestGetOneByteTurned(t *testing.T) {
	for _, m := range append(ofEachKind(), api.Mail{Kind: 7, Serial: 1}) {
		good := 0
		b := written(m)
		for at := range b {
			for turn := 1; turn < 256; turn++ {
				b[at] ^= byte(turn)
				if asTold(t, b) {
					good++
				}
				if again, e := Get(b); e == api.OK && equal(again, m) {
					t.Errorf("at %d turned by %d, %v is the same", at, turn, m)
				}
				b[at] ^= byte(turn)
			}
		}
		if good == 0 && m.Kind != 5 {
			t.Errorf("%v: none may be", m)
		}
	}
}

// P10.2 Get: the bytes of mail that may not be, as far as its fields have room, with nothing behind, and with enough to go on.
func TestGetWrongOnes(t *testing.T) {
	refused := 0
	for _, m := range wrongOnes() {
		b := written(m)
		if !asTold(t, b) {
			refused++
		}
		asTold(t, append(b, make([]byte, 300)...))
	}
	if refused < 1000 {
		t.Errorf("%d are refused", refused)
	}
}

// P10.2 Get: kinds, serials and questions that may not be, written out.
func TestGetEachPart(t *testing.T) {
	for kind := range 256 {
		for _, m := range ofEachKind() {
			b := written(m)
			b[0] = byte(kind)
			asTold(t, b)
			if kind == 0 || kind > 10 {
				refuse(t, b)
			}
		}
	}
	for _, b := range []string{
		"\x07\x00\x00\x00\x00\x00", "\x07\x00\x00\x00\x00\x02", "\x07\x00\x00\x00\xff\xff",
		"\x04\x00", "\x04\x03", "\x04\x80", "\x04\xff",
		"\x09\x00\x00\x00\x01\x00\x00\x02\x00\x00\x03\x00\x00\x04", "\x09\x03\x00\x00\x01\x00\x00\x02\x00\x00\x03\x00\x00\x04", "\x09\xff\x00\x00\x01\x00\x00\x02\x00\x00\x03\x00\x00\x04",
		"\x05\x00", "\x05\x05", "\x06\x00", "\x0a\x00", "\x01", "\x01\x00\x00", "\x0b", "\x00",
	} {
		refuse(t, []byte(b))
	}
}

// pageBytes has the bytes of a page that says that there are so many operations, whatever stands behind.
func pageBytes(says byte, l ...api.Op) []byte {
	b := []byte{8, 0, 0, 1, 0, 0, 2, says}
	for _, o := range l {
		b = append(b, opBytes(o)...)
	}
	return b
}

// P10.2 Get: a page that says more or fewer operations than stand behind it, or more than may be.
func TestGetPageSaysHowMany(t *testing.T) {
	for _, o := range slices.Concat(plainOps(), hiddenOps()) {
		for has := range 8 {
			l := slices.Repeat(ops(o), has)
			for says := range 256 {
				b := pageBytes(byte(says), l...)
				if says == has && has <= 3 {
					wantGet(t, b, api.Mail{Kind: 8, From: 1, Total: 2, Ops: l})
				} else {
					refuse(t, b)
				}
			}
		}
	}
	for _, says := range []int{4, 5, 127, 128, 254, 255} {
		refuse(t, pageBytes(byte(says), slices.Repeat(ops(cut(1)), says)...))
		refuse(t, pageBytes(byte(says), slices.Repeat(ops(cut(1)), says+1)...))
	}
	refuse(t, pageBytes(0, slices.Repeat(ops(cut(1)), 256)...))
	refuse(t, pageBytes(1, slices.Repeat(ops(cut(1)), 257)...))
}

// P10.2 Get: a page, and a submit, with an operation's bytes that may not be, at each place.
func TestGetWrongOperations(t *testing.T) {
	asked := 0
	for _, wrong := range wrongOps() {
		_, _, e := op.Get(append(opBytes(wrong), make([]byte, 300)...))
		if wrong.Serial < 0 || wrong.Serial >= 1<<24 || e == api.OK {
			continue
		}
		asked++
		refuse(t, append([]byte{2}, opBytes(wrong)...))
		for many := 1; many <= 3; many++ {
			for at := range many {
				l := slices.Repeat(ops(cut(1)), many)
				l[at] = wrong
				refuse(t, pageBytes(byte(many), l...))
				refuse(t, pageBytes(byte(many-1), l...))
				refuse(t, pageBytes(byte(many), append(l, cut(1))...))
			}
		}
	}
	if asked < 20 {
		t.Errorf("%d were asked", asked)
	}
}

// P10.2 Get: a submit whose operation is not plain, has none, or two.
func TestGetSubmits(t *testing.T) {
	for _, o := range hiddenOps() {
		refuse(t, append([]byte{2}, opBytes(o)...))
		wantGet(t, pageBytes(1, o), api.Mail{Kind: 8, From: 1, Total: 2, Ops: ops(o)})
	}
	refuse(t, []byte{2})
	for _, o := range plainOps() {
		wantGet(t, append([]byte{2}, opBytes(o)...), api.Mail{Kind: 2, Ops: ops(o)})
		refuse(t, slices.Concat([]byte{2}, opBytes(o), opBytes(o)))
		refuse(t, slices.Concat([]byte{2}, opBytes(o), opBytes(cut(1))))
	}
}

// mixedMail has mail whose fields are drawn: one that may be with a few things turned.
func mixedMail(r *rand.Rand) api.Mail {
	pool := ofEachKind()
	m := pool[r.Intn(len(pool))]
	pick := func(good, wrong []int) int {
		if r.Intn(4) == 0 {
			return wrong[r.Intn(len(wrong))]
		}
		return good[r.Intn(len(good))]
	}
	count := func() int { return pick(counts(), wrongCounts()) }
	for range r.Intn(3) {
		fields := fieldsOf(m.Kind)
		if r.Intn(4) == 0 || fields == "" {
			fields = "KUSEFTANO"
		}
		switch fields[r.Intn(len(fields))] {
		case 'K':
			m.Kind = uint8(1 + r.Intn(10))
		case 'U':
			m.User = pick(users(), wrongUsers())
		case 'S':
			m.Serial = count()
		case 'E':
			m.Code = slices.Concat(codes(), wrongCodes())[r.Intn(len(codes())+len(wrongCodes()))]
		case 'F':
			m.From = count()
		case 'T':
			m.Total = count()
		case 'A':
			m.Asked = uint8(r.Intn(4))
		case 'N':
			m.Told[r.Intn(4)] = count()
		case 'O':
			m.Ops = mixedOps(r)
		}
	}
	return m
}

// mixedOps has operations that are drawn, most of which may be.
func mixedOps(r *rand.Rand) []api.Op {
	var l []api.Op
	for range []int{0, 1, 1, 1, 2, 3, 4}[r.Intn(7)] {
		from := plainOps()
		switch r.Intn(8) {
		case 0:
			from = wrongOps()
		case 1:
			from = hiddenOps()
		}
		l = append(l, from[r.Intn(len(from))])
	}
	return l
}

// P10.1, P10.2, P10.4, P1: mail at random, also such with several things wrong.
func TestAtRandom(t *testing.T) {
	r := rand.New(rand.NewSource(10))
	good := 0
	for range 20000 {
		m := mixedMail(r)
		if twin := Twin(m); !equal(m, twin) || !Same(m, twin) {
			t.Errorf("Same or Twin of %v", m)
		}
		if !mayBe(m) {
			wantCheck(t, m, api.ErrBad)
			refusePut(t, m)
			continue
		}
		good++
		wantCheck(t, m, api.OK)
		wantPut(t, m)
		b := written(m)
		wantGet(t, b, m)
		b[r.Intn(len(b))] ^= byte(1 << r.Intn(8))
		asTold(t, b)
	}
	if good < 5000 || good > 16000 {
		t.Errorf("%d may be", good)
	}
}

// P10.2, P1, W7: bytes of any kind end in an answer, the one that is to be.
func TestGetForged(t *testing.T) {
	r := rand.New(rand.NewSource(107))
	good := 0
	long := []int{0, 2, 0, 4, 2, 1, 3, 6, 8, 14, 3}
	for range 40000 {
		b := make([]byte, r.Intn(1100))
		r.Read(b)
		asTold(t, b)
		kind := r.Intn(11)
		b = append([]byte{byte(kind)}, b...)
		asTold(t, b)
		b = b[:min(len(b), long[kind])]
		// With few operations said, and some behind, more of them are mail.
		if kind == 8 && len(b) == 8 {
			b[7] = byte(r.Intn(5))
			for range r.Intn(5) {
				b = append(b, opBytes(plainOps()[r.Intn(10)])...)
			}
		}
		if asTold(t, b) {
			good++
		}
	}
	if good < 10000 {
		t.Errorf("%d are mail", good)
	}
}

// turnedFields has m and, for each field, one that differs in it alone.
func turnedFields(m api.Mail) []api.Mail {
	l := append([]api.Mail{m}, turned(m,
		func(m *api.Mail) { m.Kind ^= 1 },
		func(m *api.Mail) { m.Kind ^= 128 },
		func(m *api.Mail) { m.User++ },
		func(m *api.Mail) { m.User += 256 },
		func(m *api.Mail) { m.Serial-- },
		func(m *api.Mail) { m.Serial += 1 << 32 },
		func(m *api.Mail) { m.Code++ },
		func(m *api.Mail) { m.Code += 1 << 16 },
		func(m *api.Mail) { m.From++ },
		func(m *api.Mail) { m.From += 1 << 24 },
		func(m *api.Mail) { m.Total++ },
		func(m *api.Mail) { m.Total += 1 << 24 },
		func(m *api.Mail) { m.Asked ^= 1 },
		func(m *api.Mail) { m.Asked ^= 128 },
		func(m *api.Mail) { m.Told[0]++ },
		func(m *api.Mail) { m.Told[1]++ },
		func(m *api.Mail) { m.Told[2]++ },
		func(m *api.Mail) { m.Told[3]++ },
		func(m *api.Mail) { m.Told[3] += 1 << 24 },
		func(m *api.Mail) { m.Ops = append(m.Ops, api.Op{}) },
		func(m *api.Mail) { m.Ops = append(m.Ops, cut(1)) },
		func(m *api.Mail) { m.Ops = append(m.Ops, cut(1), cut(1)) },
	)...)
	for at := range m.Ops {
		l = append(l, turned(m,
			func(m *api.Mail) { m.Ops[at].Kind ^= 4 },
			func(m *api.Mail) { m.Ops[at].By.Num++ },
			func(m *api.Mail) { m.Ops[at].Serial++ },
			func(m *api.Mail) { m.Ops[at].Span.Many++ },
			func(m *api.Mail) { m.Ops[at].Span.From.Counter += 3 },
			func(m *api.Mail) { m.Ops[at].After.Counter++ },
			func(m *api.Mail) { m.Ops[at].To.Cats ^= 8 },
			func(m *api.Mail) { m.Ops[at].Runes = append(slices.Clone(m.Ops[at].Runes), -1) },
		)...)
		for i := range m.Ops[at].Runes {
			l = append(l, turned(m, func(m *api.Mail) {
				m.Ops[at].Runes = slices.Clone(m.Ops[at].Runes)
				m.Ops[at].Runes[i] ^= 1 << 30
			})...)
		}
	}
	if len(m.Ops) > 0 {
		l = append(l, turned(m, func(m *api.Mail) { m.Ops = m.Ops[1:] })...)
	}
	return l
}

// anyOnes has mail that Same and Twin are asked of, though it may not be.
func anyOnes() []api.Mail {
	return append(ofEachKind(),
		api.Mail{},
		api.Mail{Kind: 255, User: math.MinInt, Serial: math.MaxInt, Code: -1, From: math.MinInt, Total: -1, Asked: 255, Told: [4]int{-1, math.MaxInt, math.MinInt, 7}},
		api.Mail{Kind: 2, Ops: ops(insert(2), cut(1))},
		api.Mail{Kind: 5, Ops: ops(cut(1), raise(2), hidden(3, 1), insert(4), api.Op{Kind: 9, Runes: []int32{-5, 6}})},
	)
}

// P10.1 Same: two that differ in each field alone, and of each with itself, whether they may be or not.
func TestSame(t *testing.T) {
	for _, m := range anyOnes() {
		l := turnedFields(m)
		for i, a := range l {
			for k, b := range l {
				if Same(a, b) != (i == k) {
					t.Errorf("Same(%v, %v) is %v", a, b, Same(a, b))
				}
			}
			other := a
			other.Ops = nil
			for _, o := range a.Ops {
				o.Runes = slices.Clone(o.Runes)
				other.Ops = append(other.Ops, o)
			}
			if !Same(other, a) || !Same(a, other) {
				t.Errorf("%v is not the same in other memory", a)
			}
		}
	}
}

// P10.1 Same: operations, and runes, that are nil and that are empty are the same; those that change places are not.
func TestSameLists(t *testing.T) {
	for _, m := range []api.Mail{{}, {Kind: 5}, {Kind: 8, From: 1, Total: 2}, {Kind: 2}} {
		a, b, c := m, m, m
		a.Ops, b.Ops, c.Ops = nil, ops(), ops(cut(1))[:0]
		for _, x := range []api.Mail{a, b, c} {
			for _, y := range []api.Mail{a, b, c} {
				if !Same(x, y) {
					t.Errorf("%v: no operations are not the same as none", m)
				}
			}
		}
		a.Ops = ops(api.Op{})
		if Same(a, b) || Same(b, a) {
			t.Errorf("%v: one operation is the same as none", m)
		}
		b.Ops = ops(api.Op{Runes: []int32{}})
		if !Same(a, b) || !Same(b, a) {
			t.Errorf("%v: no runes are not the same as none", m)
		}
	}
	a, b := api.Mail{Kind: 8, Ops: ops(cut(1), cut(2))}, api.Mail{Kind: 8, Ops: ops(cut(2), cut(1))}
	if Same(a, b) {
		t.Error("operations that change places are the same")
	}
	a.Ops, b.Ops = ops(cut(1), cut(2))[:1], ops(cut(1), cut(3))[:1]
	if !Same(a, b) {
		t.Error("what lies behind the operations counts")
	}
	x, y := api.Mail{Told: [4]int{1, 2, 3, 4}}, api.Mail{Told: [4]int{2, 1, 3, 4}}
	if Same(x, y) || Same(api.Mail{From: 1, Total: 2}, api.Mail{From: 2, Total: 1}) {
		t.Error("numbers that change places are the same")
	}
}

// P10.1 Twin: of any one, whether it may be or not, also of more operations than may be.
func TestTwin(t *testing.T) {
	l := slices.Concat(goodOnes(), wrongOnes())
	for _, m := range anyOnes() {
		l = append(l, turnedFields(m)...)
	}
	for _, m := range append(l, api.Mail{Ops: ops()}, api.Mail{Kind: 9, Ops: slices.Repeat(ops(insert(5)), 5000)}, api.Mail{Ops: ops(api.Op{Runes: letters(5000)})}) {
		if twin := Twin(m); !equal(twin, m) || !Same(twin, m) {
			t.Errorf("Twin(%v) is %v", m, twin)
		}
	}
}

// spoil and spoilOps write over all of an answer, and over the room behind it.
func spoil(b []byte) {
	for i := range b[:cap(b)] {
		b[:cap(b)][i] ^= 0xa5
	}
}

func spoilOps(l []api.Op) {
	for _, o := range l {
		for i := range o.Runes[:cap(o.Runes)] {
			o.Runes[:cap(o.Runes)][i] ^= 0x15
		}
	}
	for i := range l[:cap(l)] {
		l[:cap(l)][i] = api.Op{Kind: 77, Serial: -5, Runes: []int32{5}}
	}
}

// copied has mail in other memory, without a call of the package.
func copied(m api.Mail) api.Mail {
	var l []api.Op
	for _, o := range m.Ops {
		o.Runes = slices.Clone(o.Runes)
		l = append(l, o)
	}
	m.Ops = l
	return m
}

// guarded has mail whose operations, and whose runes, lie in the middle of others.
func guarded(m api.Mail) (api.Mail, []api.Op) {
	all := ops(cut(7))
	for _, o := range m.Ops {
		row := slices.Concat([]int32{7, 7}, o.Runes, []int32{8, 8, 8})
		o.Runes = row[2 : 2+len(o.Runes)]
		all = append(all, o)
	}
	all = append(all, raise(7), raise(7))
	m.Ops = all[1 : 1+len(m.Ops)]
	return m, all
}

// untouched tells whether what guarded made is as it was.
func untouched(all []api.Op, m api.Mail) bool {
	inner := all[1 : len(all)-2]
	for _, o := range inner {
		if len(o.Runes)+3 > cap(o.Runes) || !slices.Equal(o.Runes[:len(o.Runes)+3][len(o.Runes):], []int32{8, 8, 8}) {
			return false
		}
	}
	return sameOps(inner, m.Ops) && sameOps(all[:1], ops(cut(7))) && sameOps(all[len(all)-2:], ops(raise(7), raise(7)))
}

// P10.3: what is handed in is only read, and so is what lies behind its length, whatever the answer.
func TestOnlyRead(t *testing.T) {
	for _, m := range slices.Concat(goodOnes(), wrongOnes(), anyOnes()) {
		given, all := guarded(m)
		other, others := guarded(m)
		Check(given)
		Up(given)
		b, _ := Put(given)
		spoil(b)
		Same(given, other)
		spoilOps(Twin(given).Ops)
		if !untouched(all, m) || !untouched(others, m) || !equal(given, m) || !equal(other, m) {
			t.Fatalf("%v was turned", m)
		}
		bs := append(written(m), 9, 9, 9, 9, 9, 9, 9, 9)
		kept := bytes.Clone(bs)
		for _, handed := range [][]byte{bs, bs[:len(bs)-8], bs[: len(bs)-8 : len(bs)-8], bs[:len(bs)-9]} {
			got, _ := Get(handed)
			spoilOps(got.Ops)
		}
		if !bytes.Equal(bs, kept) {
			t.Fatalf("the bytes of %v were turned", m)
		}
	}
}

// P10.3: what is written into an answer, or into what was handed in, leaves no trace in any other.
func TestNewMemory(t *testing.T) {
	for _, m := range slices.Concat(goodOnes(), anyOnes()) {
		given := copied(m)
		one, two := Twin(given), Twin(given)
		spoilOps(one.Ops)
		if !equal(given, m) || !equal(two, m) {
			t.Fatalf("a twin of %v was turned by what was written into another one", m)
		}
		spoilOps(given.Ops)
		if !equal(two, m) {
			t.Fatalf("the twin of %v was turned by what was written into that", m)
		}
		if !mayBe(m) {
			continue
		}
		given = copied(m)
		first, _ := Put(given)
		second, _ := Put(given)
		spoil(first)
		spoilOps(given.Ops)
		if !bytes.Equal(second, written(m)) {
			t.Fatalf("the bytes of %v were turned", m)
		}
		got, _ := Get(second)
		again, _ := Get(second)
		spoilOps(got.Ops)
		if !bytes.Equal(second, written(m)) || !equal(again, m) {
			t.Fatalf("%v was turned by what was written into what was got", m)
		}
		spoil(second)
		if !equal(again, m) {
			t.Fatalf("%v was turned by what was written into its bytes", m)
		}
	}
}

// P10.3: no two lists of one answer share memory: what is written into one row leaves the others.
func TestRowsByThemselves(t *testing.T) {
	m := api.Mail{Kind: 8, Ops: ops(insert(2), insert(3), hidden(4, 0))}
	b, _ := Put(m)
	got, _ := Get(b)
	for _, answer := range []api.Mail{Twin(m), got} {
		for at := range answer.Ops {
			row := answer.Ops[at].Runes
			for i := range row[:cap(row)] {
				row[:cap(row)][i] = 1000
			}
			for later := at + 1; later < 3; later++ {
				if !slices.Equal(answer.Ops[later].Runes, m.Ops[later].Runes) {
					t.Errorf("row %d was turned by what was written into row %d", later, at)
				}
			}
		}
	}
}

// P10.3, P1: nothing is kept: what comes between two calls turns no answer.
func TestNothingIsKept(t *testing.T) {
	l := goodOnes()
	for i, m := range l {
		other := l[len(l)-1-i]
		wantPut(t, m)
		b, _ := Put(other)
		got, _ := Get(b)
		refusePut(t, api.Mail{})
		refuse(t, b[:len(b)-1])
		spoil(b)
		spoilOps(got.Ops)
		wantPut(t, m)
		wantGet(t, written(m), m)
	}
}

// P10.4: what is got is put as just these bytes; so no two of mail have one's bytes.
func TestGotIsPut(t *testing.T) {
	from := map[string]api.Mail{}
	for _, m := range goodOnes() {
		b := written(m)
		got, e := Get(b)
		again, f := Put(got)
		if e != api.OK || f != api.OK || !bytes.Equal(again, b) {
			t.Errorf("Get of the bytes of %v is %v, %d, put as %v, %d", m, got, e, again, f)
		}
		if other, is := from[string(again)]; is && !equal(other, m) {
			t.Errorf("%v and %v have one's bytes", other, m)
		}
		from[string(again)] = m
	}
}

// P10.4: how many bytes there are hangs on the kind, and on the operations' kinds and how many elements they have, alone.
func TestAsManyBytes(t *testing.T) {
	seen := map[string]int{}
	for _, m := range goodOnes() {
		of := []byte{m.Kind}
		want := []int{0, 2, 1, 4, 2, 1, 3, 6, 8, 14, 3}[m.Kind]
		for _, o := range m.Ops {
			of = append(of, o.Kind, byte(o.Span.Many))
			want += op.Size(o.Kind, o.Span.Many)
		}
		b, e := Put(m)
		if e != api.OK || len(b) != want || len(b) > 900 {
			t.Errorf("%v has %d bytes, not %d, %d", m, len(b), want, e)
		}
		if many, is := seen[string(of)]; is && many != len(b) {
			t.Errorf("%v has %d bytes, another one %d", m, len(b), many)
		}
		seen[string(of)] = len(b)
	}
	if len(seen) < 40 {
		t.Errorf("%d kinds of mail were asked", len(seen))
	}
}

// P10.4: the longest mail, a page of three inserts of 64, has room in 900 bytes, and each page of three has no more.
func TestAtMost(t *testing.T) {
	longest := api.Mail{Kind: 8, From: 1<<24 - 1, Total: 1<<24 - 1, Ops: ops(insert(64), hidden(64, 5), insert(64))}
	if b, e := Put(longest); e != api.OK || len(b) != 887 {
		t.Errorf("the longest has %d bytes, %d", len(b), e)
	}
	for many := 1; many <= 64; many++ {
		for _, o := range []api.Op{insert(many), cut(many), raise(many)} {
			b, e := Put(api.Mail{Kind: 8, Ops: ops(o, o, insert(64))})
			if e != api.OK || len(b) > 887 || len(b) != 8+2*op.Size(o.Kind, many)+293 {
				t.Errorf("three of %v have %d bytes, %d", o, len(b), e)
			}
		}
	}
}

// W2, P10.4: of two pages that differ in runes alone, as many, be they blanks or not, the bytes differ in the runes' alone.
func TestRunesTellNothingElse(t *testing.T) {
	for _, many := range []int{1, 2, 5, 64} {
		plain, _ := Put(api.Mail{Kind: 8, From: 3, Total: 9, Ops: ops(cut(1), insert(many), raise(2))})
		first := 8 + 24 + 37
		for at := range many {
			for _, n := range []int32{-1, 0, 97, 0xd7ff, 0xe000, 0x10ffff} {
				o := insert(many)
				o.Runes[at] = n
				b, e := Put(api.Mail{Kind: 8, From: 3, Total: 9, Ops: ops(cut(1), o, raise(2))})
				if e != api.OK || len(b) != len(plain) || !bytes.Equal(b[:first], plain[:first]) || !bytes.Equal(b[first+4*many:], plain[first+4*many:]) {
					t.Errorf("with %v: %v, %d", o, b, e)
				}
			}
		}
	}
}

// The chapter's table of examples, row by row.
func TestExamples(t *testing.T) {
	for _, x := range []struct {
		m api.Mail
		b []byte
	}{
		{api.Mail{Kind: api.MailOpen, User: 3}, []byte{1, 3}},
		{api.Mail{Kind: api.MailPull, From: 258}, []byte{3, 0, 1, 2}},
		{api.Mail{Kind: api.MailAnswer, Serial: 1, Code: 2}, []byte{7, 0, 0, 1, 0, 2}},
		{api.Mail{Kind: api.MailClose}, []byte{5}},
		{api.Mail{Kind: api.MailTold, Asked: api.AskCounts, Told: [api.Told]int{1, 2, 0, 0}}, []byte{9, 1, 0, 0, 1, 0, 0, 2, 0, 0, 0, 0, 0, 0}},
	} {
		if b, e := Put(x.m); e != api.OK || !bytes.Equal(b, x.b) {
			t.Errorf("Put(%v) is %v, %d", x.m, b, e)
		}
	}
	refuse(t, nil)
	refuse(t, []byte{5, 0})
	refuse(t, []byte{11})
	wantCheck(t, api.Mail{Kind: api.MailAnswer}, api.ErrBad)
}
