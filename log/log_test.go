package log

import (
	"bytes"
	"fmt"
	"maps"
	"math"
	"math/rand"
	"slices"
	"testing"

	"blindstamp/api"
	"blindstamp/disk"
	"blindstamp/record"
)

// How many blocks an area has, how many places a disk, and how many bytes a block; numbers and starts are from 1 to below the ends.
const (
	room      = 2048
	places    = 6146
	size      = 128
	numberEnd = 1 << 24
	startEnd  = 1 << 31
)

// handle and id are short ways to make one.
func handle(level uint8, cats uint32, num uint8) api.Handle {
	return api.Handle{Label: api.Label{Level: level, Cats: cats}, Num: num}
}

func id(h api.Handle, counter int) api.Id {
	return api.Id{By: h, Counter: counter}
}

// letters has a row of so many runes, from one on.
func letters(many, from int) []int32 {
	l := make([]int32, many)
	for i := range l {
		l[i] = int32(from + i)
	}
	return l
}

// opening, inserted, cut, raised and given have a record of each kind, and of each kind of operation.
func opening(h api.Handle, user int) api.Record {
	return api.Record{Kind: 1, User: user, Op: api.Op{By: h}}
}

func inserted(h api.Handle, many, n int) api.Record {
	return api.Record{Kind: 2, Op: api.Op{Kind: 1, By: h, Serial: n + 1, Span: api.Span{From: id(h, 9+n), Many: many}, Runes: letters(many, 97+n)}}
}

func cut(h api.Handle, many int, code api.Errno) api.Record {
	return api.Record{Kind: 2, Op: api.Op{Kind: 2, By: h, Serial: 1, Span: api.Span{From: id(h, 9), Many: many}}, Code: code}
}

func raised(h api.Handle, many int, to api.Label) api.Record {
	return api.Record{Kind: 2, Op: api.Op{Kind: 3, By: h, Serial: 65538, Span: api.Span{From: id(h, 9), Many: many}, To: to}}
}

func given(user int, c api.Clear) api.Record {
	return api.Record{Kind: 3, Grant: api.Grant{User: user, Clear: c}}
}

// sized has a record of so many blocks (1 to 3), by a number: those of no two numbers are the same.
func sized(blocks, n int) api.Record {
	return inserted(handle(1, 1, 2), []int{0, 5, 30, 64}[blocks], n)
}

// sizedOnes has records of so many blocks, one behind the other.
func sizedOnes(blocks ...int) []api.Record {
	var l []api.Record
	for i, many := range blocks {
		l = append(l, sized(many, i))
	}
	return l
}

// goodRecords has records that may be: of each kind, of unlike labels, users, runes and codes, of one, two and three blocks.
func goodRecords() []api.Record {
	far := inserted(handle(2, 3, 4), 3, 7)
	far.Op.Runes = []int32{0, 0xd7ff, 0x10ffff}
	far.Op.After = id(handle(1, 3, 3), 5)
	l := []api.Record{far}
	for _, h := range []api.Handle{{}, handle(1, 1, 2), handle(1, 1, 3), handle(15, 0xffffffff, 7), handle(0, 0x01020304, 1)} {
		l = append(l, opening(h, 0), opening(h, 3), opening(h, 255), cut(h, 1, 0), cut(h, 64, 230), raised(h, 1, api.Label{Level: 2}), raised(h, 64, api.Label{Level: 15, Cats: 0x01020304}))
		for _, many := range []int{1, 2, 19, 20, 49, 50, 64} {
			l = append(l, inserted(h, many, many))
		}
	}
	for user := range 8 {
		l = append(l, given(user, api.Clear{}), given(user, api.Clear{Label: api.Label{Level: 15, Cats: 5}, Ok: true}))
	}
	for _, code := range []api.Errno{1, 8, 260, 1<<16 - 1} {
		l = append(l, cut(handle(1, 1, 2), 1, code), inserted(handle(1, 1, 2), 64, 1))
		l[len(l)-1].Code = code
	}
	return l
}

// wrongRecords has records that may not be, each by one thing.
func wrongRecords() []api.Record {
	h := handle(1, 1, 2)
	l := []api.Record{{}, {Kind: 1, User: 256}, {Kind: 2}, {Kind: 4}, {Kind: 255}, opening(h, -1), opening(h, 256), opening(handle(16, 0, 0), 1), opening(handle(1, 1, 8), 1), cut(h, 0, 0), cut(h, 65, 0), cut(h, 1, -1), cut(h, 1, 1<<16), raised(h, 1, api.Label{Level: 16}), given(8, api.Clear{}), given(-1, api.Clear{}), given(1, api.Clear{Label: api.Label{Level: 1}}), inserted(h, 65, 1)}
	for _, many := range []int{1, 30, 64} {
		blank := inserted(h, many, 1)
		blank.Op.Runes[many-1] = -1
		none := inserted(h, many, 1)
		none.Op.Runes = nil
		kind := inserted(h, many, 1)
		kind.Kind = 1
		user := inserted(h, many, 1)
		user.User = 1
		serial := inserted(h, many, 1)
		serial.Op.Serial = 0
		l = append(l, blank, none, kind, user, serial)
	}
	return l
}

// sector has a sector that is no block of a record; sectors has those of such places.
func sector(at int) api.Sector {
	b := bytes.Repeat([]byte{byte(at), 7, 9, byte(at >> 8)}, size/4)
	return api.Sector{At: at, Bytes: b}
}

func sectors(l ...int) []api.Sector {
	var all []api.Sector
	for _, at := range l {
		all = append(all, sector(at))
	}
	return all
}

// someSectors has what may be on a disk, but for records.
func someSectors() [][]api.Sector {
	return [][]api.Sector{
		nil,
		sectors(5),
		sectors(0, 1, 2, 3, 2045, 2046, 2047, 2048, 2049, 2050, 4093, 4094, 4095, 4096, 4097, 4098, 6141, 6142, 6143, 6144, 6145),
	}
}

// goodDisks has disks that were started and may be: in each state, with few and many starts.
func goodDisks() []api.Disk {
	var l []api.Disk
	for _, s := range someSectors() {
		for _, starts := range []int{1, 2, 0x01020304, startEnd - 1} {
			l = append(l, api.Disk{Sectors: s, Starts: starts, Dead: true})
			for _, left := range []int{-1, 0, 1, 2, 3, 4, startEnd - 1} {
				l = append(l, api.Disk{Sectors: s, Starts: starts, Left: left})
			}
		}
	}
	return l
}

// wrongDisks has disks that may not be, each by one thing.
func wrongDisks() []api.Disk {
	var l []api.Disk
	for _, s := range [][]api.Sector{sectors(3, 2), sectors(3, 3), sectors(-1), sectors(6146), {{At: 3}}, {{At: 3, Bytes: make([]byte, 127)}}, {{At: 3, Bytes: make([]byte, 129)}}} {
		l = append(l, api.Disk{Sectors: s, Starts: 1, Left: -1}, api.Disk{Sectors: s, Left: -1})
	}
	for _, starts := range []int{-1, startEnd, math.MaxInt, math.MinInt} {
		l = append(l, api.Disk{Starts: starts, Left: -1}, api.Disk{Starts: starts, Dead: true})
	}
	for _, left := range []int{-2, startEnd, math.MaxInt, math.MinInt} {
		l = append(l, api.Disk{Starts: 1, Left: left}, api.Disk{Left: left})
	}
	return append(l, api.Disk{Starts: 1, Left: 1, Dead: true}, api.Disk{Starts: 1, Left: -1, Dead: true}, api.Disk{Left: 1, Dead: true})
}

// wrongAreas, wrongPlaces, wrongNumbers and wrongMosts have what there isn't.
func wrongAreas() []int {
	return []int{-1, -2, -2048, 3, 4, 5, 2048, 1 << 16, 1 << 32, 1<<32 + 1, 1 << 53, math.MaxInt - 1, math.MaxInt, math.MinInt, math.MinInt + 1}
}

func wrongPlaces() []int {
	return []int{-1, -2, -2048, 2049, 2050, 4096, 6145, 6146, 1 << 32, 1<<32 + 5, math.MaxInt - 1, math.MaxInt, math.MinInt, math.MinInt + 1}
}

func wrongNumbers() []int {
	return []int{-1, -2, -numberEnd, numberEnd, numberEnd + 1, startEnd, 1<<32 + 1, math.MaxInt - 1, math.MaxInt, math.MinInt, math.MinInt + 1}
}

// goodNumbers has numbers that a head may have.
func goodNumbers() []int {
	return []int{1, 2, 255, 256, 0x050607, numberEnd - 2, numberEnd - 1}
}

// blocksOf has a record's blocks. Those that the tests ask for are of records and heads that may be.
func blocksOf(r api.Record, start, number int) [][]byte {
	l, e := record.Put(r, start, number)
	if e != api.OK {
		panic(fmt.Sprint("no blocks: ", r, start, number, e))
	}
	return l
}

// told is a disk as the words tell it: what stands at each place to which something was written.
type told struct {
	stands       map[int]string
	starts, left int
	dead         bool
}

// tell has what the words tell of a disk.
func tell(d api.Disk) told {
	w := told{stands: map[int]string{}, starts: d.Starts, left: d.Left, dead: d.Dead}
	for _, s := range d.Sectors {
		w.stands[s.At] = string(s.Bytes)
	}
	return w
}

// disk is the disk of which that is told.
func (w told) disk() api.Disk {
	d := api.Disk{Starts: w.starts, Left: w.left, Dead: w.dead}
	for _, at := range slices.Sorted(maps.Keys(w.stands)) {
		d.Sectors = append(d.Sectors, api.Sector{At: at, Bytes: []byte(w.stands[at])})
	}
	return d
}

// write does what the words tell of a block that is written.
func (w *told) write(at int, b []byte) {
	switch {
	case w.dead:
	case w.left == 0:
		w.dead = true
	default:
		w.stands[at] = string(b)
		w.left = max(w.left-1, min(w.left, 0))
	}
}

// append does what the words tell of a record that is put at a place, and tells the place behind it.
func (w *told) append(area, at, number int, r api.Record) int {
	for _, b := range blocksOf(r, w.starts, number) {
		w.write(2048*area+at, b)
		at++
	}
	return at
}

// whole is the record that is whole at a place of an area with a number, and how many blocks it has; 0, if none is.
func (w told) whole(area, at, number int) (api.Record, int) {
	if at >= room {
		return api.Record{}, 0
	}
	first, is := w.stands[2048*area+at]
	if !is || first[8] < 1 || first[8] > 4 || at+int(first[8]) > room {
		return api.Record{}, 0
	}
	var l [][]byte
	for i := range int(first[8]) {
		b, is := w.stands[2048*area+at+i]
		if !is {
			return api.Record{}, 0
		}
		l = append(l, []byte(b))
	}
	r, h, e := record.Get(l)
	if e != api.OK || h.Number != number {
		return api.Record{}, 0
	}
	return r, len(l)
}

// scan has the records that an area has behind a number, at most so many, and the place behind the last one.
func (w told) scan(area, number, most int) ([]api.Record, int) {
	var l []api.Record
	at := 0
	for len(l) < most {
		r, many := w.whole(area, at, number+1)
		if many == 0 {
			break
		}
		l = append(l, r)
		at += many
		number++
	}
	return l, at
}

// equal tells whether two disks are the same, equalRecords whether two rows of records are.
func equal(a, b api.Disk) bool {
	if a.Starts != b.Starts || a.Left != b.Left || a.Dead != b.Dead || len(a.Sectors) != len(b.Sectors) {
		return false
	}
	for i := range a.Sectors {
		if a.Sectors[i].At != b.Sectors[i].At || string(a.Sectors[i].Bytes) != string(b.Sectors[i].Bytes) {
			return false
		}
	}
	return true
}

func equalRecords(a, b []api.Record) bool {
	return slices.EqualFunc(a, b, func(a, b api.Record) bool {
		return a.Kind == b.Kind && a.User == b.User && a.Code == b.Code && a.Grant == b.Grant && equalOps(a.Op, b.Op)
	})
}

func equalOps(a, b api.Op) bool {
	return a.Kind == b.Kind && a.By == b.By && a.Serial == b.Serial && a.Span == b.Span && a.After == b.After && a.To == b.To && slices.Equal(a.Runes, b.Runes)
}

// brief is so much of a disk as can be told in a line.
func brief(d api.Disk) string {
	s := fmt.Sprintf("a disk (starts %d, left %d, dead %t, %d sectors:", d.Starts, d.Left, d.Dead, len(d.Sectors))
	for _, x := range d.Sectors[:min(9, len(d.Sectors))] {
		s += fmt.Sprintf(" %d: %x", x.At, x.Bytes[:min(9, len(x.Bytes))])
	}
	return s + ")"
}

// wantAppend and wantScan ask that a call answers what the words tell; refuseAppend and refuseScan that it answers an error and nothing else; holds that an area has just these records behind a number, and where they end.
func wantAppend(t *testing.T, d api.Disk, area, at, number int, r api.Record) (api.Disk, int) {
	t.Helper()
	w := tell(d)
	behind := w.append(area, at, number, r)
	got, next, e := Append(d, area, at, number, r)
	if e != api.OK || next != behind || !equal(got, w.disk()) {
		t.Errorf("Append(%s, %d, %d, %d, %v) is %s, %d, %d, not %s, %d", brief(d), area, at, number, r, brief(got), next, e, brief(w.disk()), behind)
	}
	return got, next
}

func refuseAppend(t *testing.T, d api.Disk, area, at, number int, r api.Record, want api.Errno) {
	t.Helper()
	if got, next, e := Append(d, area, at, number, r); e != want || next != 0 || got.Sectors != nil || !equal(got, api.Disk{}) {
		t.Errorf("Append(%s, %d, %d, %d, %v) is %s, %d, %d, not nothing, %d", brief(d), area, at, number, r, brief(got), next, e, want)
	}
}

func wantScan(t *testing.T, d api.Disk, area, number, most int) []api.Record {
	t.Helper()
	want, behind := tell(d).scan(area, number, most)
	l, next, e := Scan(d, area, number, most)
	if e != api.OK || next != behind || !equalRecords(l, want) {
		t.Errorf("Scan(%s, %d, %d, %d) is %v, %d, %d, not %v, %d", brief(d), area, number, most, l, next, e, want, behind)
	}
	return l
}

func refuseScan(t *testing.T, d api.Disk, area, number, most int, want api.Errno) {
	t.Helper()
	if l, next, e := Scan(d, area, number, most); e != want || next != 0 || l != nil {
		t.Errorf("Scan(%s, %d, %d, %d) is %v, %d, %d, not nothing, %d", brief(d), area, number, most, l, next, e, want)
	}
}

func holds(t *testing.T, d api.Disk, area, number, behind int, want ...api.Record) {
	t.Helper()
	l, next, e := Scan(d, area, number, numberEnd-1)
	if e != api.OK || next != behind || !equalRecords(l, want) {
		t.Errorf("behind number %d the area %d of %s has %d records, to %d, %d: %v; not %d, to %d: %v", number, area, brief(d), len(l), next, e, l, len(want), behind, want)
	}
}

// started is an empty disk that was started so often, and does not fail.
func started(starts int) api.Disk {
	return api.Disk{Starts: starts, Left: -1}
}

// with is a disk on which a block stands at each place from at on, besides what stood there.
func with(d api.Disk, at int, blocks ...[]byte) api.Disk {
	w := tell(d)
	for i, b := range blocks {
		w.stands[at+i] = string(b)
	}
	return w.disk()
}

// row has an area with records, one behind the other from place 0 on, by one start, numbered from behind a number on; and the place behind them. It is made without a call of the package.
func row(area, number int, l ...api.Record) (api.Disk, int) {
	w := tell(started(1))
	at := 0
	for i, r := range l {
		at = w.append(area, at, number+1+i, r)
	}
	return w.disk(), at
}

// P13.1 Append: byte by byte, written out, at places of each area.
func TestAppendBytes(t *testing.T) {
	d, next, e := Append(started(0x01020304), 1, 7, 0x050607, opening(handle(1, 1, 2), 3))
	want := "\x01\x02\x03\x04\x05\x06\x07\x00\x01" + "\x01\x01\x00\x00\x00\x01\x02\x03"
	if e != api.OK || next != 8 || len(d.Sectors) != 1 || d.Sectors[0].At != 2055 || string(d.Sectors[0].Bytes) != want+string(make([]byte, size-len(want))) {
		t.Errorf("behind an open: %s, %d, %d", brief(d), next, e)
	}
	for area, first := range []int{0, 2048, 4096} {
		d, next, e = Append(started(1), area, 9, 2, sized(3, 0))
		if e != api.OK || next != 12 || len(d.Sectors) != 3 {
			t.Fatalf("behind an insert: %s, %d, %d", brief(d), next, e)
		}
		for i, s := range d.Sectors {
			if s.At != first+9+i || !bytes.Equal(s.Bytes[:9], []byte{0, 0, 0, 1, 0, 0, 2, byte(i), 3}) {
				t.Errorf("behind an insert in the area %d: %s", area, brief(d))
			}
		}
	}
}

// P13.1 Append: the answer is d behind these writes, on disks in each state, in each area, ahead of what stands there, upon it, and behind it.
func TestAppend(t *testing.T) {
	for _, d := range goodDisks() {
		for area := range 3 {
			for _, at := range []int{0, 1, 3, 4, 100, 2040, 2045} {
				for blocks := 1; blocks <= 3; blocks++ {
					got, next := wantAppend(t, d, area, at, 5, sized(blocks, at))
					if next != at+blocks || got.Starts != d.Starts || disk.Check(got) != api.OK {
						t.Errorf("behind %d blocks at %d: %s, %d", blocks, at, brief(got), next)
					}
				}
			}
		}
	}
}

// P13.1, P13.2, P13.4: records of each kind, of unlike labels, users, runes and codes, are put, and scanned, alone and one behind the other.
func TestKinds(t *testing.T) {
	all := started(3)
	end := 0
	l := goodRecords()
	for i, r := range l {
		d, next := wantAppend(t, started(3), 1, 0, 9, r)
		holds(t, d, 1, 8, next, r)
		all, end = wantAppend(t, all, 2, end, 100+i, r)
	}
	holds(t, all, 2, 99, end, l...)
	for most := range len(l) + 2 {
		wantScan(t, all, 2, 99, most)
	}
	seen := map[int]int{}
	for _, r := range l {
		seen[len(blocksOf(r, 1, 1))]++
	}
	if seen[1] < 20 || seen[2] < 8 || seen[3] < 8 {
		t.Errorf("records by how many blocks they have: %v", seen)
	}
}

// P13.1 Append: each place of an area, at which a record just fits, and at which it lacks one block and more, in each area, whatever stands behind the area.
func TestAppendAtTheEnd(t *testing.T) {
	for _, s := range someSectors() {
		for _, left := range []int{-1, 0, 1, 9} {
			d := api.Disk{Sectors: s, Starts: 2, Left: left}
			for area := range 3 {
				for blocks := 1; blocks <= 3; blocks++ {
					for at := 2040; at <= 2048; at++ {
						if at+blocks > 2048 {
							refuseAppend(t, d, area, at, 1, sized(blocks, 0), api.ErrFull)
						} else {
							wantAppend(t, d, area, at, 1, sized(blocks, 0))
						}
					}
					for _, at := range wrongPlaces() {
						refuseAppend(t, d, area, at, 1, sized(blocks, 0), api.ErrArg)
					}
				}
			}
		}
	}
}

// P13.1 Append: places 0, 1 and each other one.
func TestAppendEachPlace(t *testing.T) {
	for at := -3; at < room+3; at++ {
		switch {
		case at < 0 || at > room:
			refuseAppend(t, started(1), 1, at, 1, sized(1, 0), api.ErrArg)
		case at == room:
			refuseAppend(t, started(1), 1, at, 1, sized(1, 0), api.ErrFull)
		default:
			wantAppend(t, started(1), 1, at, 1, sized(1, 0))
		}
	}
}

// P13.1, P13.2: areas that there are, and that there aren't.
func TestAreas(t *testing.T) {
	for _, d := range goodDisks() {
		for _, area := range wrongAreas() {
			refuseAppend(t, d, area, 0, 1, sized(1, 0), api.ErrArg)
			refuseScan(t, d, area, 0, 1, api.ErrArg)
			refuseScan(t, d, area, 0, 0, api.ErrArg)
		}
		for area := range 3 {
			wantAppend(t, d, area, 0, 1, sized(1, 0))
			wantScan(t, d, area, 0, 1)
		}
	}
}

// P13.1 Append: each start and number that a head may have, and such that it may not; no head may have Starts 0.
func TestAppendNumbers(t *testing.T) {
	for _, starts := range []int{1, 2, 255, 256, 0x01020304, startEnd - 2, startEnd - 1} {
		for blocks := 1; blocks <= 3; blocks++ {
			for _, number := range goodNumbers() {
				d, next := wantAppend(t, started(starts), 0, 0, number, sized(blocks, 1))
				holds(t, d, 0, number-1, next, sized(blocks, 1))
			}
			for _, number := range append(wrongNumbers(), 0) {
				refuseAppend(t, started(starts), 0, 0, number, sized(blocks, 1), api.ErrArg)
			}
		}
	}
	for _, d := range []api.Disk{disk.New(), {}, {Left: 5}, {Dead: true}, {Sectors: sectors(0, 2), Left: -1}} {
		for _, number := range slices.Concat(goodNumbers(), wrongNumbers(), []int{0}) {
			refuseAppend(t, d, 0, 0, number, sized(1, 1), api.ErrArg)
			refuseAppend(t, d, 2, 2048, number, sized(3, 1), api.ErrArg)
		}
		wantScan(t, d, 0, 0, 1)
	}
}

// P13.1 Append: records that may not be.
func TestAppendWrongRecords(t *testing.T) {
	for _, r := range wrongRecords() {
		if record.Check(r) != api.ErrBad {
			t.Fatalf("%v may be", r)
		}
		for area := range 3 {
			for _, at := range []int{0, 5, 2046, 2047, 2048} {
				refuseAppend(t, started(1), area, at, 1, r, api.ErrBad)
				refuseAppend(t, api.Disk{Starts: 1, Dead: true}, area, at, numberEnd-1, r, api.ErrBad)
			}
		}
	}
}

// P13.1 Append: of several errors the first one: disk.Check's, then that of the area, the place, the start and the number, then record.Check's, then that there is no room.
func TestAppendFirstError(t *testing.T) {
	good, wrong, full := sized(1, 0), api.Record{}, sized(3, 0)
	for _, d := range wrongDisks() {
		for _, area := range []int{0, 2, -1, 3, math.MaxInt} {
			for _, at := range []int{0, 2046, 2048, 2049, -1, math.MinInt} {
				for _, number := range []int{1, 0, numberEnd} {
					for _, r := range []api.Record{good, wrong, full} {
						refuseAppend(t, d, area, at, number, r, api.ErrBad)
					}
				}
			}
		}
	}
	for _, r := range append(wrongRecords(), good, full) {
		for _, at := range []int{0, 2046, 2048} {
			for _, area := range wrongAreas() {
				refuseAppend(t, started(1), area, at, 1, r, api.ErrArg)
			}
			for _, number := range append(wrongNumbers(), 0) {
				refuseAppend(t, started(1), 0, at, number, r, api.ErrArg)
			}
			refuseAppend(t, disk.New(), 0, at, 1, r, api.ErrArg)
		}
		for _, at := range wrongPlaces() {
			refuseAppend(t, started(1), 2, at, 1, r, api.ErrArg)
		}
	}
	for _, at := range []int{2046, 2047, 2048} {
		refuseAppend(t, started(1), 0, at, 1, full, api.ErrFull)
		refuseAppend(t, started(1), 0, at, 0, full, api.ErrArg)
		refuseAppend(t, started(1), 3, at, 1, full, api.ErrArg)
		refuseAppend(t, disk.New(), 0, at, 1, full, api.ErrArg)
	}
}

// P13.2 Scan: numbers and counts that may be, and that may not, and disks that may not be, which are told first.
func TestScanRefused(t *testing.T) {
	some, _ := row(1, 0, sizedOnes(1, 3, 2)...)
	for _, d := range append(goodDisks(), some, disk.New()) {
		for _, number := range wrongNumbers() {
			refuseScan(t, d, 1, number, 1, api.ErrArg)
			refuseScan(t, d, 1, number, 0, api.ErrArg)
			refuseScan(t, d, 1, 0, number, api.ErrArg)
			refuseScan(t, d, 1, 5, number, api.ErrArg)
			refuseScan(t, d, 1, number, number, api.ErrArg)
		}
	}
	for _, d := range wrongDisks() {
		for _, area := range []int{0, 1, 2, -1, 3, math.MaxInt, math.MinInt} {
			for _, number := range []int{0, 1, -1, numberEnd, math.MaxInt, math.MinInt} {
				for _, most := range []int{0, 1, -1, numberEnd, math.MaxInt, math.MinInt} {
					refuseScan(t, d, area, number, most, api.ErrBad)
				}
			}
		}
	}
}

// P13.2 Scan: nothing, one record, and several, and each count of them that may be asked for.
func TestScanMost(t *testing.T) {
	for area := range 3 {
		for _, l := range [][]api.Record{nil, sizedOnes(1), sizedOnes(2), sizedOnes(3), sizedOnes(1, 1), sizedOnes(3, 1, 2, 3, 1), sizedOnes(1, 2, 3, 3, 2, 1, 1)} {
			d, _ := row(area, 4, l...)
			for _, most := range []int{0, 1, 2, len(l), len(l) + 1, len(l) + 2, numberEnd - 2, numberEnd - 1} {
				got := wantScan(t, d, area, 4, most)
				if !equalRecords(got, l[:min(most, len(l))]) {
					t.Errorf("at most %d of %d are %d", most, len(l), len(got))
				}
			}
			if len(l) > 0 {
				wantScan(t, d, area, 4, len(l)-1)
			}
			for _, other := range []int{area + 1, area + 2} {
				holds(t, d, other%3, 4, 0)
			}
		}
	}
}

// P13.2 Scan: behind each number; the last one that there is, and behind that none, be it that a block bears number 0.
func TestScanNumbers(t *testing.T) {
	for _, number := range []int{0, 1, 2, 254, 255, 256, 65534, 65535, 0x050607, numberEnd - 4} {
		l := sizedOnes(1, 3, 2)
		d, end := row(2, number, l...)
		holds(t, d, 2, number, end, l...)
		for _, other := range []int{0, 1, 2, number + 1, number + 2, number + 3, max(number-1, 0), number ^ 1<<8, number ^ 1<<16, numberEnd - 2, numberEnd - 1} {
			if other != number {
				holds(t, d, 2, other, 0)
			}
		}
	}
	for blocks := 1; blocks <= 3; blocks++ {
		d, end := row(0, numberEnd-2, sized(blocks, 1))
		zero := blocksOf(sized(1, 2), 1, 1)[0]
		zero[6] = 0
		holds(t, d, 0, numberEnd-2, end, sized(blocks, 1))
		holds(t, with(d, end, zero), 0, numberEnd-2, end, sized(blocks, 1))
		holds(t, with(started(1), 0, zero), 0, numberEnd-1, 0)
		holds(t, d, 0, numberEnd-1, 0)
	}
}

// P13.2 Scan: a row whose first record has another number than is asked for, and rows in which a later one has another than the next.
func TestScanOtherNumbers(t *testing.T) {
	for _, numbers := range [][]int{{2}, {2, 3}, {1, 1}, {1, 3}, {1, 2, 2}, {1, 2, 4}, {1, 2, 1}, {1, 257}, {1, 65538}, {2, 1}, {1, 2, 3, 5, 6}, {3, 2, 1}} {
		for blocks := 1; blocks <= 3; blocks++ {
			w := tell(started(1))
			var want []api.Record
			at, end := 0, 0
			for i, number := range numbers {
				at = w.append(1, at, number, sized(blocks, i))
				if number == i+1 && len(want) == i {
					want = append(want, sized(blocks, i))
					end = at
				}
			}
			holds(t, w.disk(), 1, 0, end, want...)
			for number := range 7 {
				wantScan(t, w.disk(), 1, number, 9)
			}
		}
	}
}

// P13.2 Scan: a row with one block less, wherever it is, ends ahead of its record, also where a block of noughts stands there.
func TestScanLacksABlock(t *testing.T) {
	sizes := []int{1, 3, 2, 1, 3}
	l := sizedOnes(sizes...)
	d, end := row(1, 0, l...)
	ends := 0
	for i, many := range sizes {
		for k := range many {
			w := tell(d)
			delete(w.stands, 2048+ends+k)
			holds(t, w.disk(), 1, 0, ends, l[:i]...)
			w.stands[2048+ends+k] = string(make([]byte, size))
			holds(t, w.disk(), 1, 0, ends, l[:i]...)
		}
		ends += many
	}
	holds(t, d, 1, 0, end, l...)
}

// P13.2 Scan: records behind a gap of one block and more are not behind that number, and neither is one that stands at another place than 0.
func TestScanGap(t *testing.T) {
	for gap := 1; gap <= 4; gap++ {
		for blocks := 1; blocks <= 3; blocks++ {
			d := with(started(1), gap, blocksOf(sized(blocks, 0), 1, 1)...)
			holds(t, d, 0, 0, 0)
			d, end := row(0, 0, sizedOnes(2, blocks)...)
			d = with(d, end+gap, blocksOf(sized(blocks, 2), 1, 3)...)
			holds(t, d, 0, 0, end, sizedOnes(2, blocks)...)
			holds(t, d, 0, 2, 0)
		}
	}
}

// P13.2 Scan: blocks of one record that bear unlike starts or numbers, or come of two records, or stand in another order.
func TestScanMixedBlocks(t *testing.T) {
	for blocks := 2; blocks <= 3; blocks++ {
		for i := range blocks {
			for _, other := range [][][]byte{blocksOf(sized(blocks, 1), 2, 2), blocksOf(sized(blocks, 1), 1, 3), blocksOf(sized(5-blocks, 1), 1, 2)} {
				d, _ := row(0, 0, sized(1, 0), sized(blocks, 1), sized(1, 2))
				if i < len(other) {
					holds(t, with(d, 1+i, other[i]), 0, 0, 1, sized(1, 0))
				}
			}
			for k := range blocks {
				l := blocksOf(sized(blocks, 1), 1, 2)
				l[i], l[k] = l[k], l[i]
				d, _ := row(0, 0, sized(1, 0))
				if i != k {
					holds(t, with(d, 1, l...), 0, 0, 1, sized(1, 0))
				}
				l = blocksOf(sized(blocks, 1), 1, 2)
				l[i] = l[k]
				if i != k {
					holds(t, with(d, 1, l...), 0, 0, 1, sized(1, 0))
				}
			}
		}
	}
	l := blocksOf(sized(3, 1), 1, 1)
	holds(t, with(started(1), 0, l[1], l[2], l[0]), 0, 0, 0)
	holds(t, with(started(1), 0, l[2], l[0], l[1]), 0, 0, 0)
	holds(t, with(started(1), 0, l[1], l[2]), 0, 0, 0)
	holds(t, with(started(1), 0, l[2]), 0, 0, 0)
}

// P13.2 Scan: of records by unlike starts each that is whole counts, also those of a start that is above the disk's.
func TestScanStarts(t *testing.T) {
	w := tell(started(9))
	var want []api.Record
	at := 0
	for i, start := range []int{1, 1, 2, 9, 3, 12, startEnd - 1, 1} {
		w.starts = start
		at = w.append(2, at, i+1, sized(1+i%3, i))
		want = append(want, sized(1+i%3, i))
	}
	w.starts = 9
	holds(t, w.disk(), 2, 0, at, want...)
	w.starts = 0
	holds(t, w.disk(), 2, 0, at, want...)
}

// P13.2 Scan: a record that ends with the area is there, whatever stands behind; one of whose blocks the area lacks some is not, though they stand behind it.
func TestScanAtTheEnd(t *testing.T) {
	for area := range 3 {
		w := tell(started(1))
		var l []api.Record
		at := 0
		for at < 2040 {
			l = append(l, sized(3, len(l)%200))
			at = w.append(area, at, len(l), l[len(l)-1])
		}
		w.holdsToTheEnd(t, area, at, l)
	}
}

// holdsToTheEnd asks what is there of records that are put behind those of l, which end at a place near the area's end.
func (w told) holdsToTheEnd(t *testing.T, area, at int, l []api.Record) {
	t.Helper()
	filled := w.disk()
	for _, sizes := range [][]int{{1}, {2}, {3}, {3, 3}, {3, 3, 1}, {3, 2, 2}, {3, 2, 1}, {3, 3, 2}, {3, 3, 3}, {3, 2, 2, 2}, {2, 2, 2, 2}, {1, 1, 1, 1, 1, 1, 1, 1, 1}} {
		x := tell(filled)
		want, end, next := slices.Clone(l), at, at
		for i, blocks := range sizes {
			for k, b := range blocksOf(sized(blocks, 300+i), 1, len(l)+1+i) {
				if p := 2048*area + next + k; p < places {
					x.stands[p] = string(b)
				}
			}
			next += blocks
			if next <= room {
				want = append(want, sized(blocks, 300+i))
				end = next
			}
		}
		holds(t, x.disk(), area, 0, end, want...)
	}
}

// blockWith has a head's bytes, and a piece behind them.
func blockWith(h api.Head, piece []byte) []byte {
	b := make([]byte, size)
	copy(b, []byte{byte(h.Start >> 24), byte(h.Start >> 16), byte(h.Start >> 8), byte(h.Start), byte(h.Number >> 16), byte(h.Number >> 8), byte(h.Number), byte(h.Index), byte(h.Of)})
	copy(b[9:], piece)
	return b
}

// inBlocks has a record's bytes in so many blocks, be it as many as it has or not.
func inBlocks(r api.Record, start, number, many int) [][]byte {
	var b []byte
	for _, x := range blocksOf(r, start, number) {
		b = append(b, x[9:]...)
	}
	b = append(b, make([]byte, 119*many)...)
	var l [][]byte
	for i := range many {
		l = append(l, blockWith(api.Head{Start: start, Number: number, Index: i, Of: many}, b[119*i:119*(i+1)]))
	}
	return l
}

// P13.2 Scan: a record's bytes in more blocks or in fewer than it has are no record; so no four blocks are one.
func TestScanOtherCounts(t *testing.T) {
	for blocks := 1; blocks <= 3; blocks++ {
		for many := 1; many <= 6; many++ {
			d, _ := row(0, 0, sized(1, 0))
			d = with(d, 1, inBlocks(sized(blocks, 1), 1, 2, many)...)
			d = with(d, 1+many, blocksOf(sized(1, 2), 1, 3)...)
			if many == blocks {
				holds(t, d, 0, 0, 2+many, sized(1, 0), sized(blocks, 1), sized(1, 2))
			} else {
				holds(t, d, 0, 0, 1, sized(1, 0))
			}
		}
	}
	for of := range 256 {
		d := with(started(1), 0, blocksOf(sized(1, 0), 1, 1)...)
		d.Sectors[0].Bytes[8] = byte(of)
		if of == 1 {
			holds(t, d, 0, 0, 1, sized(1, 0))
		} else {
			holds(t, d, 0, 0, 0)
		}
	}
}

// P13.2 Scan: a head that tells more blocks than the area has from there on, at each of its last places, in each area.
func TestScanHeadTellsTooMany(t *testing.T) {
	for area := range 3 {
		w := tell(started(1))
		var l []api.Record
		for at := 0; at < room; at++ {
			l = append(l, opening(handle(1, 1, 2), at%256))
			w.append(area, at, at+1, l[at])
		}
		holds(t, w.disk(), area, 0, room, l...)
		for at := room - 4; at < room; at++ {
			for of := 2; of <= 4; of++ {
				x := tell(w.disk())
				for i, b := range inBlocks(sized(min(of, 3), 1), 1, at+1, of) {
					if p := 2048*area + at + i; p < places {
						x.stands[p] = string(b)
					}
				}
				want, end := slices.Clone(l[:at]), at
				if of < 4 && at+of <= room {
					want, end = append(want, sized(of, 1)), at+of
				}
				holds(t, x.disk(), area, 0, end, want...)
			}
		}
	}
}

// P13.2 Scan: a full area ends with it, though the records of the next numbers stand behind it.
func TestScanFullAreas(t *testing.T) {
	w := tell(started(1))
	var l []api.Record
	for at := range places {
		l = append(l, opening(handle(1, 1, 2), at*7%256))
		w.stands[at] = string(blocksOf(l[at], 1, at+1)[0])
	}
	d := w.disk()
	for area := range 3 {
		holds(t, d, area, 2048*area, room, l[2048*area:2048*area+2048]...)
		for _, most := range []int{0, 1, 2047, 2048, 2049} {
			wantScan(t, d, area, 2048*area, most)
		}
		holds(t, d, area, 2048*area+1, 0)
	}
}

// P13.2 Scan: one byte turned in a block's head and behind it: what it is then is there, or nothing; of four blocks nothing ever is.
func TestScanTurned(t *testing.T) {
	gone, other := 0, 0
	turn := func(d api.Disk, at int, by byte) []api.Record {
		t.Helper()
		x := tell(d)
		s := d.Sectors[at/size]
		b := bytes.Clone(s.Bytes)
		b[at%size] ^= by
		x.stands[s.At] = string(b)
		return wantScan(t, x.disk(), 1, 0, 9)
	}
	four := with(started(1), 2048, inBlocks(sized(3, 0), 1, 1, 4)...)
	for _, by := range []byte{1, 2, 128, 255} {
		for _, sizes := range [][]int{{1}, {2}, {3}, {2, 1}, {3, 2}} {
			d, end := row(1, 0, sizedOnes(sizes...)...)
			for at := range size * end {
				if len(turn(d, at, by)) < len(sizes) {
					gone++
				} else {
					other++
				}
			}
		}
		for at := range size * 4 {
			if l := turn(four, at, by); len(l) > 0 {
				t.Errorf("four blocks, turned at %d by %d: %v", at, by, l)
			}
		}
	}
	if gone < 2000 || other < 200 {
		t.Errorf("%d are gone, %d are others", gone, other)
	}
}

// P13.2 Scan: blocks that are no record's: noughts, and others, at place 0 and behind a record.
func TestScanNoRecords(t *testing.T) {
	for area := range 3 {
		for _, b := range [][]byte{make([]byte, size), bytes.Repeat([]byte{255}, size), bytes.Repeat([]byte{1}, size), blockWith(api.Head{Start: 1, Number: 2, Of: 1}, nil), blockWith(api.Head{Start: 1, Number: 2, Of: 1}, []byte{4}), blockWith(api.Head{Start: 0, Number: 2, Of: 1}, []byte{3}), blockWith(api.Head{Start: startEnd, Number: 2, Of: 1}, []byte{3}), blockWith(api.Head{Start: 1, Number: 2, Index: 1, Of: 1}, []byte{3}), sector(300).Bytes} {
			for _, many := range []int{1, 2, 3, 4, 5} {
				d := with(started(1), 2048*area, slices.Repeat([][]byte{b}, many)...)
				for number := range 4 {
					holds(t, d, area, number, 0)
				}
				d, end := row(area, 0, sized(2, 0))
				d = with(d, 2048*area+end, slices.Repeat([][]byte{b}, many)...)
				holds(t, d, area, 0, 2, sized(2, 0))
			}
		}
	}
	for _, d := range goodDisks() {
		for area := range 3 {
			for _, number := range []int{0, 1, numberEnd - 2, numberEnd - 1} {
				holds(t, d, area, number, 0)
			}
		}
	}
}

// P13.2 Scan: it hangs on nothing but what stands there: not on the disk's starts, on what is left, and on whether it is dead.
func TestScanInEachState(t *testing.T) {
	l := sizedOnes(2, 1, 3)
	written, end := row(1, 6, l...)
	for _, d := range append(goodDisks(), disk.New(), api.Disk{Dead: true}) {
		w := tell(d)
		for _, s := range written.Sectors {
			w.stands[s.At] = string(s.Bytes)
		}
		delete(w.stands, 2048+end)
		holds(t, w.disk(), 1, 6, end, l...)
	}
}

// P13.1, P13.4: what is in one area stays as it was while others are written to, and so do the blocks of all other places.
func TestAreasByThemselves(t *testing.T) {
	d := api.Disk{Sectors: sectors(100, 2047, 2500, 4095, 5000, 6143, 6144, 6145), Starts: 1, Left: -1}
	var there [3][]api.Record
	var at [3]int
	kept := tell(d)
	for n := range 60 {
		area := n * 7 % 3
		r := sized(1+n%3, n)
		there[area] = append(there[area], r)
		d, at[area] = wantAppend(t, d, area, at[area], 1000*area+len(there[area]), r)
		for other := range 3 {
			holds(t, d, other, 1000*other, at[other], there[other]...)
		}
	}
	for _, p := range slices.Collect(maps.Keys(kept.stands)) {
		if b, _ := disk.Read(d, p); string(b) != kept.stands[p] {
			t.Errorf("what stood at %d was turned", p)
		}
	}
	if want := at[0] + at[1] + at[2] + 8; len(d.Sectors) != want {
		t.Errorf("%d blocks stand there, not %d", len(d.Sectors), want)
	}
}

// P13.1: a record is put upon what stands there, and between: only its own places are turned.
func TestAppendUpon(t *testing.T) {
	l := sizedOnes(3, 3, 3)
	d, end := row(0, 0, l...)
	for at := range end + 3 {
		for blocks := 1; blocks <= 3; blocks++ {
			for number := 1; number <= 4; number++ {
				got, next := wantAppend(t, d, 0, at, number, sized(blocks, 50))
				wantScan(t, got, 0, 0, 9)
				wantScan(t, got, 0, number-1, 9)
				want := append(slices.Clone(l[:number-1]), sized(blocks, 50))
				switch {
				case at != 3*(number-1):
				case blocks == 3 && number < 4:
					holds(t, got, 0, 0, end, append(want, l[number:]...)...)
				default:
					holds(t, got, 0, 0, next, want...)
				}
			}
		}
	}
}

// rows have how many blocks records have that are put one behind the other.
func rows() [][]int {
	return [][]int{{1}, {2}, {3}, {1, 1, 1}, {3, 3}, {1, 3, 2, 1}, {2, 1, 3, 3}, {3, 1, 2, 1, 3}}
}

// put puts records one behind the other in an area of a disk, from a place and behind a number on, and asks that each answer is what the words tell, whether the disk fails or not.
func put(t *testing.T, d api.Disk, area, at, number int, l ...api.Record) (api.Disk, int) {
	t.Helper()
	for i, r := range l {
		d, at = wantAppend(t, d, area, at, number+1+i, r)
	}
	return d, at
}

// done is how many records are done by so many writes, and how many blocks these have; left -1: all.
func done(sizes []int, left int) (many, blocks int) {
	for many < len(sizes) && (left == -1 || blocks+sizes[many] <= left) {
		blocks += sizes[many]
		many++
	}
	return many, blocks
}

// sum is how many blocks there are.
func sum(sizes []int) int {
	all := 0
	for _, many := range sizes {
		all += many
	}
	return all
}

// P13.4: what is put, one behind the other, is there; where the disk fails, just those records all of whose blocks were written; the place is the same whether it fails or not; and what is left then.
func TestFails(t *testing.T) {
	for _, sizes := range rows() {
		l, all := sizedOnes(sizes...), sum(sizes)
		for left := -1; left <= all+2; left++ {
			for area := range 3 {
				d, e := disk.Start(api.Disk{Sectors: sectors(100, 6144), Left: -1}, left)
				if e != api.OK {
					t.Fatal(e)
				}
				d, next := put(t, d, area, 0, 6, l...)
				many, blocks := done(sizes, left)
				holds(t, d, area, 6, blocks, l[:many]...)
				if next != all || d.Dead != (left >= 0 && left < all) || d.Left != max(left-all, min(left, 0)) {
					t.Errorf("%v, %d left: %s, %d", sizes, left, brief(d), next)
				}
				writes := all
				if left >= 0 {
					writes = min(left, all)
				}
				if len(d.Sectors) != 2+writes {
					t.Errorf("%v, %d left: %d blocks stand there, not %d", sizes, left, len(d.Sectors), 2+writes)
				}
			}
		}
	}
}

// P13.4: on a disk that is dead nothing is put, and the answer is that disk, and the place behind.
func TestDead(t *testing.T) {
	for _, sizes := range rows() {
		d, end := row(1, 0, sizedOnes(sizes...)...)
		d.Left, d.Dead = 0, true
		for blocks := 1; blocks <= 3; blocks++ {
			for _, at := range []int{0, 1, end, end + 1, room - blocks} {
				got, next, e := Append(d, 1, at, len(sizes)+1, sized(blocks, 9))
				if e != api.OK || next != at+blocks || !equal(got, d) {
					t.Errorf("Append to %s at %d: %s, %d, %d", brief(d), at, brief(got), next, e)
				}
			}
		}
		holds(t, d, 1, 0, end, sizedOnes(sizes...)...)
	}
}

// P13.4: behind a new start, what is put behind the last whole record is there, be it shorter or longer than the torn one, and so is what is put behind that; nothing of what was torn is.
func TestNewStart(t *testing.T) {
	for _, sizes := range rows() {
		l := sizedOnes(sizes...)
		for left := 0; left <= sum(sizes)+1; left++ {
			d, _ := disk.Start(disk.New(), left)
			torn, _ := put(t, d, 2, 0, 0, l...)
			many, blocks := done(sizes, left)
			for first := 1; first <= 3; first++ {
				for second := 1; second <= 3; second++ {
					d, _ = disk.Start(torn, -1)
					holds(t, d, 2, 0, blocks, l[:many]...)
					d, next := put(t, d, 2, blocks, many, sized(first, 70))
					holds(t, d, 2, 0, next, append(slices.Clone(l[:many]), sized(first, 70))...)
					d, next = put(t, d, 2, next, many+1, sized(second, 80))
					holds(t, d, 2, 0, next, append(slices.Clone(l[:many]), sized(first, 70), sized(second, 80))...)
				}
			}
		}
	}
}

// P13.4: nor behind several starts, each of which fails, also where the same record is put each time.
func TestNewStartsThatFail(t *testing.T) {
	for _, same := range []bool{true, false} {
		for code := range 4 * 4 * 4 * 4 {
			d := disk.New()
			var want []api.Record
			end := 0
			for i := range 4 {
				left := code >> (2 * i) & 3
				d, _ = disk.Start(d, left)
				r := sized(3, 1)
				if !same {
					r = sized(3-i%3, i)
				}
				d, _ = put(t, d, 0, end, len(want), r)
				if many := len(blocksOf(r, 1, 1)); many <= left {
					want = append(want, r)
					end += many
				}
				holds(t, d, 0, 0, end, want...)
			}
			d, _ = disk.Start(d, -1)
			d, next := put(t, d, 0, end, len(want), sized(2, 99))
			holds(t, d, 0, 0, next, append(want, sized(2, 99))...)
		}
	}
}

// P13.4: a whole area is put and is there, of one block each, and of three, with what is left of room.
func TestWholeArea(t *testing.T) {
	for blocks := 1; blocks <= 3; blocks += 2 {
		d := started(1)
		var l []api.Record
		at := 0
		for at+blocks <= room {
			var e api.Errno
			l = append(l, sized(blocks, len(l)))
			if d, at, e = Append(d, 1, at, len(l), l[len(l)-1]); e != api.OK || at != blocks*len(l) {
				t.Fatal(at, e)
			}
		}
		refuseAppend(t, d, 1, at, len(l)+1, sized(3, 0), api.ErrFull)
		holds(t, d, 1, 0, at, l...)
		for ; at < room; at++ {
			l = append(l, sized(1, len(l)))
			d, _ = wantAppend(t, d, 1, at, len(l), l[len(l)-1])
		}
		refuseAppend(t, d, 1, at, len(l)+1, sized(1, 0), api.ErrFull)
		holds(t, d, 1, 0, room, l...)
		holds(t, d, 0, 0, 0)
		holds(t, d, 2, 0, 0)
	}
}

// mark is a block as the words tell it: by which start it was written, of which record, with which number, which one it is, of how many.
type mark struct {
	start, record, number, index, of int
}

// marked is a disk as the words tell it: the mark of each block, and what is left of its writes.
type marked struct {
	stands map[int]mark
	start  int
	left   int
}

// put does what the words tell of a record of so many blocks.
func (w *marked) put(area, at, number, which, blocks int) {
	for i := range blocks {
		if w.left == 0 {
			return
		}
		w.left--
		w.stands[2048*area+at+i] = mark{w.start, which, number, i, blocks}
	}
}

// scan has which records an area has behind a number, and the place behind the last one.
func (w *marked) scan(area, number int) (l []int, at int) {
	for {
		first, is := w.stands[2048*area+at]
		if !is || first.number != number+1+len(l) || at+first.of > room {
			return l, at
		}
		for i := range first.of {
			want := first
			want.index = i
			if w.stands[2048*area+at+i] != want {
				return l, at
			}
		}
		l = append(l, first.record)
		at += first.of
	}
}

// life is a disk at random: what was put where, with which number, and of which record each place tells.
type life struct {
	t       *testing.T
	r       *rand.Rand
	d       api.Disk
	w       marked
	records []api.Record
	base    [3]int
	torn    int
}

// holds asks of each area that just those records are there that the words tell.
func (x *life) holds() {
	x.t.Helper()
	for area := range 3 {
		which, end := x.w.scan(area, x.base[area])
		var want []api.Record
		for _, n := range which {
			want = append(want, x.records[n])
		}
		holds(x.t, x.d, area, x.base[area], end, want...)
	}
}

// start starts the disk anew.
func (x *life) start() {
	left := x.r.Intn(25)
	x.d, _ = disk.Start(x.d, left)
	x.w.start, x.w.left = x.d.Starts, left
}

// put puts some records to an area, behind those that are there, one behind the other, whether the disk fails or not.
func (x *life) put() {
	area := x.r.Intn(3)
	there, at := x.w.scan(area, x.base[area])
	number := x.base[area] + len(there)
	for range 1 + x.r.Intn(4) {
		number++
		blocks := 1 + x.r.Intn(3)
		x.records = append(x.records, sized(blocks, len(x.records)))
		var e api.Errno
		was := at
		x.d, at, e = Append(x.d, area, at, number, x.records[len(x.records)-1])
		if e != api.OK || at != was+blocks {
			x.t.Fatal(area, was, at, number, e)
		}
		x.w.put(area, was, number, len(x.records)-1, blocks)
	}
	if x.d.Dead {
		x.torn++
		x.holds()
		x.start()
	}
}

// anew lets an area begin at place 0 with a number that is above all that were.
func (x *life) anew() {
	area := x.r.Intn(3)
	there, _ := x.w.scan(area, x.base[area])
	x.base[area] += len(there) + 1 + x.r.Intn(9)
}

// P13.1, P13.2, P13.4: records at random, put to all areas, while the disk fails and is started again, and areas begin anew upon what stood there.
func TestAtRandom(t *testing.T) {
	r := rand.New(rand.NewSource(13))
	torn := 0
	for range 60 {
		x := &life{t: t, r: r, d: disk.New(), w: marked{stands: map[int]mark{}}}
		x.start()
		for range 40 {
			if r.Intn(6) == 0 {
				x.anew()
			} else {
				x.put()
			}
			x.holds()
		}
		torn += x.torn
	}
	if torn < 200 {
		t.Errorf("the disk failed %d times", torn)
	}
}

// pick is one of some, at random.
func pick[T any](r *rand.Rand, l []T) T {
	return l[r.Intn(len(l))]
}

// P1, P13.1, P13.2: arguments at random, many of which may not be: each call ends in an answer, the one that is to be.
func TestAnyAtRandom(t *testing.T) {
	r := rand.New(rand.NewSource(131))
	some, _ := row(1, 4, sizedOnes(1, 3, 2)...)
	disks := slices.Concat(goodDisks(), []api.Disk{some, disk.New(), {}}, wrongDisks())
	records := slices.Concat(sizedOnes(1, 2, 3, 1, 2, 3), goodRecords(), wrongRecords())
	areas := append(slices.Repeat([]int{0, 1, 2}, 20), wrongAreas()...)
	at := append(slices.Repeat([]int{0, 5, 2045, 2046, 2047, 2048}, 10), wrongPlaces()...)
	numbers := append(slices.Repeat(append(goodNumbers(), 0), 5), wrongNumbers()...)
	well := 0
	for range 30000 {
		d, x, area, place, number, most := pick(r, disks), pick(r, records), pick(r, areas), pick(r, at), pick(r, numbers), pick(r, numbers)
		bad := disk.Check(d) != api.OK
		inside := area >= 0 && area <= 2
		switch blocks, e := record.Count(x); {
		case bad:
			refuseAppend(t, d, area, place, number, x, api.ErrBad)
		case !inside || place < 0 || place > 2048 || d.Starts == 0 || number < 1 || number >= numberEnd:
			refuseAppend(t, d, area, place, number, x, api.ErrArg)
		case e != api.OK:
			refuseAppend(t, d, area, place, number, x, api.ErrBad)
		case place+blocks > 2048:
			refuseAppend(t, d, area, place, number, x, api.ErrFull)
		default:
			well++
			wantAppend(t, d, area, place, number, x)
		}
		switch {
		case bad:
			refuseScan(t, d, area, number, most, api.ErrBad)
		case !inside || number < 0 || number >= numberEnd || most < 0 || most >= numberEnd:
			refuseScan(t, d, area, number, most, api.ErrArg)
		default:
			wantScan(t, d, area, number, most)
		}
	}
	if well < 3000 || well > 20000 {
		t.Errorf("%d are well", well)
	}
}

// spoil, spoilRecords and spoilRow write over all of an answer, and over the room behind it.
func spoil(d api.Disk) {
	for _, s := range d.Sectors {
		all := s.Bytes[:cap(s.Bytes)]
		for i := range all {
			all[i] ^= 0xa5
		}
	}
	all := d.Sectors[:cap(d.Sectors)]
	for i := range all {
		all[i] = api.Sector{At: 4000 + i, Bytes: []byte{9}}
	}
}

func spoilRecords(l []api.Record) {
	for _, r := range l {
		spoilRow(r.Op.Runes)
	}
	all := l[:cap(l)]
	for i := range all {
		all[i] = given(5, api.Clear{})
	}
}

func spoilRow(row []int32) {
	all := row[:cap(row)]
	for i := range all {
		all[i] ^= 0x5a5a
	}
}

// guarded has a disk whose lists lie in the middle of others, with room behind them, and all of that memory.
func guarded(d api.Disk) (api.Disk, []api.Sector, [][]byte) {
	all := []api.Sector{{At: 7777, Bytes: []byte{1}}}
	var around [][]byte
	for _, s := range d.Sectors {
		row := slices.Concat([]byte{7, 7}, s.Bytes, []byte{8, 8, 8})
		around = append(around, row)
		all = append(all, api.Sector{At: s.At, Bytes: row[2 : 2+len(s.Bytes)]})
	}
	for at := range 4 {
		all = append(all, api.Sector{At: 8888 + at, Bytes: []byte{2}})
	}
	d.Sectors = all[1 : 1+len(d.Sectors)]
	return d, all, around
}

// guardedRecord has a record whose runes lie in the middle of others, and all of these.
func guardedRecord(r api.Record) (api.Record, []int32) {
	all := slices.Concat([]int32{5}, r.Op.Runes, []int32{6, 7})
	r.Op.Runes = all[1 : 1+len(r.Op.Runes)]
	return r, all
}

// handed has disks with records on them, in each state, and such that may not be.
func handed() []api.Disk {
	var l []api.Disk
	for _, sizes := range [][]int{nil, {1}, {3, 1, 2}, {2, 2}} {
		d, _ := row(1, 0, sizedOnes(sizes...)...)
		for _, left := range []int{-1, 0, 1, 2, 9} {
			d.Left = left
			l = append(l, d)
		}
		d.Left, d.Dead = 0, true
		l = append(l, d)
	}
	return append(l, wrongDisks()...)
}

// P13.3: what is handed in is only read, and so is what lies beside it, whatever the answer, and whatever is written into that.
func TestOnlyRead(t *testing.T) {
	for _, d := range handed() {
		mine, all, around := guarded(d)
		_, allWas, aroundWas := guarded(d)
		for _, r := range append(wrongRecords(), sizedOnes(1, 2, 3)...) {
			given, row := guardedRecord(r)
			_, rowWas := guardedRecord(r)
			for _, at := range []int{0, 1, 3, 6, 2046, 2048, -1, 2049} {
				got, _, _ := Append(mine, 1, at, 2, given)
				spoil(got)
			}
			got, _, _ := Append(mine, 3, 0, 2, given)
			spoil(got)
			if !slices.Equal(row, rowWas) || !equalRecords([]api.Record{given}, []api.Record{r}) {
				t.Fatalf("%v was turned", r)
			}
		}
		for _, most := range []int{0, 1, 2, 9, -1} {
			for number := -1; number < 3; number++ {
				l, _, _ := Scan(mine, 1, number, most)
				spoilRecords(l)
			}
		}
		same := slices.EqualFunc(all, allWas, func(a, b api.Sector) bool { return a.At == b.At && bytes.Equal(a.Bytes, b.Bytes) })
		if !same || !slices.EqualFunc(around, aroundWas, bytes.Equal) || !equal(mine, d) {
			t.Fatalf("%s was turned", brief(d))
		}
	}
}

// copied is a disk in memory of its own.
func copied(d api.Disk) api.Disk {
	return tell(d).disk()
}

// P13.3: what is written into Append's answer leaves no trace in another one, and what is written into what was handed in none in an answer.
func TestNewMemory(t *testing.T) {
	for _, d := range handed()[:24] {
		for _, at := range []int{0, 1, 3, 6, 2045} {
			for blocks := 1; blocks <= 3; blocks++ {
				mine, r := copied(d), sized(blocks, 4)
				first, _, e := Append(mine, 1, at, 2, r)
				second, _, _ := Append(mine, 1, at, 2, r)
				want := copied(first)
				spoil(first)
				if e != api.OK || !equal(second, want) || !equal(mine, d) {
					t.Fatalf("an answer of %s was turned by what was written into another one", brief(d))
				}
				spoil(mine)
				spoilRow(r.Op.Runes)
				if !equal(second, want) {
					t.Fatalf("an answer of %s was turned by what was written into that", brief(d))
				}
			}
		}
	}
}

// P13.3: so are the records of Scan, and their runes.
func TestNewMemoryOfScan(t *testing.T) {
	l := sizedOnes(1, 3, 2, 3)
	d, _ := row(1, 0, l...)
	mine := copied(d)
	for most := range 6 {
		first, _, _ := Scan(mine, 1, 0, most)
		second, _, _ := Scan(mine, 1, 0, most)
		spoilRecords(first)
		if !equal(mine, d) || !equalRecords(second, l[:min(most, 4)]) {
			t.Fatal("records were turned by what was written into others")
		}
		for i := range second {
			spoilRow(second[i].Op.Runes)
			for k := i + 1; k < len(second); k++ {
				if !equalRecords(second[k:k+1], l[k:k+1]) {
					t.Fatalf("the record %d was turned by what was written into the record %d", k, i)
				}
			}
		}
	}
	got, _, _ := Scan(mine, 1, 0, 9)
	spoil(mine)
	if !equalRecords(got, l) {
		t.Fatal("records were turned by what was written into their disk")
	}
}

// P13.3: no two lists of Append's answer share memory, also if all sectors of what was handed in do.
func TestListsByThemselves(t *testing.T) {
	shared := sector(5).Bytes
	d := started(1)
	for at := range 6 {
		d.Sectors = append(d.Sectors, api.Sector{At: 2048 + 2*at, Bytes: shared})
	}
	for _, left := range []int{-1, 0, 1, 2} {
		d.Left = left
		for at := range 12 {
			got, _ := wantAppend(t, d, 1, at, 1, sized(3, 4))
			for i := range got.Sectors {
				kept := copied(got)
				spoil(api.Disk{Sectors: slices.Clone(got.Sectors[i : i+1])})
				for k := range got.Sectors {
					if k != i && !bytes.Equal(got.Sectors[k].Bytes, kept.Sectors[k].Bytes) {
						t.Fatalf("sector %d was turned by what was written into sector %d", k, i)
					}
				}
			}
		}
	}
	if !bytes.Equal(shared, sector(5).Bytes) {
		t.Error("the sectors that were handed in were turned")
	}
}

// P13.3, P1: nothing is kept: what comes between two calls turns no answer.
func TestNothingIsKept(t *testing.T) {
	l := handed()[:24]
	for i, d := range l {
		other := copied(l[len(l)-1-i])
		want, end, _ := Scan(d, 1, 0, 9)
		behind, _ := wantAppend(t, d, 1, 3, 2, sized(2, 5))
		got, _, _ := Append(other, 1, 0, 7, sized(3, 6))
		spoil(got)
		scanned, _, _ := Scan(other, 1, 0, 9)
		spoilRecords(scanned)
		refuseAppend(t, other, 1, -1, 1, sized(1, 0), api.ErrArg)
		refuseScan(t, other, 3, 0, 1, api.ErrArg)
		refuseScan(t, api.Disk{Left: -2}, 1, 0, 1, api.ErrBad)
		holds(t, d, 1, 0, end, want...)
		if again, _ := wantAppend(t, d, 1, 3, 2, sized(2, 5)); !equal(again, behind) {
			t.Errorf("Append to %s is %s, and then %s", brief(d), brief(behind), brief(again))
		}
	}
}

// The chapter's examples.
func TestExamples(t *testing.T) {
	a, b := opening(handle(1, 1, 2), 3), sized(3, 0)
	for _, left := range []int{-1, 3} {
		d, _ := disk.Start(disk.New(), left)
		wantNine := func(next int, want ...api.Record) {
			t.Helper()
			if l, behind, e := Scan(d, 0, 0, 9); e != api.OK || behind != next || !equalRecords(l, want) {
				t.Errorf("Scan is %v, %d, %d, not %v, %d", l, behind, e, want, next)
			}
		}
		wantNine(0)
		d, next := put(t, d, 0, 0, 0, a)
		wantNine(1, a)
		if next != 1 {
			t.Errorf("behind A is %d", next)
		}
		d, next = put(t, d, 0, next, 1, b)
		if next != 4 {
			t.Errorf("behind B is %d", next)
		}
		if left == -1 {
			wantNine(4, a, b)
			continue
		}
		wantNine(1, a)
		d, _ = disk.Start(d, -1)
		d, _ = put(t, d, 0, 1, 1, a)
		wantNine(2, a, a)
	}
	refuseAppend(t, started(1), 3, 0, 1, a, api.ErrArg)
	refuseAppend(t, started(1), 0, 2049, 1, a, api.ErrArg)
	refuseAppend(t, started(1), 0, 2046, 1, b, api.ErrFull)
}
