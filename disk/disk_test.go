package disk

import (
	"bytes"
	"cmp"
	"fmt"
	"maps"
	"math"
	"math/rand"
	"slices"
	"testing"

	"blindstamp/api"
)

// How many places a disk has, and how many bytes a block.
const (
	places = 6146
	size   = 128
)

// block has a block's bytes, by a number: those of no two numbers below 2^16 are the same.
func block(n int) []byte {
	b := make([]byte, size)
	for i := range b {
		b[i] = byte(n + 3*i + 1)
	}
	b[0], b[size-1] = byte(n>>8), byte(n)
	return b
}

// noughts has a block to which nothing was written.
func noughts() []byte {
	return make([]byte, size)
}

// sector has a sector, whose bytes hang on its place; sectors has those of such places.
func sector(at int) api.Sector {
	return api.Sector{At: at, Bytes: block(at & 0xffff)}
}

func sectors(l ...int) []api.Sector {
	var all []api.Sector
	for _, at := range l {
		all = append(all, sector(at))
	}
	return all
}

// allPlaces has every place of a disk.
func allPlaces() []int {
	l := make([]int, places)
	for i := range l {
		l[i] = i
	}
	return l
}

// goodPlaces and wrongPlaces have places that there are, and that there are not.
func goodPlaces() []int {
	return []int{0, 1, 2, 127, 128, 255, 256, 2047, 2048, 2049, 4095, 4096, 4097, 6143, 6144, 6145}
}

func wrongPlaces() []int {
	return []int{-1, -2, -128, -6145, -6146, 6146, 6147, 6274, 8192, 1 << 16, 1 << 31, 1 << 32, 1<<32 + 5, math.MaxInt - 1, math.MaxInt, math.MinInt, math.MinInt + 1}
}

// goodLefts and wrongLefts have what may be left, and what may not.
func goodLefts() []int {
	return []int{-1, 0, 1, 2, 3, 255, 256, 1 << 16, 1<<31 - 2, 1<<31 - 1}
}

func wrongLefts() []int {
	return []int{-2, -3, -128, -(1 << 31), -(1 << 32), 1 << 31, 1<<31 + 1, 1<<32 - 1, 1 << 32, 1<<32 + 1, math.MaxInt - 1, math.MaxInt, math.MinInt, math.MinInt + 1}
}

// goodStarts and wrongStarts have how often a disk may have been started, and what may not be.
func goodStarts() []int {
	return []int{0, 1, 2, 255, 256, 1 << 16, 1<<31 - 2, 1<<31 - 1}
}

func wrongStarts() []int {
	return []int{-1, -2, -128, -(1 << 31), 1 << 31, 1<<31 + 1, 1<<32 - 1, 1 << 32, 1<<32 + 1, math.MaxInt - 1, math.MaxInt, math.MinInt, math.MinInt + 1}
}

// wrongLengths has how many bytes no block has.
func wrongLengths() []int {
	return []int{0, 1, 2, 64, 126, 127, 129, 130, 255, 256, 384, 1024, 1 << 16}
}

// someSectors has what may be on a disk: none, one, several, many, and all that there can be.
func someSectors() [][]api.Sector {
	return [][]api.Sector{
		nil,
		{},
		sectors(0),
		sectors(5),
		sectors(6145),
		sectors(0, 1),
		sectors(0, 6145),
		sectors(3, 7, 2048),
		sectors(goodPlaces()...),
		{{At: 4, Bytes: noughts()}, {At: 9, Bytes: noughts()}},
		sectors(allPlaces()[100:400]...),
	}
}

func full() []api.Sector {
	return sectors(allPlaces()...)
}

// goodOnes has disks that may be, of each kind of sectors and with the edges of each field.
func goodOnes() []api.Disk {
	var l []api.Disk
	for _, s := range someSectors() {
		l = append(l, api.Disk{Sectors: s, Starts: 3, Dead: true})
		for _, left := range goodLefts() {
			l = append(l, api.Disk{Sectors: s, Starts: 2, Left: left})
		}
		for _, starts := range goodStarts() {
			l = append(l, api.Disk{Sectors: s, Starts: starts, Left: 4}, api.Disk{Sectors: s, Starts: starts, Left: -1}, api.Disk{Sectors: s, Starts: starts, Dead: true})
		}
	}
	return append(l, api.Disk{}, api.Disk{Sectors: full(), Starts: 1, Left: 7})
}

// copied is a disk in memory of its own, by the tests' own means.
func copied(d api.Disk) api.Disk {
	var l []api.Sector
	for _, s := range d.Sectors {
		l = append(l, api.Sector{At: s.At, Bytes: append([]byte(nil), s.Bytes...)})
	}
	d.Sectors = l
	return d
}

// ofSectors has disks whose sectors may not be, by each thing that may be wrong with them.
func ofSectors() [][]api.Sector {
	var l [][]api.Sector
	for _, at := range wrongPlaces() {
		l = append(l, sectors(at), sectors(at, 3, 9), sectors(3, at, 9), sectors(3, 9, at))
	}
	for _, at := range wrongPlaces()[:5] {
		l = append(l, sectors(at, at+1), sectors(at-1, at))
	}
	for _, many := range wrongLengths() {
		for at := range 3 {
			s := sectors(3, 5, 9)
			s[at].Bytes = make([]byte, many)
			l = append(l, s)
			s = sectors(3, 5, 9)
			s[at].Bytes = make([]byte, many, many+size)
			l = append(l, s)
		}
		l = append(l, []api.Sector{{At: 3, Bytes: make([]byte, many)}})
	}
	for at := range 3 {
		s := sectors(3, 5, 9)
		s[at].Bytes = nil
		l = append(l, s)
	}
	l = append(l, []api.Sector{{At: 3}}, []api.Sector{{}})
	l = append(l, sectors(0, 0), sectors(5, 5), sectors(6145, 6145), sectors(3, 3, 5, 9), sectors(3, 5, 5, 9), sectors(3, 5, 9, 9), sectors(3, 5, 3), sectors(5, 5, 5))
	l = append(l, sectors(1, 0), sectors(6145, 0), sectors(5, 3, 9, 11), sectors(3, 9, 5, 11), sectors(3, 5, 11, 9), sectors(9, 5, 3), sectors(3, 9, 4, 5))
	return l
}

// wrongOnes has disks that may not be, each by one thing, or by several.
func wrongOnes() []api.Disk {
	var l []api.Disk
	for _, s := range ofSectors() {
		l = append(l, api.Disk{Sectors: s, Left: -1}, api.Disk{Sectors: s, Starts: 2, Left: 3}, api.Disk{Sectors: s, Starts: 1, Dead: true})
	}
	for _, s := range someSectors()[:5] {
		for _, starts := range wrongStarts() {
			l = append(l, api.Disk{Sectors: s, Starts: starts, Left: -1}, api.Disk{Sectors: s, Starts: starts}, api.Disk{Sectors: s, Starts: starts, Dead: true}, api.Disk{Sectors: s, Starts: starts, Left: -2})
		}
		for _, left := range wrongLefts() {
			l = append(l, api.Disk{Sectors: s, Starts: 1, Left: left}, api.Disk{Sectors: s, Left: left, Dead: true})
		}
		for _, left := range goodLefts() {
			if left != 0 {
				l = append(l, api.Disk{Sectors: s, Starts: 1, Left: left, Dead: true})
			}
		}
	}
	return append(l, api.Disk{Sectors: append(full(), sector(6145))}, api.Disk{Sectors: append(full(), sector(6146))}, api.Disk{Sectors: append(full(), sector(0))})
}

// mayBe tells by the words' own counts whether a disk may be: how many sectors there are at each place, and which one is the next.
func mayBe(d api.Disk) bool {
	next := 0
	for at := range places {
		if next < len(d.Sectors) && d.Sectors[next].At == at {
			next++
		}
	}
	if next < len(d.Sectors) {
		return false
	}
	for _, s := range d.Sectors {
		if len(s.Bytes) != size {
			return false
		}
	}
	if d.Starts < 0 || d.Starts >= 2147483648 {
		return false
	}
	if d.Dead {
		return d.Left == 0
	}
	return d.Left >= -1 && d.Left < 2147483648
}

// equal tells field by field whether two disks are the same.
func equal(a, b api.Disk) bool {
	if a.Starts != b.Starts || a.Left != b.Left || a.Dead != b.Dead || len(a.Sectors) != len(b.Sectors) {
		return false
	}
	for i := range a.Sectors {
		if a.Sectors[i].At != b.Sectors[i].At || string(a.Sectors[i].Bytes) != string(b.Sectors[i].Bytes) {
			return false
		}
	}
	return true
}

// nothing tells whether a disk is the zero one.
func nothing(d api.Disk) bool {
	return d.Sectors == nil && d.Starts == 0 && d.Left == 0 && !d.Dead
}

// told is a disk as the words tell it: what stands at each place to which something was written.
type told struct {
	stands       map[int]string
	starts, left int
	dead         bool
}

// tell has what the words tell of a disk.
func tell(d api.Disk) told {
	w := told{stands: map[int]string{}, starts: d.Starts, left: d.Left, dead: d.Dead}
	for _, s := range d.Sectors {
		w.stands[s.At] = string(s.Bytes)
	}
	return w
}

// disk is the disk of which that is told.
func (w told) disk() api.Disk {
	d := api.Disk{Starts: w.starts, Left: w.left, Dead: w.dead}
	for _, at := range slices.Sorted(maps.Keys(w.stands)) {
		d.Sectors = append(d.Sectors, api.Sector{At: at, Bytes: []byte(w.stands[at])})
	}
	return d
}

// write does what the words tell of a block that is written.
func (w *told) write(at int, b []byte) {
	if w.dead {
		return
	}
	if w.left == 0 {
		w.dead = true
		return
	}
	w.stands[at] = string(b)
	if w.left > 0 {
		w.left--
	}
}

// start does what the words tell of a start.
func (w *told) start(left int) {
	w.starts, w.left, w.dead = w.starts+1, left, false
}

// at is the block at a place.
func (w told) at(at int) []byte {
	if s, is := w.stands[at]; is {
		return []byte(s)
	}
	return noughts()
}

// brief is so much of a disk as can be told in a line.
func brief(d api.Disk) string {
	s := fmt.Sprintf("a disk (starts %d, left %d, dead %t, %d sectors:", d.Starts, d.Left, d.Dead, len(d.Sectors))
	for _, x := range d.Sectors[:min(9, len(d.Sectors))] {
		s += fmt.Sprintf(" %d of %d bytes %x", x.At, len(x.Bytes), x.Bytes[:min(3, len(x.Bytes))])
	}
	return s + ")"
}

// wantCheck, wantStart, wantWrite and wantRead ask that a call answers just that; refuseStart, refuseWrite and refuseRead that it answers an error and nothing else.
func wantCheck(t *testing.T, d api.Disk, want api.Errno) {
	t.Helper()
	if e := Check(d); e != want {
		t.Errorf("Check(%s) is %d, not %d", brief(d), e, want)
	}
}

func wantStart(t *testing.T, d api.Disk, left int) api.Disk {
	t.Helper()
	w := tell(d)
	w.start(left)
	got, e := Start(d, left)
	if e != api.OK || !equal(got, w.disk()) {
		t.Errorf("Start(%s, %d) is %s, %d, not %s", brief(d), left, brief(got), e, brief(w.disk()))
	}
	return got
}

func refuseStart(t *testing.T, d api.Disk, left int, want api.Errno) {
	t.Helper()
	if got, e := Start(d, left); e != want || !nothing(got) {
		t.Errorf("Start(%s, %d) is %s, %d, not nothing, %d", brief(d), left, brief(got), e, want)
	}
}

func wantWrite(t *testing.T, d api.Disk, at int, b []byte) api.Disk {
	t.Helper()
	w := tell(d)
	w.write(at, b)
	got, e := Write(d, at, b)
	if e != api.OK || !equal(got, w.disk()) {
		t.Errorf("Write(%s, %d, %v) is %s, %d, not %s", brief(d), at, b[:4], brief(got), e, brief(w.disk()))
	}
	return got
}

func refuseWrite(t *testing.T, d api.Disk, at int, b []byte, want api.Errno) {
	t.Helper()
	if got, e := Write(d, at, b); e != want || !nothing(got) {
		t.Errorf("Write(%s, %d, %d bytes) is %s, %d, not nothing, %d", brief(d), at, len(b), brief(got), e, want)
	}
}

func wantRead(t *testing.T, d api.Disk, at int, want []byte) {
	t.Helper()
	if b, e := Read(d, at); e != api.OK || !bytes.Equal(b, want) {
		t.Errorf("Read(%s, %d) is %v, %d, not %v", brief(d), at, b, e, want)
	}
}

func refuseRead(t *testing.T, d api.Disk, at int, want api.Errno) {
	t.Helper()
	if b, e := Read(d, at); e != want || b != nil {
		t.Errorf("Read(%s, %d) is %v, %d, not nothing, %d", brief(d), at, b, e, want)
	}
}

// P12.1 Check: disks that may be.
func TestCheckGoodOnes(t *testing.T) {
	for _, d := range goodOnes() {
		if !mayBe(d) {
			t.Fatalf("the tests' own mayBe refuses %s", brief(d))
		}
		wantCheck(t, d, api.OK)
	}
}

// P12.1 Check: disks that may not be; P12.2: and then all calls tell that, and nothing else.
func TestCheckWrongOnes(t *testing.T) {
	for _, d := range wrongOnes() {
		if mayBe(d) {
			t.Fatalf("the tests' own mayBe takes %s", brief(d))
		}
		wantCheck(t, d, api.ErrBad)
		refuseStart(t, d, -1, api.ErrBad)
		refuseStart(t, d, 0, api.ErrBad)
		for _, at := range []int{0, 3, 5, 6145} {
			refuseWrite(t, d, at, block(1), api.ErrBad)
			refuseRead(t, d, at, api.ErrBad)
		}
	}
}

// P12.1 Check: a sector may be at each place of the disk, and at no other, wherever it stands among others.
func TestCheckPlaces(t *testing.T) {
	for at := -3; at < places+3; at++ {
		want := api.ErrBad
		if at >= 0 && at < places {
			want = api.OK
		}
		wantCheck(t, api.Disk{Sectors: sectors(at), Left: -1}, want)
	}
	for _, at := range goodPlaces() {
		wantCheck(t, api.Disk{Sectors: sectors(at)}, api.OK)
	}
	for _, at := range wrongPlaces() {
		wantCheck(t, api.Disk{Sectors: sectors(at)}, api.ErrBad)
		wantCheck(t, api.Disk{Sectors: sectors(0, at)}, api.ErrBad)
		wantCheck(t, api.Disk{Sectors: sectors(at, 6145)}, api.ErrBad)
		wantCheck(t, api.Disk{Sectors: sectors(0, at, 6145)}, api.ErrBad)
	}
	wantCheck(t, api.Disk{Sectors: full()}, api.OK)
	wantCheck(t, api.Disk{Sectors: append(full(), sector(6146))}, api.ErrBad)
	wantCheck(t, api.Disk{Sectors: slices.Concat(sectors(-1), full())}, api.ErrBad)
}

// P12.1 Check: sectors rise: of all rows of at most four places just the rising ones may be.
func TestCheckOrder(t *testing.T) {
	good := 0
	for n := range 5 * 5 * 5 * 5 {
		row := []int{n % 5, n / 5 % 5, n / 25 % 5, n / 125}
		for many := range 5 {
			rises := true
			for i := 1; i < many; i++ {
				rises = rises && row[i-1] < row[i]
			}
			want := api.ErrBad
			if rises {
				want = api.OK
				good++
			}
			wantCheck(t, api.Disk{Sectors: sectors(row[:many]...), Starts: 1}, want)
		}
	}
	if good < 5 {
		t.Errorf("%d rise", good)
	}
}

// P12.1 Check: one pair of sectors among many that stand at one place, or fall, wherever it is.
func TestCheckOrderOfMany(t *testing.T) {
	for at := range 40 {
		s := sectors(allPlaces()[200:240]...)
		wantCheck(t, api.Disk{Sectors: s}, api.OK)
		wantCheck(t, api.Disk{Sectors: slices.Insert(slices.Clone(s), at, s[at])}, api.ErrBad)
		if at > 0 {
			s[at-1], s[at] = s[at], s[at-1]
			wantCheck(t, api.Disk{Sectors: s}, api.ErrBad)
			s[at-1], s[at] = s[at], s[at-1]
			s[at].At = s[at-1].At
			wantCheck(t, api.Disk{Sectors: s}, api.ErrBad)
		}
	}
}

// P12.1 Check: each sector has just a block's bytes, whatever they are and however much room is behind them.
func TestCheckBytes(t *testing.T) {
	for many := range 300 {
		want := api.ErrBad
		if many == size {
			want = api.OK
		}
		for at := range 3 {
			s := sectors(3, 5, 9)
			s[at].Bytes = make([]byte, many)
			wantCheck(t, api.Disk{Sectors: s}, want)
			s[at].Bytes = make([]byte, 300)[:many]
			wantCheck(t, api.Disk{Sectors: s}, want)
			s[at].Bytes = bytes.Repeat([]byte{255}, many)
			wantCheck(t, api.Disk{Sectors: s[at : at+1]}, want)
		}
	}
	wantCheck(t, api.Disk{Sectors: []api.Sector{{At: 3}}}, api.ErrBad)
}

// P12.1 Check: how often it was started is from 0 to below MaxStart, whatever else it is.
func TestCheckStarts(t *testing.T) {
	for _, d := range []api.Disk{{}, {Left: -1}, {Left: 5}, {Dead: true}, {Sectors: sectors(1, 2), Left: 1}} {
		for _, starts := range goodStarts() {
			d.Starts = starts
			wantCheck(t, d, api.OK)
		}
		for _, starts := range wrongStarts() {
			d.Starts = starts
			wantCheck(t, d, api.ErrBad)
		}
	}
}

// P12.1 Check: what is left is from -1 to below MaxStart; of one that is dead, 0.
func TestCheckLeft(t *testing.T) {
	for _, d := range []api.Disk{{}, {Starts: 1}, {Starts: 1<<31 - 1}, {Sectors: sectors(1, 2), Starts: 9}} {
		for _, left := range goodLefts() {
			d.Left, d.Dead = left, false
			wantCheck(t, d, api.OK)
			d.Dead = true
			want := api.ErrBad
			if left == 0 {
				want = api.OK
			}
			wantCheck(t, d, want)
		}
		for _, left := range wrongLefts() {
			d.Left, d.Dead = left, false
			wantCheck(t, d, api.ErrBad)
			d.Dead = true
			wantCheck(t, d, api.ErrBad)
		}
	}
}

// P12.1 New: nothing was written, it was not started, and it does not fail.
func TestNew(t *testing.T) {
	d := New()
	if len(d.Sectors) != 0 || d.Starts != 0 || d.Left != -1 || d.Dead {
		t.Errorf("New is %s", brief(d))
	}
	wantCheck(t, d, api.OK)
	for at := range places {
		wantRead(t, d, at, noughts())
	}
	for n := range 100 {
		d = wantWrite(t, d, n*37%places, block(n))
	}
	if d.Dead || d.Left != -1 || d.Starts != 0 || len(d.Sectors) != 100 {
		t.Errorf("behind writes New is %s", brief(d))
	}
}

// P12.1 New, P12.3: what is done to one is not seen in another.
func TestNewByItself(t *testing.T) {
	one, other := New(), New()
	written := wantWrite(t, one, 5, block(1))
	wantStart(t, one, 0)
	written.Sectors[0].Bytes[3] = 77
	one.Sectors = append(one.Sectors, sector(8))
	one.Starts, one.Left, one.Dead = 9, 0, true
	for _, d := range []api.Disk{other, New()} {
		if !equal(d, api.Disk{Left: -1}) {
			t.Errorf("another one is %s", brief(d))
		}
		wantRead(t, d, 5, noughts())
		wantRead(t, d, 8, noughts())
	}
}

// P12.2 Start: it is started once more, does so many writes as is told, and what was written stays.
func TestStart(t *testing.T) {
	for _, d := range goodOnes() {
		for _, left := range goodLefts() {
			if d.Starts == 1<<31-1 {
				refuseStart(t, d, left, api.ErrFull)
				continue
			}
			got := wantStart(t, d, left)
			if got.Starts != d.Starts+1 || got.Left != left || got.Dead || len(got.Sectors) != len(d.Sectors) {
				t.Errorf("Start(%s, %d) is %s", brief(d), left, brief(got))
			}
			wantCheck(t, got, api.OK)
		}
		for _, left := range wrongLefts() {
			refuseStart(t, d, left, api.ErrArg)
		}
	}
}

// P12.2 Start: the last start that there can be, and one more.
func TestStartLast(t *testing.T) {
	for _, d := range []api.Disk{{Left: -1}, {Left: 3}, {Left: 0}, {Dead: true}, {Sectors: sectors(2, 4), Dead: true}} {
		for _, left := range goodLefts() {
			d.Starts = 1<<31 - 3
			next := wantStart(t, d, left)
			last := wantStart(t, next, left)
			if next.Starts != 1<<31-2 || last.Starts != 1<<31-1 {
				t.Errorf("the last starts of %s are %d, %d", brief(d), next.Starts, last.Starts)
			}
			refuseStart(t, last, left, api.ErrFull)
			refuseStart(t, wantWrite(t, last, 7, block(7)), left, api.ErrFull)
		}
	}
}

// P12.2 Start: of several errors the first one: Check's, then that of what is left, then that there is no start left.
func TestStartFirstError(t *testing.T) {
	for _, left := range wrongLefts() {
		for _, starts := range goodStarts() {
			refuseStart(t, api.Disk{Starts: starts, Left: -1}, left, api.ErrArg)
			refuseStart(t, api.Disk{Starts: starts, Dead: true}, left, api.ErrArg)
			refuseStart(t, api.Disk{Starts: starts, Left: 1, Dead: true}, left, api.ErrBad)
			refuseStart(t, api.Disk{Starts: starts, Left: left}, left, api.ErrBad)
			refuseStart(t, api.Disk{Starts: starts, Sectors: sectors(2, 1)}, left, api.ErrBad)
		}
		for _, starts := range wrongStarts() {
			refuseStart(t, api.Disk{Starts: starts}, left, api.ErrBad)
		}
	}
	for _, left := range goodLefts() {
		refuseStart(t, api.Disk{Starts: 1<<31 - 1, Left: 1, Dead: true}, left, api.ErrBad)
		refuseStart(t, api.Disk{Starts: 1<<31 - 1, Left: -2}, left, api.ErrBad)
		refuseStart(t, api.Disk{Starts: 1<<31 - 1, Sectors: sectors(6146)}, left, api.ErrBad)
		refuseStart(t, api.Disk{Starts: 1 << 31}, left, api.ErrBad)
	}
}

// inStates has a disk of such sectors as one that does not fail, that is dead, and that has 0, 1, 2 and more writes left.
func inStates(s []api.Sector) []api.Disk {
	l := []api.Disk{{Sectors: s, Starts: 2, Dead: true}}
	for _, left := range []int{-1, 0, 1, 2, 3, 1<<31 - 2, 1<<31 - 1} {
		l = append(l, api.Disk{Sectors: s, Starts: 2, Left: left})
	}
	return l
}

// P12.2 Write: ahead of the first sector, between two, behind the last, and on each that is there, in each state of the disk: what stands then, and its fields.
func TestWrite(t *testing.T) {
	for _, s := range someSectors() {
		for _, d := range inStates(s) {
			for _, at := range slices.Concat(goodPlaces(), []int{3, 4, 5, 6, 7, 8, 9, 99, 100, 101, 250, 399, 400}) {
				got := wantWrite(t, d, at, block(5000))
				wantCheck(t, got, api.OK)
				done := !d.Dead && d.Left != 0
				before, is := tell(d).stands[at]
				want, many := noughts(), len(s)
				if is {
					want = []byte(before)
				}
				if done {
					want = block(5000)
					if !is {
						many++
					}
				}
				left := d.Left
				if left > 0 {
					left--
				}
				wantRead(t, got, at, want)
				if got.Starts != 2 || got.Left != left || got.Dead != (d.Dead || d.Left == 0) || len(got.Sectors) != many {
					t.Errorf("Write(%s, %d) is %s", brief(d), at, brief(got))
				}
			}
		}
	}
}

// P12.2 Write: at each place that there is, among some sectors, and on all.
func TestWriteEachPlace(t *testing.T) {
	few := api.Disk{Sectors: sectors(goodPlaces()...), Starts: 1, Left: 9}
	for at := range places {
		wantRead(t, wantWrite(t, few, at, block(7000+at)), at, block(7000+at))
	}
	all := api.Disk{Sectors: full(), Starts: 1, Left: -1}
	for _, at := range goodPlaces() {
		got := wantWrite(t, all, at, block(9000))
		wantRead(t, got, at, block(9000))
		wantRead(t, got, places-1-at, tell(got).at(places-1-at))
	}
}

// P12.2 Write: any bytes are a block, if there are as many; also such of noughts, which then stand there.
func TestWriteBytes(t *testing.T) {
	d := api.Disk{Sectors: sectors(3, 9), Starts: 1, Left: 5}
	for at := range 12 {
		for _, b := range [][]byte{noughts(), bytes.Repeat([]byte{255}, size), block(1), make([]byte, 300)[:size], slices.Concat(noughts()[:127], []byte{1}), slices.Concat([]byte{1}, noughts()[:127])} {
			got := wantWrite(t, d, at, b)
			wantRead(t, got, at, b)
			if got.Left != 4 {
				t.Errorf("behind a write of %v at %d %d are left", b, at, got.Left)
			}
			if !slices.ContainsFunc(got.Sectors, func(s api.Sector) bool { return s.At == at }) {
				t.Errorf("nothing stands at %d behind a write of %v", at, b)
			}
		}
	}
	for i := range size {
		for _, x := range []byte{1, 128, 255} {
			b := noughts()
			b[i] = x
			wantRead(t, wantWrite(t, d, 9, b), 9, b)
			wantRead(t, wantWrite(t, d, 4, b), 4, b)
		}
	}
}

// P12.2 Write: at no other place, and of no other number of bytes, in any state of the disk.
func TestWriteRefused(t *testing.T) {
	for _, s := range someSectors() {
		for _, d := range inStates(s) {
			for _, at := range wrongPlaces() {
				refuseWrite(t, d, at, block(1), api.ErrArg)
				refuseWrite(t, d, at, nil, api.ErrArg)
				refuseWrite(t, d, at, make([]byte, 127), api.ErrArg)
			}
			for _, many := range wrongLengths() {
				refuseWrite(t, d, 0, make([]byte, many), api.ErrArg)
				refuseWrite(t, d, 5, make([]byte, many, many+size), api.ErrArg)
				refuseWrite(t, d, 6145, make([]byte, many), api.ErrArg)
			}
			refuseWrite(t, d, 3, nil, api.ErrArg)
		}
	}
	for many := range 400 {
		if many != size {
			refuseWrite(t, New(), 3, make([]byte, many), api.ErrArg)
		}
	}
}

// P12.2 Read: what was written, and noughts where nothing was, whatever the disk's state.
func TestRead(t *testing.T) {
	for _, s := range someSectors() {
		for _, d := range inStates(s) {
			w := tell(d)
			for _, at := range slices.Concat(goodPlaces(), []int{3, 4, 5, 6, 7, 8, 9, 99, 100, 101, 250, 399, 400}) {
				wantRead(t, d, at, w.at(at))
			}
			for _, at := range wrongPlaces() {
				refuseRead(t, d, at, api.ErrArg)
			}
		}
	}
}

// P12.2 Read: each place of a disk with every third sector, and of one with all.
func TestReadEachPlace(t *testing.T) {
	var some []int
	for at := 1; at < places; at += 3 {
		some = append(some, at)
	}
	for _, d := range []api.Disk{{Sectors: sectors(some...), Left: -1}, {Sectors: full(), Starts: 3, Dead: true}} {
		w := tell(d)
		for at := range places {
			wantRead(t, d, at, w.at(at))
		}
	}
}

// P12.2 Write, Read: of several errors the first one: Check's is told ahead of that of a place or of bytes.
func TestFirstError(t *testing.T) {
	for _, d := range wrongOnes() {
		for _, at := range []int{-1, 6146, math.MaxInt, math.MinInt} {
			refuseWrite(t, d, at, block(1), api.ErrBad)
			refuseWrite(t, d, at, nil, api.ErrBad)
			refuseRead(t, d, at, api.ErrBad)
		}
		refuseWrite(t, d, 3, nil, api.ErrBad)
		refuseWrite(t, d, 3, make([]byte, 127), api.ErrBad)
		refuseWrite(t, d, 3, make([]byte, 129), api.ErrBad)
		for _, left := range []int{-2, 1 << 31, math.MaxInt, math.MinInt} {
			refuseStart(t, d, left, api.ErrBad)
		}
	}
}

// turnedFields has disks that differ from one in one field alone, or in one part of it.
func turnedFields(d api.Disk) []api.Disk {
	var l []api.Disk
	turn := func(do func(d *api.Disk)) {
		x := copied(d)
		do(&x)
		l = append(l, x)
	}
	for _, by := range []int{1, -1, 256, 1 << 31, 1 << 32, math.MinInt} {
		turn(func(d *api.Disk) { d.Starts += by })
		turn(func(d *api.Disk) { d.Left += by })
	}
	turn(func(d *api.Disk) { d.Dead = !d.Dead })
	turn(func(d *api.Disk) { d.Sectors = append(d.Sectors, sector(6145)) })
	turn(func(d *api.Disk) { d.Sectors = append(d.Sectors, api.Sector{}) })
	turn(func(d *api.Disk) { d.Sectors = slices.Insert(d.Sectors, 0, sector(0)) })
	for i := range d.Sectors {
		turn(func(d *api.Disk) { d.Sectors = slices.Delete(d.Sectors, i, i+1) })
		turn(func(d *api.Disk) { d.Sectors[i].At++ })
		turn(func(d *api.Disk) { d.Sectors[i].At += 1 << 32 })
		turn(func(d *api.Disk) { d.Sectors[i].Bytes = append(d.Sectors[i].Bytes, 0) })
		for at := range d.Sectors[i].Bytes {
			turn(func(d *api.Disk) { d.Sectors[i].Bytes[at]++ })
			turn(func(d *api.Disk) { d.Sectors[i].Bytes[at] ^= 128 })
		}
		if many := len(d.Sectors[i].Bytes); many > 0 {
			turn(func(d *api.Disk) { d.Sectors[i].Bytes = d.Sectors[i].Bytes[1:] })
			turn(func(d *api.Disk) { d.Sectors[i].Bytes = d.Sectors[i].Bytes[:many-1] })
			turn(func(d *api.Disk) { d.Sectors[i].Bytes = nil })
		}
	}
	return l
}

// anyOnes has disks, some of which may not be, that are compared and copied.
func anyOnes() []api.Disk {
	return []api.Disk{
		{},
		{Sectors: sectors(5), Starts: 1, Left: -1},
		{Sectors: sectors(0, 3, 6145), Starts: 2, Left: 4},
		{Sectors: sectors(9, 9, 4), Starts: -5, Left: -7, Dead: true},
		{Sectors: []api.Sector{{At: 1}, {At: 2, Bytes: []byte{1, 2, 3}}, {At: -2, Bytes: make([]byte, 200)}}, Starts: 1 << 40, Left: math.MinInt},
		{Sectors: []api.Sector{{}}, Dead: true, Left: math.MaxInt},
	}
}

// P12.1 Same: each field tells, also in one byte of one sector, in one place, in one sector more; of any disks.
func TestSame(t *testing.T) {
	for _, d := range anyOnes() {
		if !Same(d, d) || !Same(d, copied(d)) || !Same(copied(d), d) {
			t.Errorf("%s is not the same as itself", brief(d))
		}
		for _, x := range turnedFields(d) {
			if Same(d, x) || Same(x, d) {
				t.Errorf("%s is the same as %s", brief(d), brief(x))
			}
			if !Same(x, copied(x)) {
				t.Errorf("%s is not the same as itself", brief(x))
			}
		}
	}
}

// P12.1 Same: of all pairs of these disks just those are the same of which all is.
func TestSamePairs(t *testing.T) {
	l := append(goodOnes()[:120], anyOnes()...)
	for _, a := range l {
		for _, b := range l {
			if Same(a, b) != equal(a, b) {
				t.Errorf("Same(%s, %s) is %t", brief(a), brief(b), Same(a, b))
			}
		}
	}
	if Same(api.Disk{Starts: 3, Left: 5}, api.Disk{Starts: 5, Left: 3}) || Same(api.Disk{Sectors: sectors(1, 2)}, api.Disk{Sectors: sectors(2, 1)}) {
		t.Error("what changed places is the same")
	}
	if Same(api.Disk{Sectors: []api.Sector{{At: 1, Bytes: block(1)}, {At: 2, Bytes: block(2)}}}, api.Disk{Sectors: []api.Sector{{At: 1, Bytes: block(2)}, {At: 2, Bytes: block(1)}}}) {
		t.Error("blocks that changed places are the same")
	}
}

// P12.1 Same: lists that are empty, and lists that are nil, are the same: sectors, and bytes.
func TestSameNone(t *testing.T) {
	none, empty := api.Disk{Starts: 1}, api.Disk{Starts: 1, Sectors: []api.Sector{}}
	roomy := api.Disk{Starts: 1, Sectors: sectors(1, 2)[:0]}
	bare := api.Disk{Starts: 1, Sectors: []api.Sector{{At: 3}}}
	blank := api.Disk{Starts: 1, Sectors: []api.Sector{{At: 3, Bytes: []byte{}}}}
	behind := api.Disk{Starts: 1, Sectors: []api.Sector{{At: 3, Bytes: block(1)[:0]}}}
	for _, l := range [][]api.Disk{{none, empty, roomy}, {bare, blank, behind}} {
		for _, a := range l {
			for _, b := range l {
				if !Same(a, b) || !Same(a, Twin(b)) {
					t.Errorf("%s is not the same as %s", brief(a), brief(b))
				}
			}
		}
	}
	if Same(none, bare) || Same(blank, empty) {
		t.Error("a sector of no bytes is none")
	}
}

// P12.1 Twin: of any one, whether it may be or not, also of more sectors and bytes than may be.
func TestTwin(t *testing.T) {
	l := slices.Concat(goodOnes(), wrongOnes())
	for _, d := range anyOnes() {
		l = append(l, turnedFields(d)...)
	}
	long := api.Disk{Sectors: slices.Concat(full(), full()), Starts: 7}
	wide := api.Disk{Sectors: []api.Sector{{At: 5, Bytes: bytes.Repeat([]byte{1, 2, 3}, 1<<16)}}}
	for _, d := range append(l, long, wide) {
		if twin := Twin(d); !equal(twin, d) || !Same(twin, d) || !Same(d, twin) {
			t.Errorf("Twin(%s) is %s", brief(d), brief(twin))
		}
	}
}

// spoil, spoilBytes write over all of an answer, and over the room behind it.
func spoil(d api.Disk) {
	for _, s := range d.Sectors {
		spoilBytes(s.Bytes)
	}
	all := d.Sectors[:cap(d.Sectors)]
	for i := range all {
		all[i] = api.Sector{At: 4000 + i, Bytes: []byte{9}}
	}
}

func spoilBytes(b []byte) {
	all := b[:cap(b)]
	for i := range all {
		all[i] ^= 0xa5
	}
}

// guard is the memory around a disk's lists: all sectors, of which the disk has those in the middle, and all bytes, of which each sector has those in the middle.
type guard struct {
	all   []api.Sector
	bytes [][]byte
}

// guarded has a disk whose lists lie in the middle of others, with room behind them.
func guarded(d api.Disk) (api.Disk, guard) {
	g := guard{all: []api.Sector{{At: 7777, Bytes: []byte{1}}}}
	for _, s := range d.Sectors {
		row := slices.Concat([]byte{7, 7}, s.Bytes, []byte{8, 8, 8})
		g.bytes = append(g.bytes, row)
		g.all = append(g.all, api.Sector{At: s.At, Bytes: row[2 : 2+len(s.Bytes)]})
	}
	for at := range 3 {
		g.all = append(g.all, api.Sector{At: 8888 + at, Bytes: []byte{2}})
	}
	d.Sectors = g.all[1 : 1+len(d.Sectors)]
	return d, g
}

// untouched tells whether what guarded made of a disk is as it was.
func (g guard) untouched(d api.Disk) bool {
	_, was := guarded(d)
	if !slices.EqualFunc(g.bytes, was.bytes, bytes.Equal) {
		return false
	}
	return slices.EqualFunc(g.all, was.all, func(a, b api.Sector) bool { return a.At == b.At && bytes.Equal(a.Bytes, b.Bytes) })
}

// someOnes has few disks that may be, in each state.
func someOnes() []api.Disk {
	var l []api.Disk
	for _, s := range [][]api.Sector{nil, sectors(5), sectors(3, 5, 9), sectors(0, 1, 2, 3, 4, 5, 6144, 6145)} {
		l = append(l, inStates(s)...)
	}
	return l
}

// P12.3: what is handed in is only read, and so is what lies beside it, whatever the answer, and whatever is written into that.
func TestOnlyRead(t *testing.T) {
	for _, d := range slices.Concat(someOnes(), wrongOnes(), anyOnes()) {
		mine, g := guarded(d)
		other, h := guarded(d)
		row := slices.Concat([]byte{7, 7}, block(3), []byte{8, 8, 8})
		Check(mine)
		Same(mine, other)
		spoil(Twin(mine))
		for _, left := range []int{-1, 0, 5, -2} {
			got, _ := Start(mine, left)
			spoil(got)
		}
		for _, at := range []int{0, 1, 4, 5, 6, 9, 10, 6145, -1, 6146} {
			got, _ := Write(mine, at, row[2:2+size])
			spoil(got)
			got, _ = Write(mine, at, row[2:])
			spoil(got)
			b, _ := Read(mine, at)
			spoilBytes(b)
		}
		if !bytes.Equal(row, slices.Concat([]byte{7, 7}, block(3), []byte{8, 8, 8})) {
			t.Fatalf("the bytes that were written to %s were turned", brief(d))
		}
		if !g.untouched(d) || !h.untouched(d) || !equal(mine, d) || !equal(other, d) {
			t.Fatalf("%s was turned", brief(d))
		}
	}
}

// answers has all disks that calls answer of one.
func answers(d api.Disk, b []byte) []api.Disk {
	l := []api.Disk{Twin(d)}
	for _, left := range []int{-1, 0, 5} {
		got, _ := Start(d, left)
		l = append(l, got)
	}
	for _, at := range []int{0, 1, 4, 5, 6, 9, 10, 6145} {
		got, _ := Write(d, at, b)
		l = append(l, got)
	}
	return l
}

// P12.3: what is written into an answer leaves no trace in another one, and what is written into what was handed in none in an answer.
func TestNewMemory(t *testing.T) {
	for _, d := range slices.Concat(someOnes(), anyOnes()) {
		mine, b := copied(d), block(3)
		first, second, want := answers(mine, b), answers(mine, b), answers(copied(d), block(3))
		for i := range first {
			spoil(first[i])
			if !equal(second[i], want[i]) || !equal(mine, d) || !bytes.Equal(b, block(3)) {
				t.Fatalf("an answer of %s was turned by what was written into another one", brief(d))
			}
		}
		spoil(mine)
		spoilBytes(b)
		for i := range second {
			if !equal(second[i], want[i]) {
				t.Fatalf("an answer of %s was turned by what was written into that", brief(d))
			}
			spoil(second[i])
			for j := range second[i+1:] {
				if !equal(second[i+1+j], want[i+1+j]) {
					t.Fatalf("an answer of %s was turned by what was written into another one", brief(d))
				}
			}
		}
	}
}

// P12.3: so are the bytes of Read: of places to which something was written, and of others.
func TestNewMemoryOfRead(t *testing.T) {
	for _, d := range someOnes() {
		mine, w := copied(d), tell(d)
		for _, at := range []int{0, 1, 4, 5, 6, 9, 10, 6145} {
			one, _ := Read(mine, at)
			other, _ := Read(mine, at)
			spoilBytes(one)
			if !equal(mine, d) || !bytes.Equal(other, w.at(at)) {
				t.Fatalf("a block of %s was turned by what was written into another one", brief(d))
			}
			wantRead(t, mine, at, w.at(at))
			handed := copied(mine)
			b, _ := Read(handed, at)
			spoil(handed)
			if !bytes.Equal(b, w.at(at)) {
				t.Fatalf("a block of %s was turned by what was written into that", brief(d))
			}
		}
	}
}

// P12.3: what is written into the bytes that were handed to Write, behind it, is not in the disk: where a sector was there, and where none was.
func TestWrittenBytesAreCopied(t *testing.T) {
	for _, at := range []int{2, 3, 4, 9, 10} {
		b := block(1)
		d := wantWrite(t, api.Disk{Sectors: sectors(3, 9), Left: -1}, at, b)
		spoilBytes(b)
		wantRead(t, d, at, block(1))
		again := wantWrite(t, d, at, b)
		wantRead(t, d, at, block(1))
		wantRead(t, again, at, b)
	}
	d := api.Disk{Sectors: sectors(3, 9), Left: -1}
	for _, at := range []int{2, 3, 9} {
		got := wantWrite(t, d, at, d.Sectors[1].Bytes)
		spoil(got)
		if !equal(d, api.Disk{Sectors: sectors(3, 9), Left: -1}) {
			t.Errorf("a disk was turned by a write of its own block at %d", at)
		}
	}
}

// P12.3: no two lists of one answer share memory, also if two of what was handed in do.
func TestListsByThemselves(t *testing.T) {
	shared := block(4)
	d := api.Disk{Left: 5}
	for at := range 6 {
		d.Sectors = append(d.Sectors, api.Sector{At: 2 * at, Bytes: shared})
	}
	want := answers(copied(d), block(3))
	for i := range want {
		for at := range want[i].Sectors {
			got := answers(d, shared[:size:size])[i]
			kept := copied(got)
			spoilBytes(got.Sectors[at].Bytes)
			for other := range got.Sectors {
				if other != at && !bytes.Equal(got.Sectors[other].Bytes, kept.Sectors[other].Bytes) {
					t.Fatalf("sector %d of answer %d was turned by what was written into sector %d", other, i, at)
				}
			}
		}
	}
}

// P12.3, P1: nothing is kept: what comes between two calls turns no answer.
func TestNothingIsKept(t *testing.T) {
	l := someOnes()
	for i, d := range l {
		other := l[len(l)-1-i]
		wantWrite(t, d, 5, block(3))
		wantRead(t, d, 5, tell(d).at(5))
		spoil(wantWrite(t, copied(other), 5, block(6)))
		spoil(wantStart(t, copied(other), 0))
		refuseWrite(t, other, -1, block(6), api.ErrArg)
		refuseStart(t, api.Disk{Left: -2}, 1, api.ErrBad)
		refuseRead(t, other, 6146, api.ErrArg)
		wantWrite(t, d, 5, block(3))
		wantRead(t, d, 5, tell(d).at(5))
	}
}

// put is a write: where, and which block.
type put struct {
	at, number int
}

// orders have writes, one behind another: at one place, and at others in rising, falling and mixed order, some of them again.
func orders() [][]put {
	return [][]put{
		{},
		{{5, 1}},
		{{5, 1}, {5, 2}},
		{{5, 1}, {5, 2}, {5, 3}, {5, 1}},
		{{0, 1}, {1, 2}, {2, 3}, {3, 4}},
		{{3, 1}, {2, 2}, {1, 3}, {0, 4}},
		{{6145, 1}, {0, 2}, {3000, 3}, {1, 4}, {6144, 5}},
		{{7, 1}, {5, 2}, {7, 3}, {6, 4}, {5, 5}, {4, 6}, {8, 7}, {7, 8}},
		{{2048, 1}, {4096, 2}, {2047, 3}, {0, 4}, {4096, 5}, {4097, 6}, {2048, 7}},
	}
}

// lefts has what may be left ahead of so many writes: none, some, as many, one more, one less, and all.
func lefts(many int) []int {
	l := []int{-1, 0, 1, 2, many, many + 1, many + 2, 1<<31 - 1}
	if many > 0 {
		l = append(l, many-1)
	}
	return l
}

// holds asks that what is told stands on a disk at each place that the writes name, beside them, and at the ends.
func (w told) holds(t *testing.T, d api.Disk, l []put) {
	t.Helper()
	for _, at := range []int{0, 3, 9, 6145} {
		wantRead(t, d, at, w.at(at))
	}
	for _, p := range l {
		for at := max(0, p.at-1); at <= min(places-1, p.at+1); at++ {
			wantRead(t, d, at, w.at(at))
		}
	}
}

// P12.4: of some writes, behind a start with left n, the first n are done, and no others; the disk is dead just if there are more; what was written last at a place is read there, and nothing else is turned; and it stays behind a new start, which counts.
func TestWrites(t *testing.T) {
	for _, first := range []api.Disk{New(), {Sectors: sectors(3, 9), Starts: 4, Dead: true}, {Sectors: sectors(0, 5, 7, 2048, 6145), Starts: 1, Left: 2}} {
		for _, l := range orders() {
			for _, left := range lefts(len(l)) {
				d := wantStart(t, first, left)
				w := told{stands: tell(first).stands}
				for i, p := range l {
					d = wantWrite(t, d, p.at, block(1000+p.number))
					if left == -1 || i < left {
						w.stands[p.at] = string(block(1000 + p.number))
					}
					if d.Dead != (left >= 0 && i >= left) {
						t.Errorf("behind %d writes, %d left: dead is %t", i+1, left, d.Dead)
					}
				}
				w.holds(t, d, l)
				more := left >= 0 && len(l) > left
				rest := max(left-len(l), min(left, 0))
				if d.Dead != more || d.Left != rest || d.Starts != first.Starts+1 {
					t.Errorf("behind %d writes, %d left: %s", len(l), left, brief(d))
				}
				again := wantStart(t, d, 1)
				w.holds(t, again, l)
				again = wantWrite(t, wantWrite(t, again, 3, block(1)), 4, block(2))
				w.stands[3] = string(block(1))
				w.holds(t, again, l)
				if again.Starts != first.Starts+2 || !again.Dead {
					t.Errorf("behind a new start: %s", brief(again))
				}
			}
		}
	}
}

// P12.4: writes that are refused count for none of the first n, and turn nothing.
func TestRefusedWritesDoNotCount(t *testing.T) {
	for _, l := range orders() {
		for _, left := range lefts(len(l)) {
			d := wantStart(t, New(), left)
			plain := wantStart(t, New(), left)
			for i, p := range l {
				refuseWrite(t, d, wrongPlaces()[i], block(9), api.ErrArg)
				refuseWrite(t, d, p.at, make([]byte, wrongLengths()[i]), api.ErrArg)
				refuseWrite(t, d, p.at, nil, api.ErrArg)
				refuseRead(t, d, -1, api.ErrArg)
				refuseStart(t, d, -2, api.ErrArg)
				wantRead(t, d, p.at, tell(d).at(p.at))
				d = wantWrite(t, d, p.at, block(p.number))
				plain = wantWrite(t, plain, p.at, block(p.number))
			}
			if !equal(d, plain) {
				t.Errorf("behind writes of which some were refused: %s, not %s", brief(d), brief(plain))
			}
		}
	}
}

// P12.4: starts count all starts, whatever was written between, and whether the disk failed.
func TestStartsCount(t *testing.T) {
	d := New()
	for n := range 60 {
		if d.Starts != n {
			t.Fatalf("%d starts are %d", n, d.Starts)
		}
		d = wantStart(t, d, n%4-1)
		for i := range n % 5 {
			d = wantWrite(t, d, i, block(n))
		}
	}
}

// P12.4: all places are written, in a mixed order, and half of them again: then each has what was written last.
func TestWholeDisk(t *testing.T) {
	d, e := Start(New(), 700)
	for n := range 750 {
		if d, e = Write(d, n*2999%places, block(n)); e != api.OK {
			t.Fatal(n, e)
		}
	}
	if d.Left != 0 || !d.Dead || len(d.Sectors) != 700 {
		t.Errorf("behind 750 writes: %s", brief(d))
	}
	d = wantStart(t, api.Disk{Sectors: full(), Starts: d.Starts, Dead: true}, -1)
	w := tell(d)
	for n := range 200 {
		w.write(n*1237%places, block(n))
		if d, e = Write(d, n*1237%places, block(n)); e != api.OK {
			t.Fatal(n, e)
		}
	}
	if !equal(d, w.disk()) {
		t.Errorf("behind 200 writes: %s", brief(d))
	}
	wantCheck(t, d, api.OK)
}

// P12.1, P12.2, P12.4, P1: calls at random, right and wrong ones, one behind another: each answer is as the words tell it.
func TestAtRandom(t *testing.T) {
	r := rand.New(rand.NewSource(12))
	dead, refused := 0, 0
	for range 150 {
		d := New()
		w := tell(d)
		near := 1 + r.Intn(40)
		for range 60 {
			at := r.Intn(near)
			if r.Intn(8) == 0 {
				at = r.Intn(places)
			}
			switch r.Intn(10) {
			case 0:
				left := r.Intn(12) - 1
				d = wantStart(t, d, left)
				w.start(left)
			case 1:
				refused++
				refuseWrite(t, d, at, make([]byte, r.Intn(size)), api.ErrArg)
				refuseWrite(t, d, wrongPlaces()[r.Intn(len(wrongPlaces()))], block(1), api.ErrArg)
				refuseStart(t, d, wrongLefts()[r.Intn(len(wrongLefts()))], api.ErrArg)
			case 2, 3:
				wantRead(t, d, at, w.at(at))
			default:
				b := make([]byte, size)
				r.Read(b)
				d = wantWrite(t, d, at, b)
				w.write(at, b)
			}
			if !equal(d, w.disk()) || !Same(d, w.disk()) || !Same(Twin(d), d) || Check(d) != api.OK {
				t.Fatalf("%s, not %s", brief(d), brief(w.disk()))
			}
		}
		if d.Dead {
			dead++
		}
	}
	if dead < 20 || dead > 130 || refused < 400 {
		t.Errorf("%d are dead, %d calls were refused", dead, refused)
	}
}

// P12.1, P12.2, P1: disks at random, many of which may not be: all calls end in an answer, the one that is to be.
func TestAnyAtRandom(t *testing.T) {
	r := rand.New(rand.NewSource(121))
	good := 0
	starts, left := slices.Concat(goodStarts(), goodStarts(), goodStarts(), goodStarts(), wrongStarts()), slices.Concat(goodLefts(), goodLefts(), goodLefts(), wrongLefts())
	at, many := slices.Concat(goodPlaces(), goodPlaces(), wrongPlaces()), append(slices.Repeat([]int{size}, 90), wrongLengths()[:8]...)
	for range 12000 {
		d := api.Disk{Starts: starts[r.Intn(len(starts))], Left: left[r.Intn(len(left))], Dead: r.Intn(4) == 0}
		if d.Dead && r.Intn(2) == 0 {
			d.Left = 0
		}
		for range r.Intn(6) {
			d.Sectors = append(d.Sectors, api.Sector{At: at[r.Intn(len(at))], Bytes: make([]byte, many[r.Intn(len(many))])})
		}
		if r.Intn(3) > 0 {
			slices.SortFunc(d.Sectors, func(a, b api.Sector) int { return cmp.Compare(a.At, b.At) })
		}
		a, l := at[r.Intn(len(at))], left[r.Intn(len(left))]
		if !mayBe(d) {
			wantCheck(t, d, api.ErrBad)
			refuseWrite(t, d, a, block(1), api.ErrBad)
			refuseRead(t, d, a, api.ErrBad)
			refuseStart(t, d, l, api.ErrBad)
			continue
		}
		good++
		wantCheck(t, d, api.OK)
		if slices.Contains(goodPlaces(), a) {
			wantWrite(t, d, a, block(1))
			wantRead(t, d, a, tell(d).at(a))
		} else {
			refuseWrite(t, d, a, block(1), api.ErrArg)
			refuseRead(t, d, a, api.ErrArg)
		}
		switch {
		case !slices.Contains(goodLefts(), l):
			refuseStart(t, d, l, api.ErrArg)
		case d.Starts == 1<<31-1:
			refuseStart(t, d, l, api.ErrFull)
		default:
			wantStart(t, d, l)
		}
	}
	if good < 1500 || good > 10000 {
		t.Errorf("%d may be", good)
	}
}

// The chapter's examples.
func TestExamples(t *testing.T) {
	d, e := Write(New(), 5, block(7))
	if e != api.OK {
		t.Errorf("Write(New, 5, B): %d", e)
	}
	wantRead(t, d, 5, block(7))
	wantRead(t, d, 6, noughts())
	d, e = Start(New(), 1)
	if e != api.OK {
		t.Errorf("Start(New, 1): %d", e)
	}
	d = wantWrite(t, d, 5, block(1))
	d = wantWrite(t, d, 6, block(2))
	if !equal(d, api.Disk{Sectors: []api.Sector{{At: 5, Bytes: block(1)}}, Starts: 1, Dead: true}) {
		t.Errorf("Start(New, 1), two writes: %s", brief(d))
	}
	d, e = Start(d, -1)
	if e != api.OK || d.Starts != 2 || d.Dead {
		t.Errorf("Start of that, -1: %s, %d", brief(d), e)
	}
	refuseWrite(t, New(), 6146, block(1), api.ErrArg)
	refuseRead(t, New(), -1, api.ErrArg)
	refuseStart(t, New(), -2, api.ErrArg)
}
