package label

import (
	"testing"

	"blindstamp/api"
)

func at(level uint8, cats uint32) api.Label {
	return api.Label{Level: level, Cats: cats}
}

// grid has labels of those levels, with categories at both ends of the bits, none and all of them.
func grid(levels ...uint8) []api.Label {
	var l []api.Label
	for _, level := range levels {
		for _, cats := range []uint32{0, 1, 2, 3, 6, 1 << 31, 1<<31 | 1, 1<<32 - 1} {
			l = append(l, at(level, cats))
		}
	}
	return l
}

func goodOnes() []api.Label {
	return grid(0, 1, 8, 14, 15)
}

// wrongOnes has the levels next to the last one that may be, and what -1 wraps round to.
func wrongOnes() []api.Label {
	minusOne := -1
	return grid(16, 17, 128, uint8(minusOne))
}

func anyOnes() []api.Label {
	return append(grid(0, 1, 14, 15), grid(16, 255)...)
}

// below is the document's order, told category by category.
func below(a, b api.Label) bool {
	for i := range 32 {
		if a.Cats>>i&1 == 1 && b.Cats>>i&1 == 0 {
			return false
		}
	}
	return int(a.Level) <= int(b.Level)
}

// place is where a label stands among all.
func place(a api.Label) uint64 {
	return uint64(a.Level)<<32 + uint64(a.Cats)
}

// P1.1 Check: each level there is, whatever the categories.
func TestCheck(t *testing.T) {
	for level := range 256 {
		want := api.ErrBad
		if level <= 15 {
			want = api.OK
		}
		for _, a := range grid(uint8(level)) {
			if got := Check(a); got != want {
				t.Errorf("Check(%v) is %d, not %d", a, got, want)
			}
		}
	}
}

// P1.1 Leq, Ahead: of any ones, also of those that may not be.
func TestLeqAndAhead(t *testing.T) {
	for _, a := range anyOnes() {
		for _, b := range anyOnes() {
			if got, want := Leq(a, b), below(a, b); got != want {
				t.Errorf("Leq(%v, %v) is %v", a, b, got)
			}
			if got, want := Ahead(a, b), place(a) < place(b); got != want {
				t.Errorf("Ahead(%v, %v) is %v", a, b, got)
			}
		}
	}
}

// P1.1 Leq: each category counts by itself.
func TestLeqEachCategory(t *testing.T) {
	for i := range 32 {
		one, others := at(3, 1<<i), at(3, 1<<32-1-1<<i)
		if !Leq(one, one) || Leq(one, others) || Leq(others, one) || !Leq(others, Greatest()) {
			t.Errorf("category %d", i)
		}
	}
}

// P1.1 Least, Greatest: they may be, and are the ends of both orders.
func TestEnds(t *testing.T) {
	if Least() != at(0, 0) || Greatest() != at(15, 1<<32-1) {
		t.Error("ends:", Least(), Greatest())
	}
	if Check(Least()) != api.OK || Check(Greatest()) != api.OK {
		t.Error("an end may not be")
	}
	for _, a := range goodOnes() {
		if !Leq(Least(), a) || !Leq(a, Greatest()) {
			t.Error("beyond an end:", a)
		}
		if Ahead(a, Least()) || Ahead(Greatest(), a) {
			t.Error("ahead of the least, or behind the greatest:", a)
		}
	}
}

// P1.2 Join, Meet: level and categories, told one by one.
func TestJoinAndMeet(t *testing.T) {
	for _, a := range goodOnes() {
		for _, b := range goodOnes() {
			join, meet := a, a
			if b.Level > a.Level {
				join.Level = b.Level
			} else {
				meet.Level = b.Level
			}
			for i := range 32 {
				bit := uint32(1) << i
				if b.Cats&bit != 0 && a.Cats&bit == 0 {
					join.Cats += bit
				}
				if b.Cats&bit == 0 && a.Cats&bit != 0 {
					meet.Cats -= bit
				}
			}
			if got, e := Join(a, b); got != join || e != api.OK {
				t.Errorf("Join(%v, %v) is %v, %d", a, b, got, e)
			}
			if got, e := Meet(a, b); got != meet || e != api.OK {
				t.Errorf("Meet(%v, %v) is %v, %d", a, b, got, e)
			}
		}
	}
}

// P1.2, P1: wrong labels, on either side and on both, have the error and no label beside it.
func TestJoinAndMeetOfWrongOnes(t *testing.T) {
	refused := func(a, b api.Label) {
		if got, e := Join(a, b); got != at(0, 0) || e != api.ErrBad {
			t.Errorf("Join(%v, %v) is %v, %d", a, b, got, e)
		}
		if got, e := Meet(a, b); got != at(0, 0) || e != api.ErrBad {
			t.Errorf("Meet(%v, %v) is %v, %d", a, b, got, e)
		}
	}
	for _, bad := range wrongOnes() {
		for _, good := range goodOnes() {
			refused(bad, good)
			refused(good, bad)
		}
		for _, other := range wrongOnes() {
			refused(bad, other)
		}
	}
}

// P1.3: at or below is an order, and not of all.
func TestAtOrBelowIsAnOrder(t *testing.T) {
	l := anyOnes()
	for _, a := range l {
		if !Leq(a, a) {
			t.Errorf("%v is not at or below itself", a)
		}
		for _, b := range l {
			if Leq(a, b) && Leq(b, a) != (a == b) {
				t.Errorf("%v and %v are at or below each other, or one that is not", a, b)
			}
			for _, c := range l {
				if Leq(a, b) && Leq(b, c) && !Leq(a, c) {
					t.Errorf("%v is below %v, that below %v", a, b, c)
				}
			}
		}
	}
	for _, x := range [][2]api.Label{{at(1, 1), at(1, 2)}, {at(2, 0), at(1, 1)}, {at(15, 0), at(0, 1<<31)}} {
		if Leq(x[0], x[1]) || Leq(x[1], x[0]) {
			t.Errorf("%v and %v are held against each other", x[0], x[1])
		}
	}
}

// P1.3: a join is the least above both, a meet the greatest below both.
func TestJoinIsLeastMeetIsGreatest(t *testing.T) {
	l := goodOnes()
	for _, a := range l {
		for _, b := range l {
			join, e := Join(a, b)
			meet, f := Meet(a, b)
			if e != api.OK || f != api.OK || Check(join) != api.OK || Check(meet) != api.OK {
				t.Errorf("join and meet of %v and %v may not be", a, b)
			}
			if !Leq(a, join) || !Leq(b, join) || !Leq(meet, a) || !Leq(meet, b) {
				t.Errorf("%v and %v are not between their meet and their join", a, b)
			}
			for _, c := range l {
				if Leq(a, c) && Leq(b, c) && !Leq(join, c) {
					t.Errorf("the join of %v and %v is not below %v", a, b, c)
				}
				if Leq(c, a) && Leq(c, b) && !Leq(c, meet) {
					t.Errorf("the meet of %v and %v is not above %v", a, b, c)
				}
			}
		}
	}
}

// P1.3: of two unlike ones just one is ahead, and it is the one that is below; and ahead is an order.
func TestAheadIsAnOrderOfAll(t *testing.T) {
	l := anyOnes()
	for _, a := range l {
		if Ahead(a, a) {
			t.Errorf("%v is ahead of itself", a)
		}
		for _, b := range l {
			if a != b && Ahead(a, b) == Ahead(b, a) {
				t.Errorf("of %v and %v not just one is ahead", a, b)
			}
			if a != b && Leq(a, b) && !Ahead(a, b) {
				t.Errorf("%v is below %v, and not ahead of it", a, b)
			}
			for _, c := range l {
				if Ahead(a, b) && Ahead(b, c) && !Ahead(a, c) {
					t.Errorf("%v is ahead of %v, that of %v", a, b, c)
				}
			}
		}
	}
}

// The chapter's table of examples, row by row.
func TestExamples(t *testing.T) {
	if !Leq(at(1, 0b01), at(2, 0b11)) || Leq(at(2, 0b01), at(1, 0b11)) || Leq(at(1, 0b10), at(2, 0b01)) {
		t.Error("Leq")
	}
	if got, e := Join(at(1, 0b01), at(0, 0b10)); got != at(1, 0b11) || e != api.OK {
		t.Error("Join", got, e)
	}
	if got, e := Meet(at(1, 0b01), at(0, 0b11)); got != at(0, 0b01) || e != api.OK {
		t.Error("Meet", got, e)
	}
	if !Ahead(at(1, 0b10), at(2, 0b01)) || !Ahead(at(1, 0b01), at(1, 0b10)) || Ahead(at(1, 0b01), at(1, 0b01)) {
		t.Error("Ahead")
	}
	if Check(at(16, 0)) != api.ErrBad {
		t.Error("Check")
	}
	if got, e := Join(at(16, 0), at(0, 0)); got != at(0, 0) || e != api.ErrBad {
		t.Error("Join of a wrong one", got, e)
	}
}
