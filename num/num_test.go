package num

import (
	"bytes"
	"math"
	"testing"

	"blindstamp/api"
)

// edges has the first number of each size, and how many bytes it has; the last one may not be written any more.
var edges = []struct{ from, size int }{
	{0, 1}, {248, 2}, {1 << 8, 3}, {1 << 16, 4}, {1 << 24, 5}, {1 << 32, 6}, {1 << 40, 7}, {1 << 48, 8}, {1 << 56, 0},
}

// around has the numbers next to each edge, and some between.
func around() []int {
	var l []int
	for i := range 600 {
		l = append(l, i)
	}
	for _, edge := range edges[3:] {
		for step := -3; step <= 3; step++ {
			if n := edge.from + step; n < api.MaxNum {
				l = append(l, n)
			}
		}
		if edge.from < api.MaxNum {
			l = append(l, edge.from/7*9, edge.from*2-1, edge.from*2+1, edge.from*100+99)
		}
	}
	return l
}

func wrongOnes() []int {
	return []int{-1, -2, -247, -248, -256, -1 << 56, math.MinInt, math.MinInt + 1, 1 << 56, 1<<56 + 1, 1<<56 + 247, 1 << 60, 1 << 62, math.MaxInt}
}

// sizeOf is how many bytes a number has, by the edges.
func sizeOf(n int) int {
	size := 0
	for _, edge := range edges {
		if n >= edge.from {
			size = edge.size
		}
	}
	return size
}

// written is the document's way to write a number, told by division.
func written(n int) []byte {
	if n < 248 {
		return []byte{byte(n)}
	}
	var b []byte
	for rest := n; rest > 0; rest /= 256 {
		b = append([]byte{byte(rest % 256)}, b...)
	}
	return append([]byte{byte(247 + len(b))}, b...)
}

func refuse(t *testing.T, b []byte) {
	t.Helper()
	if n, size, e := Get(b); n != 0 || size != 0 || e != api.ErrBad {
		t.Errorf("Get(%v) is %d, %d, %d", b, n, size, e)
	}
}

// P2.1 Put, Size, Get: numbers that may be written.
func TestNumbers(t *testing.T) {
	for _, n := range around() {
		want := written(n)
		if b, e := Put(n); !bytes.Equal(b, want) || e != api.OK {
			t.Errorf("Put(%d) is %v, %d, not %v", n, b, e, want)
		}
		if got := Size(n); got != len(want) || got != sizeOf(n) {
			t.Errorf("Size(%d) is %d, not %d", n, got, sizeOf(n))
		}
		if got, size, e := Get(want); got != n || size != len(want) || e != api.OK {
			t.Errorf("Get(%v) is %d, %d, %d", want, got, size, e)
		}
	}
}

// P2.1, P1: at each edge one byte more is wanted, and not ahead of it.
func TestEdges(t *testing.T) {
	for i := 1; i < len(edges); i++ {
		if Size(edges[i].from) != edges[i].size || Size(edges[i].from-1) != edges[i-1].size {
			t.Errorf("at %d: %d, %d", edges[i].from, Size(edges[i].from-1), Size(edges[i].from))
		}
	}
}

// P2.1, P1: numbers that may not be written have the error, and no bytes, and no size.
func TestWrongNumbers(t *testing.T) {
	for _, n := range wrongOnes() {
		if b, e := Put(n); len(b) != 0 || e != api.ErrArg {
			t.Errorf("Put(%d) is %v, %d", n, b, e)
		}
		if got := Size(n); got != 0 {
			t.Errorf("Size(%d) is %d", n, got)
		}
	}
}

// P2.1 Get: no bytes, and too few.
func TestTooFewBytes(t *testing.T) {
	refuse(t, nil)
	refuse(t, []byte{})
	for _, n := range around() {
		b := written(n)
		for short := range len(b) {
			refuse(t, b[:short:short])
		}
	}
	for first := 248; first < 256; first++ {
		refuse(t, []byte{byte(first)})
	}
}

// P2.1 Get: what stands behind b's end is none of b, even where there is room.
func TestGetStopsAtTheEnd(t *testing.T) {
	whole := []byte{250, 1, 2, 3}
	for short := range len(whole) {
		refuse(t, whole[:short])
	}
}

// P2.1 Get: each number below 248 has one byte and no more; greater ones have no zero byte at their head.
func TestMoreBytesThanNeeded(t *testing.T) {
	for low := range 248 {
		refuse(t, []byte{248, byte(low)})
	}
	for many := 2; many <= 7; many++ {
		for _, last := range []byte{0, 1, 127, 128, 247, 248, 255} {
			b := append([]byte{byte(247 + many), 0}, bytes.Repeat([]byte{last}, many-1)...)
			refuse(t, b)
			refuse(t, append(b, last))
		}
	}
}

// P2.1 Get: no number has a first byte that is 255, whatever follows.
func TestFirstByteOfNone(t *testing.T) {
	for _, second := range []byte{0, 1, 127, 128, 255} {
		for _, last := range []byte{0, 1, 248, 255} {
			for _, more := range []int{6, 7, 8, 20} {
				b := make([]byte, 2+more)
				b[0], b[1], b[len(b)-1] = 255, second, last
				refuse(t, b)
				b[2], b[7] = 1, last
				refuse(t, b)
			}
		}
	}
	refuse(t, bytes.Repeat([]byte{255}, 9))
	refuse(t, []byte{255})
}

// P2.1 Get: each two bytes there are, held against all numbers that have one or two.
func TestAllOfTwoBytes(t *testing.T) {
	for first := range 256 {
		for second := range 256 {
			b := []byte{byte(first), byte(second)}
			switch {
			case first < 248:
				if n, size, e := Get(b); n != first || size != 1 || e != api.OK {
					t.Errorf("Get(%v) is %d, %d, %d", b, n, size, e)
				}
			case first == 248 && second >= 248:
				if n, size, e := Get(b); n != second || size != 2 || e != api.OK {
					t.Errorf("Get(%v) is %d, %d, %d", b, n, size, e)
				}
			default:
				refuse(t, b)
			}
		}
	}
}

// P2.2: what is handed in stays as it is, behind what is read too.
func TestOnlyRead(t *testing.T) {
	for _, n := range around() {
		b := append(written(n), 1, 2, 3)
		kept := bytes.Clone(b)
		Get(b)
		Get(b[:1])
		if !bytes.Equal(b, kept) {
			t.Errorf("Get turned %v into %v", kept, b)
		}
	}
}

// P2.2: what is answered is new each time: two answers share nothing, not even room behind them.
func TestAnswersAreNew(t *testing.T) {
	l := around()
	for i, n := range l {
		m := l[len(l)-1-i]
		one, _ := Put(n)
		two, _ := Put(m)
		again, _ := Put(n)
		room := one[:cap(one)]
		for i := range room {
			room[i] ^= 0xff
		}
		if !bytes.Equal(two, written(m)) || !bytes.Equal(again, written(n)) {
			t.Errorf("Put(%d) and Put(%d) share memory", n, m)
		}
		if third, _ := Put(n); !bytes.Equal(third, written(n)) {
			t.Errorf("Put(%d) is %v where the one told before was turned", n, third)
		}
	}
}

// P2.3: what is written is read, whatever stands behind.
func TestWrittenIsRead(t *testing.T) {
	for _, n := range around() {
		for _, behind := range [][]byte{nil, {0}, {1}, {247}, {248}, {255}, {0, 0, 0, 0, 0, 0, 0, 0, 0}, bytes.Repeat([]byte{255}, 9)} {
			b, _ := Put(n)
			size := len(b)
			if got, many, e := Get(append(b, behind...)); got != n || many != size || e != api.OK {
				t.Errorf("Get of %d's bytes and %v behind is %d, %d, %d", n, behind, got, many, e)
			}
		}
	}
}

// P2.3: what is read is written as just these bytes: each first byte there is, with heads and tails of many kinds.
func TestReadIsWritten(t *testing.T) {
	read := 0
	for first := range 256 {
		for _, second := range []byte{0, 1, 2, 127, 128, 247, 248, 255} {
			for _, tail := range []byte{0, 1, 247, 248, 255} {
				b := append([]byte{byte(first), second}, bytes.Repeat([]byte{tail}, 8)...)
				n, size, e := Get(b)
				if e != api.OK {
					continue
				}
				read++
				if again, e := Put(n); !bytes.Equal(again, b[:size]) || e != api.OK {
					t.Errorf("Get(%v) is %d, its bytes %v, %d", b, n, again, e)
				}
			}
		}
	}
	// All of one byte; of 248's those from 248 on, of the others those without a zero byte at their head.
	if read != 248*8*5+2*5+6*7*5 {
		t.Errorf("of those %d were read", read)
	}
}

// P2.3: bytes are in the order of numbers.
func TestOrder(t *testing.T) {
	l := around()
	for _, n := range l {
		for _, m := range l {
			if n >= m {
				continue
			}
			a, _ := Put(n)
			b, _ := Put(m)
			if bytes.Compare(a, b) >= 0 {
				t.Fatalf("%d is less than %d, but %v not than %v", n, m, a, b)
			}
		}
	}
}

// The chapter's table of examples, row by row.
func TestExamples(t *testing.T) {
	for n, want := range map[int][]byte{0: {0}, 247: {247}, 248: {248, 248}, 256: {249, 1, 0}, 65536: {250, 1, 0, 0}} {
		if b, e := Put(n); !bytes.Equal(b, want) || e != api.OK {
			t.Errorf("Put(%d) is %v, %d", n, b, e)
		}
	}
	if n, size, e := Get([]byte{249, 1, 0, 7}); n != 256 || size != 3 || e != api.OK {
		t.Error("Get", n, size, e)
	}
	for _, b := range [][]byte{{248, 247}, {249, 0, 255}, {249, 1}, {}} {
		refuse(t, b)
	}
	for _, n := range []int{-1, 1 << 56} {
		if b, e := Put(n); len(b) != 0 || e != api.ErrArg {
			t.Errorf("Put(%d) is %v, %d", n, b, e)
		}
	}
	if Size(1<<56-1) != 8 {
		t.Error("Size", Size(1<<56-1))
	}
	if n, size, e := Get([]byte{254, 255, 255, 255, 255, 255, 255, 255}); n != 1<<56-1 || size != 8 || e != api.OK {
		t.Error("Get of the greatest", n, size, e)
	}
}
