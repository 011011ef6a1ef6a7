package nums_test

import (
	"bytes"
	"math"
	"testing"

	"burrow/api"
	"burrow/nums"
)

const pattern = 0x0102030405060708

// P1.1: the last bytes of the number, as many as are asked for, behind b's.
func TestPutLaysLastBytes(t *testing.T) {
	for _, c := range []struct {
		b     []byte
		n     uint64
		bytes int
		want  []byte
	}{
		{[]byte{9}, 258, 2, []byte{9, 1, 2}},
		{nil, 258, 1, []byte{2}},
		{nil, 258, 3, []byte{0, 1, 2}},
		{nil, 0, 2, []byte{0, 0}},
		{[]byte{}, pattern, 7, []byte{2, 3, 4, 5, 6, 7, 8}},
		{nil, pattern, 8, []byte{1, 2, 3, 4, 5, 6, 7, 8}},
		{[]byte{7, 7}, pattern, 4, []byte{7, 7, 5, 6, 7, 8}},
		{nil, math.MaxUint64, 8, bytes.Repeat([]byte{255}, 8)},
		{nil, 1 << 63, 8, []byte{128, 0, 0, 0, 0, 0, 0, 0}},
	} {
		if got := nums.Put(c.b, c.n, c.bytes); !bytes.Equal(got, c.want) {
			t.Errorf("Put(%v, %d, %d) = %v, want %v", c.b, c.n, c.bytes, got, c.want)
		}
	}
}

// P1.1: none, if fewer than one byte is asked for; eight, if more than that are.
func TestPutBeyondTheEdges(t *testing.T) {
	for _, b := range [][]byte{nil, {}, {3}, {3, 4, 5}} {
		for _, few := range []int{0, -1, -8, math.MinInt32, math.MinInt} {
			if got := nums.Put(b, pattern, few); !bytes.Equal(got, b) {
				t.Errorf("Put(%v, .., %d) = %v", b, few, got)
			}
		}
		want := append(bytes.Clone(b), 1, 2, 3, 4, 5, 6, 7, 8)
		for _, many := range []int{8, 9, 16, 64, math.MaxInt32, math.MaxInt} {
			if got := nums.Put(b, pattern, many); !bytes.Equal(got, want) {
				t.Errorf("Put(%v, .., %d) = %v", b, many, got)
			}
		}
	}
}

// P1.1: what b's first bytes tell; what stands behind them does not count.
func TestGetTellsFirstBytes(t *testing.T) {
	for _, c := range []struct {
		b     []byte
		bytes int
		want  uint64
	}{
		{[]byte{1, 2, 7}, 2, 258},
		{[]byte{1, 2, 7}, 1, 1},
		{[]byte{1, 2, 7}, 3, 66055},
		{[]byte{1, 2, 7}, 0, 0},
		{nil, 0, 0},
		{[]byte{}, 0, 0},
		{[]byte{1, 2, 3, 4, 5, 6, 7, 8}, 8, pattern},
		{[]byte{1, 2, 3, 4, 5, 6, 7, 8, 9}, 8, pattern},
		{[]byte{255, 255, 255, 255, 255, 255, 255, 255}, 8, math.MaxUint64},
		{[]byte{128, 0, 0, 0}, 4, 1 << 31},
	} {
		if got, e := nums.Get(c.b, c.bytes); got != c.want || e != api.OK {
			t.Errorf("Get(%v, %d) = %d, %d, want %d", c.b, c.bytes, got, e, c.want)
		}
	}
}

// P1.1: ErrArg ahead of ErrShort, and nothing beside an error (R2).
func TestGetErrors(t *testing.T) {
	nine := []byte{1, 2, 3, 4, 5, 6, 7, 8, 9}
	for _, asked := range []int{-1, 9, 64, math.MinInt, math.MaxInt, math.MinInt32, math.MaxInt32} {
		for _, b := range [][]byte{nil, {}, {1}, nine} {
			if got, e := nums.Get(b, asked); got != 0 || e != api.ErrArg {
				t.Errorf("Get(%v, %d) = %d, %d", b, asked, got, e)
			}
		}
	}
	for asked := 1; asked <= 8; asked++ {
		for have := range asked {
			if got, e := nums.Get(nine[:have], asked); got != 0 || e != api.ErrShort {
				t.Errorf("Get(%d bytes, %d) = %d, %d", have, asked, got, e)
			}
		}
	}
	if got, e := nums.Get(nil, 1); got != 0 || e != api.ErrShort {
		t.Errorf("Get(nil, 1) = %d, %d", got, e)
	}
}

// P1.1: what was put is got, less what the bytes had no room for.
func TestGetIsPutTurnedRound(t *testing.T) {
	for _, n := range []uint64{0, 1, 127, 128, 255, 256, 65535, 65536, 1<<32 - 1, 1 << 32, pattern, 1 << 63, math.MaxUint64} {
		for size := range 9 {
			want := n
			if size < 8 {
				want = n % (1 << (8 * size))
			}
			if got, e := nums.Get(nums.Put(nil, n, size), size); got != want || e != api.OK {
				t.Errorf("%d in %d bytes: %d, %d, want %d", n, size, got, e, want)
			}
		}
	}
}

// P1.2: all 32 bytes behind b's, the highest ahead.
func TestPutLong(t *testing.T) {
	n := api.Num{0x191a1b1c1d1e1f20, 0x1112131415161718, 0x090a0b0c0d0e0f10, 0x0102030405060708}
	rising := make([]byte, 32)
	for i := range rising {
		rising[i] = byte(i + 1)
	}
	for _, b := range [][]byte{nil, {}, {9}, {9, 8, 7}} {
		if got := nums.PutLong(b, n); !bytes.Equal(got, append(bytes.Clone(b), rising...)) {
			t.Errorf("PutLong(%v, ..) = %v", b, got)
		}
	}
	if got := nums.PutLong(nil, api.Num{}); !bytes.Equal(got, make([]byte, 32)) {
		t.Errorf("nought: %v", got)
	}
	if got := nums.PutLong(nil, api.Num{5}); len(got) != 32 || got[31] != 5 || !bytes.Equal(got[:31], make([]byte, 31)) {
		t.Errorf("five: %v", got)
	}
}

// P1.2: the first 32 bytes tell it; one fewer are too few.
func TestGetLong(t *testing.T) {
	want := api.Num{0x191a1b1c1d1e1f20, 0x1112131415161718, 0x090a0b0c0d0e0f10, 0x0102030405060708}
	b := make([]byte, 40)
	for i := range b {
		b[i] = byte(i + 1)
	}
	for have := range len(b) + 1 {
		got, e := nums.GetLong(b[:have])
		if have < 32 && (got != api.Num{} || e != api.ErrShort) {
			t.Errorf("%d bytes: %v, %d", have, got, e)
		}
		if have >= 32 && (got != want || e != api.OK) {
			t.Errorf("%d bytes: %v, %d", have, got, e)
		}
	}
	if got, e := nums.GetLong(nil); got != (api.Num{}) || e != api.ErrShort {
		t.Errorf("nil: %v, %d", got, e)
	}
	all := api.Num{math.MaxUint64, math.MaxUint64, math.MaxUint64, math.MaxUint64}
	for _, n := range []api.Num{{}, {1}, {0, 1}, {0, 0, 1}, {0, 0, 0, 1}, {0, 0, 0, 1 << 63}, want, all} {
		if got, e := nums.GetLong(nums.PutLong(nil, n)); got != n || e != api.OK {
			t.Errorf("%v: %v, %d", n, got, e)
		}
	}
}

// P1.3: how many, in four bytes, and these.
func TestPutBytes(t *testing.T) {
	for _, c := range []struct{ b, l, want []byte }{
		{[]byte{1}, []byte{7, 7}, []byte{1, 0, 0, 0, 2, 7, 7}},
		{nil, []byte{7}, []byte{0, 0, 0, 1, 7}},
		{nil, nil, []byte{0, 0, 0, 0}},
		{[]byte{}, []byte{}, []byte{0, 0, 0, 0}},
		{[]byte{5, 6}, nil, []byte{5, 6, 0, 0, 0, 0}},
		{[]byte{5, 6}, []byte{}, []byte{5, 6, 0, 0, 0, 0}},
	} {
		if got := nums.PutBytes(c.b, c.l); !bytes.Equal(got, c.want) {
			t.Errorf("PutBytes(%v, %v) = %v, want %v", c.b, c.l, got, c.want)
		}
	}
	for _, c := range []struct {
		size int
		head []byte
	}{{255, []byte{0, 0, 0, 255}}, {256, []byte{0, 0, 1, 0}}, {65536 + 515, []byte{0, 1, 2, 3}}, {1<<24 + 1, []byte{1, 0, 0, 1}}} {
		l := bytes.Repeat([]byte{6}, c.size)
		if got := nums.PutBytes(nil, l); !bytes.Equal(got, append(c.head, l...)) {
			t.Errorf("%d bytes: head %v", c.size, got[:4])
		}
	}
}

// P1.3: as many as are told, how many that was in all, and nothing of what stands behind.
func TestGetBytes(t *testing.T) {
	for _, c := range []struct {
		b, want []byte
		took    int
	}{
		{[]byte{0, 0, 0, 2, 7, 8, 9}, []byte{7, 8}, 6},
		{[]byte{0, 0, 0, 2, 7, 8}, []byte{7, 8}, 6},
		{[]byte{0, 0, 0, 0}, nil, 4},
		{[]byte{0, 0, 0, 0, 5}, nil, 4},
		{append([]byte{0, 0, 1, 0}, make([]byte, 300)...), make([]byte, 256), 260},
	} {
		if l, took, e := nums.GetBytes(c.b); !bytes.Equal(l, c.want) || took != c.took || e != api.OK {
			t.Errorf("GetBytes(%v) = %v, %d, %d", c.b, l, took, e)
		}
	}
	for _, size := range []int{0, 1, 2, 255, 256, 65536, 1<<24 + 1} {
		want := bytes.Repeat([]byte{3}, size)
		l, took, e := nums.GetBytes(append(nums.PutBytes(nil, want), 9, 9))
		if !bytes.Equal(l, want) || took != size+4 || e != api.OK {
			t.Errorf("%d bytes: %d bytes, %d, %d", size, len(l), took, e)
		}
	}
}

// P1.3: ErrShort, with nothing beside it, where bytes are missing at the head or behind it.
func TestGetBytesShort(t *testing.T) {
	for _, b := range [][]byte{
		nil, {}, {0}, {0, 0}, {0, 0, 0},
		{0, 0, 0, 1}, {0, 0, 0, 2, 7}, {0, 0, 1, 0, 7}, {0, 0, 0, 5, 1, 2, 3, 4},
		{127, 255, 255, 255, 1}, {128, 0, 0, 0, 1}, {255, 255, 255, 255}, {255, 255, 255, 252}, {255, 255, 255, 255, 1, 2, 3},
	} {
		if l, took, e := nums.GetBytes(b); len(l) != 0 || took != 0 || e != api.ErrShort {
			t.Errorf("GetBytes(%v) = %v, %d, %d", b, l, took, e)
		}
	}
}

// P1.4: fewer bytes of a number are the last ones of more.
func TestFewerBytesAreTheLast(t *testing.T) {
	for _, n := range []uint64{0, 1, pattern, 0xfedcba9876543210, math.MaxUint64} {
		more := nums.Put(nil, n, 8)
		for size := range 9 {
			if got := nums.Put(nil, n, size); !bytes.Equal(got, more[8-size:]) {
				t.Errorf("%d in %d bytes: %v, of %v", n, size, got, more)
			}
		}
	}
}

// P1.4: a long number is its four words, one behind the other, the highest ahead.
func TestLongIsItsWords(t *testing.T) {
	n := api.Num{pattern, 0xfedcba9876543210, 3, 1<<63 + 5}
	var words []byte
	for i := range n {
		words = nums.Put(words, n[len(n)-1-i], 8)
	}
	long := nums.PutLong(nil, n)
	if !bytes.Equal(long, words) {
		t.Errorf("%v, want %v", long, words)
	}
	for i := range n {
		if got, e := nums.Get(long[8*i:], 8); got != n[len(n)-1-i] || e != api.OK {
			t.Errorf("word %d: %d, %d", i, got, e)
		}
	}
}

// P1.4: what is told to be there is got as soon as its last byte is, and not one byte sooner.
func TestGotWithTheLastByte(t *testing.T) {
	for _, want := range [][]byte{nil, {1}, {1, 2, 3, 4, 5}, bytes.Repeat([]byte{9}, 257)} {
		whole := nums.PutBytes(nil, want)
		for have := range len(whole) {
			if l, took, e := nums.GetBytes(whole[:have]); len(l) != 0 || took != 0 || e != api.ErrShort {
				t.Fatalf("%d of %d bytes: %v, %d, %d", have, len(whole), l, took, e)
			}
		}
		if l, took, e := nums.GetBytes(whole); !bytes.Equal(l, want) || took != len(whole) || e != api.OK {
			t.Errorf("all %d bytes: %v, %d, %d", len(whole), l, took, e)
		}
	}
	number := nums.Put(nil, pattern, 8)
	for have := range 8 {
		if n, e := nums.Get(number[:have], 8); n != 0 || e != api.ErrShort {
			t.Errorf("%d bytes: %d, %d", have, n, e)
		}
	}
	if n, e := nums.Get(number, 8); n != pattern || e != api.OK {
		t.Errorf("8 bytes: %d, %d", n, e)
	}
}

// R4: spare room does not count as bytes that are there.
func TestSpareRoomIsNotRead(t *testing.T) {
	room := []byte{0, 0, 0, 2, 7, 8, 9, 9}
	if n, e := nums.Get(room[:3], 4); n != 0 || e != api.ErrShort {
		t.Errorf("Get: %d, %d", n, e)
	}
	if l, took, e := nums.GetBytes(room[:5]); len(l) != 0 || took != 0 || e != api.ErrShort {
		t.Errorf("GetBytes: %v, %d, %d", l, took, e)
	}
	if n, e := nums.GetLong(make([]byte, 31, 64)); n != (api.Num{}) || e != api.ErrShort {
		t.Errorf("GetLong: %v, %d", n, e)
	}
}

// calls answers what each call with a list as its answer makes of b (and l), by the call's name.
func calls(b, l []byte) map[string][]byte {
	got, _, _ := nums.GetBytes(l)
	return map[string][]byte{
		"Put 8":              nums.Put(b, pattern, 8),
		"Put 1":              nums.Put(b, pattern, 1),
		"Put none":           nums.Put(b, pattern, 0),
		"Put fewer":          nums.Put(b, pattern, -1),
		"PutLong":            nums.PutLong(b, api.Num{1, 2, 3, 4}),
		"PutBytes":           nums.PutBytes(b, l),
		"PutBytes none":      nums.PutBytes(b, nil),
		"PutBytes to none":   nums.PutBytes(nil, l),
		"PutBytes of itself": nums.PutBytes(l, l),
		"GetBytes":           got,
	}
}

// scribble writes over a list and over its spare room.
func scribble(b []byte) {
	b = b[:cap(b)]
	for i := range b {
		b[i] ^= 0xa5
	}
}

// R4: what is handed in is not changed, its spare room neither.
func TestHandedInStaysAsItIs(t *testing.T) {
	first := bytes.Repeat([]byte{11}, 64)
	second := append([]byte{0, 0, 0, 3, 1, 2, 3}, bytes.Repeat([]byte{12}, 57)...)
	firstWas, secondWas := bytes.Clone(first), bytes.Clone(second)
	for _, have := range []int{0, 1, 5, 32} {
		calls(first[:have], second[:7])
		nums.Get(first[:have], 8)
		nums.GetLong(first[:have])
		nums.GetBytes(second[:7+have])
	}
	if !bytes.Equal(first, firstWas) || !bytes.Equal(second, secondWas) {
		t.Errorf("%v, %v", first, second)
	}
}

// R4: an answer is new memory, spare room too: whoever writes over it, or over what was handed in, changes nothing else.
func TestAnswersAreNewMemory(t *testing.T) {
	for name := range calls(nil, nil) {
		b, l := make([]byte, 3, 64), append(make([]byte, 0, 64), 0, 0, 0, 3, 1, 2, 3)
		bWas, lWas := bytes.Clone(b[:64]), bytes.Clone(l[:64])
		answer, other := calls(b, l)[name], calls(b, l)[name]
		otherWas := bytes.Clone(other)
		scribble(answer)
		if !bytes.Equal(b[:64], bWas) || !bytes.Equal(l[:64], lWas) {
			t.Errorf("%s: the answer shares memory with what was handed in", name)
		}
		scribble(b)
		scribble(l)
		if !bytes.Equal(other, otherWas) {
			t.Errorf("%s: an answer shares memory with another one, or with what was handed in", name)
		}
	}
}

// R4, R5: nil and empty mean the same, and the same call has the same answer, whatever spare room there is.
func TestSameCallSameAnswer(t *testing.T) {
	of := calls(nil, nil)
	for name, got := range calls([]byte{}, make([]byte, 0, 40)) {
		if !bytes.Equal(got, of[name]) {
			t.Errorf("%s: %v of empty lists, %v of nil", name, got, of[name])
		}
	}
	l := []byte{0, 0, 0, 2, 5, 6}
	of = calls([]byte{1, 2}, l)
	for name, got := range calls(append(make([]byte, 0, 80), 1, 2), append(make([]byte, 0, 80), l...)) {
		if !bytes.Equal(got, of[name]) {
			t.Errorf("%s: %v with spare room, %v without", name, got, of[name])
		}
	}
}

// R1: no call panics, whatever bytes it is given, and what is got can be put again.
func FuzzNums(f *testing.F) {
	f.Add([]byte{}, []byte{}, 0, uint64(0))
	f.Add([]byte{0, 0, 0, 2, 7, 8, 9}, []byte{1}, 4, uint64(258))
	f.Add([]byte{255, 255, 255, 255, 0}, []byte{0, 0, 0, 0}, -1, uint64(math.MaxUint64))
	f.Add(bytes.Repeat([]byte{200}, 40), []byte{}, 9, uint64(1<<63))
	f.Fuzz(func(t *testing.T, b, tail []byte, size int, n uint64) {
		if got, e := nums.Get(b, size); e == api.OK && !bytes.Equal(nums.Put(nil, got, size), b[:size]) {
			t.Errorf("Get(%v, %d) = %d", b, size, got)
		}
		if got, e := nums.GetLong(b); e == api.OK && !bytes.Equal(nums.PutLong(nil, got), b[:32]) {
			t.Errorf("GetLong(%v) = %v", b, got)
		}
		if l, took, e := nums.GetBytes(b); e == api.OK && !bytes.Equal(nums.PutBytes(nil, l), b[:took]) {
			t.Errorf("GetBytes(%v) = %v, %d", b, l, took)
		}
		put := nums.Put(b, n, size)
		if added := min(max(size, 0), 8); len(put) != len(b)+added || !bytes.Equal(put[:len(b)], b) {
			t.Errorf("Put(%v, %d, %d) = %v", b, n, size, put)
		}
		if l, took, e := nums.GetBytes(append(nums.PutBytes(nil, b), tail...)); !bytes.Equal(l, b) || took != 4+len(b) || e != api.OK {
			t.Errorf("PutBytes, GetBytes of %v: %v, %d, %d", b, l, took, e)
		}
	})
}
