package params_test

import (
	"bytes"
	"encoding/binary"
	"math"
	"slices"
	"sync"
	"testing"

	"burrow/api"
	"burrow/params"
)

// kind is what bodies of one kind are like.
type kind struct {
	name string
	// right tells whether bytes are a body of that kind, by the chapter's words.
	right func(b []byte) bool
	// back answers what is put of what is got, and whether all of that is noughts.
	back func(b []byte) (again []byte, none bool, e api.Errno)
}

// kinds are all of them.
var kinds = []kind{
	{"Lane", isLong(8), func(b []byte) ([]byte, bool, api.Errno) {
		lane, epoch, e := params.GetLane(b)
		return params.PutLane(lane, epoch), lane == 0 && epoch == 0, e
	}},
	{"Spots", areSpots, func(b []byte) ([]byte, bool, api.Errno) {
		l, e := params.GetSpots(b)
		again, _ := params.PutSpots(l)
		return again, len(l) == 0, e
	}},
	{"Puzzle", isWork(41), func(b []byte) ([]byte, bool, api.Errno) {
		p, e := params.GetPuzzle(b)
		return params.PutPuzzle(p), p == api.Puzzle{}, e
	}},
	{"Solution", isWork(73), func(b []byte) ([]byte, bool, api.Errno) {
		p, j, e := params.GetSolution(b)
		return params.PutSolution(p, j), p == api.Puzzle{} && j == api.Sum{}, e
	}},
	{"Count", isLong(4), func(b []byte) ([]byte, bool, api.Errno) {
		n, e := params.GetCount(b)
		return params.PutCount(n), n == 0, e
	}},
	{"Long", isLong(32), func(b []byte) ([]byte, bool, api.Errno) {
		n, e := params.GetLong(b)
		return params.PutLong(n), n == api.Num{}, e
	}},
	{"Sum", isLong(32), func(b []byte) ([]byte, bool, api.Errno) {
		s, e := params.GetSum(b)
		return params.PutSum(s), s == api.Sum{}, e
	}},
	{"Sig", isLong(64), func(b []byte) ([]byte, bool, api.Errno) {
		s, e := params.GetSig(b)
		return params.PutSig(s), s == api.Signature{}, e
	}},
}

// isLong answers what tells whether there are so many bytes.
func isLong(count int) func([]byte) bool {
	return func(b []byte) bool { return len(b) == count }
}

// isWork answers what tells whether there are so many bytes, the first of which is no more than MaxWork.
func isWork(count int) func([]byte) bool {
	return func(b []byte) bool { return len(b) == count && b[0] <= 12 }
}

// areSpots tells whether the bytes are a body of spots.
func areSpots(b []byte) bool {
	if len(b) < 5 || b[0] < 1 || b[0] > 4 || len(b) != 1+4*int(b[0]) {
		return false
	}
	had := map[uint32]bool{0: true}
	for four := range slices.Chunk(b[1:], 4) {
		n := binary.BigEndian.Uint32(four)
		if had[n] {
			return false
		}
		had[n] = true
	}
	return true
}

// checkBody holds what is got of the bytes against the chapter's words: these again, or ErrForm and nothing beside it.
func checkBody(t testing.TB, k kind, b []byte) bool {
	t.Helper()
	again, none, e := k.back(b)
	right := k.right(b)
	if right && (e != api.OK || !bytes.Equal(again, b)) {
		t.Errorf("%s of %x: %x, %v", k.name, b, again, e)
	}
	if !right && (e != api.ErrForm || !none) {
		t.Errorf("%s of %x: %x, %v", k.name, b, again, e)
	}
	return right
}

// long answers a long number without a pattern.
func long(n int) api.Num {
	var a api.Num
	for i := range a {
		a[i] = binary.BigEndian.Uint64(drawn(n*4+i, 8))
	}
	return a
}

// sumOf answers a sum without a pattern.
func sumOf(n int) api.Sum { return api.Sum(drawn(n, 32)) }

// rising answers 32 bytes, each one more than the one ahead.
func rising(from byte) api.Sum {
	var s api.Sum
	for i := range s {
		s[i] = from + byte(i)
	}
	return s
}

// P13.3 to P13.6: bodies that another program told.
func TestToldBodies(t *testing.T) {
	puzzle := api.Puzzle{Bits: 12, Gen: 0x0102030405060708, I: rising(100)}
	spots, e := params.PutSpots([]api.Spot{0xfffefdfc, 1, 0x80000000, 256})
	if e != api.OK {
		t.Fatal(e)
	}
	for _, c := range []struct {
		got  []byte
		want string
	}{
		{params.PutLane(0x01020304, 0x05060708), "0102030405060708"},
		{spots, "04fffefdfc000000018000000000000100"},
		{params.PutPuzzle(puzzle), "0c01020304050607086465666768696a6b6c6d6e6f707172737475767778797a7b7c7d7e7f80818283"},
		{params.PutSolution(puzzle, rising(200)), "0c01020304050607086465666768696a6b6c6d6e6f707172737475767778797a7b7c7d7e7f80818283c8c9cacbcccdcecfd0d1d2d3d4d5d6d7d8d9dadbdcdddedfe0e1e2e3e4e5e6e7"},
		{params.PutCount(0xfedcba98), "fedcba98"},
		{params.PutLong(api.Num{0x191a1b1c1d1e1f20, 0x1112131415161718, 0x090a0b0c0d0e0f10, 0x0102030405060708}), "0102030405060708090a0b0c0d0e0f101112131415161718191a1b1c1d1e1f20"},
		{params.PutSum(rising(100)), "6465666768696a6b6c6d6e6f707172737475767778797a7b7c7d7e7f80818283"},
		{params.PutSig(api.Signature{C: api.Num{5, 0, 0, 1 << 63}, S: api.Num{9, 1, 3}}), "80000000000000000000000000000000000000000000000000000000000000050000000000000000000000000000000300000000000000010000000000000009"},
	} {
		if !bytes.Equal(c.got, unhex(c.want)) {
			t.Errorf("%x, want %s", c.got, c.want)
		}
	}
	if p, j, e := params.GetSolution(params.PutSolution(puzzle, rising(200))); p != puzzle || j != rising(200) || e != api.OK {
		t.Errorf("GetSolution: %v, %x, %v", p, j, e)
	}
	if lane, epoch, e := params.GetLane(unhex("0102030405060708")); lane != 0x01020304 || epoch != 0x05060708 || e != api.OK {
		t.Errorf("GetLane: %x, %x, %v", lane, epoch, e)
	}
	if s, e := params.GetSig(params.PutSig(api.Signature{C: api.Num{5, 0, 0, 1 << 63}, S: api.Num{9, 1, 3}})); s.C != (api.Num{5, 0, 0, 1 << 63}) || s.S != (api.Num{9, 1, 3}) || e != api.OK {
		t.Errorf("GetSig: %v, %v", s, e)
	}
	if l, e := params.GetSpots(unhex("04fffefdfc000000018000000000000100")); !slices.Equal(l, []api.Spot{0xfffefdfc, 1, 0x80000000, 256}) || e != api.OK {
		t.Errorf("GetSpots: %v, %v", l, e)
	}
}

// P13.3, P13.7: what is put is got, of lanes and epochs of all kinds, either one where it belongs.
func TestLane(t *testing.T) {
	numbers := []uint32{0, 1, 2, 255, 256, 65535, 65536, 1<<24 - 1, 1 << 24, 1<<31 - 1, 1 << 31, math.MaxUint32, 0x01020304}
	for _, lane := range numbers {
		for _, epoch := range numbers {
			b := params.PutLane(lane, epoch)
			if want := binary.BigEndian.AppendUint32(binary.BigEndian.AppendUint32(nil, lane), epoch); !bytes.Equal(b, want) {
				t.Errorf("%d, %d: %x", lane, epoch, b)
			}
			if l, n, e := params.GetLane(b); l != lane || n != epoch || e != api.OK {
				t.Errorf("%d, %d: got %d, %d, %v", lane, epoch, l, n, e)
			}
		}
	}
}

// rightSpots answers a list's body by the chapter's words.
func rightSpots(l []api.Spot) ([]byte, api.Errno) {
	had := map[api.Spot]bool{0: true}
	b := []byte{byte(len(l))}
	for _, s := range l {
		if had[s] {
			return nil, api.ErrArg
		}
		had[s] = true
		b = binary.BigEndian.AppendUint32(b, uint32(s))
	}
	if len(l) == 0 || len(l) > 4 {
		return nil, api.ErrArg
	}
	return b, api.OK
}

// checkSpots holds the list's body against the chapter's words, and what is got of it against the list.
func checkSpots(t testing.TB, l []api.Spot) api.Errno {
	t.Helper()
	got, e := params.PutSpots(l)
	if want, wantE := rightSpots(l); e != wantE || !bytes.Equal(got, want) {
		t.Errorf("%v: %x, %v, want %x, %v", l, got, e, want, wantE)
	}
	if e == api.OK {
		if back, e := params.GetSpots(got); e != api.OK || !slices.Equal(back, l) {
			t.Errorf("%v: got %v, %v", l, back, e)
		}
	}
	return e
}

// P13.4, P13.7: lists of none, of one, of MaxSpots and of one more, with a 0 and with one twice at each place.
func TestSpots(t *testing.T) {
	numbers := []api.Spot{0, 1, 2, 255, 256, 1 << 16, 1 << 24, 1 << 31, math.MaxUint32}
	checkSpots(t, nil)
	checkSpots(t, []api.Spot{})
	right := 0
	for _, a := range numbers {
		checkSpots(t, []api.Spot{a})
		for _, b := range numbers {
			checkSpots(t, []api.Spot{a, b})
			for _, c := range numbers {
				checkSpots(t, []api.Spot{a, b, c})
				for _, d := range numbers {
					if checkSpots(t, []api.Spot{a, b, c, d}) == api.OK {
						right++
					}
				}
			}
		}
	}
	if want := 8 * 7 * 6 * 5; right != want {
		t.Errorf("%d lists of four, want %d", right, want)
	}
	for _, count := range []int{5, 6, 8, 255, 256, 257, 258, 260, 65537, 1<<16 + 4, 1 << 20} {
		l := make([]api.Spot, count)
		checkSpots(t, l)
		for i := range l {
			l[i] = api.Spot(i + 1)
		}
		if e := checkSpots(t, l); e != api.ErrArg {
			t.Errorf("%d spots: %v", count, e)
		}
	}
}

// P13.4: a body that tells as many spots as there are; fewer, more, none; whatever stands in it.
func TestSpotsOfBytes(t *testing.T) {
	k := kinds[1]
	for told := range 256 {
		for _, has := range []int{0, 1, 2, 3, 4, 5, told, told + 1} {
			b := []byte{byte(told)}
			for i := range has {
				b = binary.BigEndian.AppendUint32(b, uint32(i+1))
			}
			if checkBody(t, k, b) != (told == has && told >= 1 && told <= 4) {
				t.Errorf("%d of %d", told, has)
			}
			for cut := 1; cut < 4; cut++ {
				checkBody(t, k, b[:max(len(b)-cut, 0)])
				checkBody(t, k, append(bytes.Clone(b), make([]byte, cut)...))
			}
		}
	}
	for _, count := range []int{1, 2, 3, 4} {
		for at := range count {
			for other := range count {
				b := []byte{byte(count)}
				for i := range count {
					b = binary.BigEndian.AppendUint32(b, uint32(i+1)<<(i*8))
				}
				copy(b[1+4*at:5+4*at], bytes.Clone(b[1+4*other:5+4*other]))
				checkBody(t, k, b)
				clear(b[1+4*at : 5+4*at])
				checkBody(t, k, b)
			}
		}
	}
}

// P13.5, P13.7: puzzles of all Bits: up to MaxWork what is put is got, above it is put and refused.
func TestPuzzles(t *testing.T) {
	for bits := range 256 {
		for _, gen := range []uint64{0, 1, 255, 256, 1 << 32, 1 << 63, math.MaxUint64, 0x0102030405060708} {
			for _, i := range []api.Sum{{}, {1}, {31: 1}, rising(7), sumOf(bits)} {
				p := api.Puzzle{Bits: uint8(bits), Gen: gen, I: i}
				j := sumOf(bits + 1)
				b := append(binary.BigEndian.AppendUint64([]byte{byte(bits)}, gen), i[:]...)
				if got := params.PutPuzzle(p); !bytes.Equal(got, b) {
					t.Errorf("%v: %x", p, got)
				}
				if got := params.PutSolution(p, j); !bytes.Equal(got, append(b, j[:]...)) {
					t.Errorf("%v, %x: %x", p, j, got)
				}
				q, e := params.GetPuzzle(b)
				r, s, f := params.GetSolution(append(b, j[:]...))
				if bits <= 12 {
					if q != p || e != api.OK || r != p || s != j || f != api.OK {
						t.Errorf("%v: got %v, %v, %v, %x, %v", p, q, e, r, s, f)
					}
				} else if q != (api.Puzzle{}) || e != api.ErrForm || r != (api.Puzzle{}) || s != (api.Sum{}) || f != api.ErrForm {
					t.Errorf("%v: got %v, %v, %v, %x, %v", p, q, e, r, s, f)
				}
			}
		}
	}
}

// P13.6, P13.7: numbers, long numbers, sums and signatures: what is put is got.
func TestNumbersAndSums(t *testing.T) {
	for _, n := range []uint32{0, 1, 255, 256, 65535, 65536, 1 << 24, 1<<31 - 1, 1 << 31, math.MaxUint32, 0x01020304} {
		b := params.PutCount(n)
		if got, e := params.GetCount(b); got != n || e != api.OK || !bytes.Equal(b, binary.BigEndian.AppendUint32(nil, n)) {
			t.Errorf("%d: %x, %d, %v", n, b, got, e)
		}
	}
	longs := []api.Num{{}, {1}, {0, 1}, {0, 0, 1}, {0, 0, 0, 1}, {1, 2, 3, 4}, {0, 0, 0, 1 << 63}, {math.MaxUint64, math.MaxUint64, math.MaxUint64, math.MaxUint64}, long(1), long(2)}
	for _, n := range longs {
		var want []byte
		for i := range n {
			want = binary.BigEndian.AppendUint64(want, n[3-i])
		}
		b := params.PutLong(n)
		if got, e := params.GetLong(b); got != n || e != api.OK || !bytes.Equal(b, want) {
			t.Errorf("%x: %x, %x, %v", n, b, got, e)
		}
		for _, m := range longs {
			sig := api.Signature{C: n, S: m}
			b := params.PutSig(sig)
			if got, e := params.GetSig(b); got != sig || e != api.OK || !bytes.Equal(b, append(params.PutLong(n), params.PutLong(m)...)) {
				t.Errorf("%x: %x, %x, %v", sig, b, got, e)
			}
		}
	}
	for _, s := range []api.Sum{{}, {1}, {31: 1}, rising(0), rising(200), sumOf(3)} {
		b := params.PutSum(s)
		if got, e := params.GetSum(b); got != s || e != api.OK || !bytes.Equal(b, s[:]) {
			t.Errorf("%x: %x, %x, %v", s, b, got, e)
		}
	}
}

// P13.3 to P13.6: bodies of each kind of every length: one byte short, one byte long, of no bytes, of another kind.
func TestBodiesOfEachLength(t *testing.T) {
	for _, k := range kinds {
		right := map[int]int{}
		for n := range 300 {
			bodies := [][]byte{make([]byte, n), drawn(n, n), bytes.Repeat([]byte{255}, n)}
			for first := range 14 {
				b := drawn(n+first, n)
				copy(b, []byte{byte(first)})
				bodies = append(bodies, b)
			}
			for _, b := range bodies {
				if checkBody(t, k, b) {
					right[n]++
				}
			}
		}
		checkBody(t, k, nil)
		checkBody(t, k, make([]byte, 1<<20))
		for _, n := range map[string][]int{"Lane": {8}, "Spots": {5, 9, 13, 17}, "Puzzle": {41}, "Solution": {73}, "Count": {4}, "Long": {32}, "Sum": {32}, "Sig": {64}}[k.name] {
			if right[n] == 0 {
				t.Errorf("%s: none of %d bytes", k.name, n)
			}
			delete(right, n)
		}
		if len(right) != 0 {
			t.Errorf("%s: of %v bytes", k.name, right)
		}
	}
}

// P13.7: no two bodies tell the same: with any one byte another one it is another body, or none.
func TestEachByteOfBodies(t *testing.T) {
	for _, k := range kinds {
		for _, n := range []int{4, 5, 8, 9, 13, 17, 32, 41, 64, 73} {
			b := drawn(n, n)
			b[0] = byte(n / 4)
			for at := range b {
				for x := range 256 {
					c := bytes.Clone(b)
					c[at] = byte(x)
					checkBody(t, k, c)
				}
			}
		}
	}
}

// P13.7: bodies in pieces, and pieces in bytes: what a Meet tells.
func TestBodiesInPieces(t *testing.T) {
	puzzle := api.Puzzle{Bits: 12, Gen: 9, I: sumOf(1)}
	sig := api.Signature{C: long(3), S: long(4)}
	l := []api.Param{
		{Type: api.PaLane, Body: params.PutLane(7, 0)}, {Type: api.PaSolution, Body: params.PutSolution(puzzle, sumOf(2))}, {Type: api.PaPublic, Body: params.PutLong(long(5))},
		{Type: api.PaKey, Body: params.PutLong(long(6))}, {Type: api.PaMac, Body: params.PutSum(sumOf(7))}, {Type: api.PaSign, Body: params.PutSig(sig)},
	}
	got, e := params.Get(checkPut(t, l))
	if e != api.OK {
		t.Fatal(e)
	}
	find := func(n uint16) []byte {
		b, is := params.Find(got, n)
		if !is {
			t.Errorf("%d is not there", n)
		}
		return b
	}
	if lane, epoch, e := params.GetLane(find(api.PaLane)); lane != 7 || epoch != 0 || e != api.OK {
		t.Error("PaLane")
	}
	if p, j, e := params.GetSolution(find(api.PaSolution)); p != puzzle || j != sumOf(2) || e != api.OK {
		t.Error("PaSolution")
	}
	if n, e := params.GetLong(find(api.PaKey)); n != long(6) || e != api.OK {
		t.Error("PaKey")
	}
	if s, e := params.GetSum(find(api.PaMac)); s != sumOf(7) || e != api.OK {
		t.Error("PaMac")
	}
	if s, e := params.GetSig(find(api.PaSign)); s != sig || e != api.OK {
		t.Error("PaSign")
	}
}

// R4: bodies are new memory, and bytes of which one is got are not changed, nor kept.
func TestBodiesShareNothing(t *testing.T) {
	puzzle := api.Puzzle{Bits: 3, Gen: 4, I: sumOf(5)}
	for i, put := range []func() []byte{
		func() []byte { return params.PutLane(1, 2) },
		func() []byte { b, _ := params.PutSpots([]api.Spot{3, 4}); return b },
		func() []byte { return params.PutPuzzle(puzzle) },
		func() []byte { return params.PutSolution(puzzle, sumOf(6)) },
		func() []byte { return params.PutCount(5) },
		func() []byte { return params.PutLong(long(6)) },
		func() []byte { return params.PutSum(sumOf(7)) },
		func() []byte { return params.PutSig(api.Signature{C: long(8), S: long(9)}) },
	} {
		one, other := put(), put()
		want := bytes.Clone(one)
		_ = append(one, 1, 2, 3)
		spoil(one)
		if !bytes.Equal(other, want) || !bytes.Equal(put(), want) {
			t.Errorf("%s: what is put shares", kinds[i].name)
		}
		room := append(bytes.Clone(want), drawn(i, 50)...)
		was := bytes.Clone(room)
		again, _, e := kinds[i].back(room[:len(want)])
		if e != api.OK || !bytes.Equal(again, want) || !bytes.Equal(room, was) {
			t.Errorf("%s: %x has become %x", kinds[i].name, was, room)
		}
	}
	l := []api.Spot{3, 4, 5, 6}
	b, _ := params.PutSpots(l[:2])
	if !slices.Equal(l, []api.Spot{3, 4, 5, 6}) {
		t.Errorf("the spots are %v", l)
	}
	clear(l)
	one, _ := params.GetSpots(b)
	other, _ := params.GetSpots(b)
	clear(one[:cap(one)])
	_ = append(one, 8)
	if !slices.Equal(other, []api.Spot{3, 4}) {
		t.Errorf("spots share: %v", other)
	}
	clear(b)
	if !slices.Equal(other, []api.Spot{3, 4}) {
		t.Errorf("spots share with their bytes: %v", other)
	}
}

// R5: who asks at the same time as others is answered alike, whatever was asked ahead.
func TestBodiesAtOnce(t *testing.T) {
	var wait sync.WaitGroup
	for i := range 8 {
		wait.Go(func() {
			for j := range 80 {
				for _, k := range kinds {
					checkBody(t, k, drawn(i, j))
				}
				checkSpots(t, []api.Spot{api.Spot(i), api.Spot(j), 9})
			}
		})
	}
	wait.Wait()
}

func BenchmarkGetSolution(b *testing.B) {
	l := params.PutSolution(api.Puzzle{Bits: 12, Gen: 5, I: sumOf(1)}, sumOf(2))
	for b.Loop() {
		params.GetSolution(l)
	}
}

func BenchmarkGetSpots(b *testing.B) {
	l, _ := params.PutSpots([]api.Spot{1, 2, 3, 4})
	for b.Loop() {
		params.GetSpots(l)
	}
}
