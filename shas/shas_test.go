package shas_test

import (
	"bytes"
	"crypto/sha256"
	"encoding/hex"
	"math"
	"math/big"
	"strings"
	"testing"

	"burrow/api"
	"burrow/nums"
	"burrow/shas"
)

const all = math.MaxUint64

// right answers the sum by the library, which all answers are held against.
func right(b []byte) api.Sum { return sha256.Sum256(b) }

// drawn answers bytes without a pattern, the same ones each time.
func drawn(count int) []byte {
	b := make([]byte, count)
	state := uint64(count) + 1
	for i := range b {
		state = state*6364136223846793005 + 1442695040888963407
		b[i] = byte(state >> 56)
	}
	return b
}

// digits answers the sum's digits of 16.
func digits(s api.Sum) string { return hex.EncodeToString(s[:]) }

// spelt answers what is summed of parts, as something, put byte by byte.
func spelt(as string, parts ...[]byte) []byte {
	count := func(n int) []byte { return []byte{byte(n >> 24), byte(n >> 16), byte(n >> 8), byte(n)} }
	b := append(count(len(as)), as...)
	b = append(b, count(len(parts))...)
	for _, part := range parts {
		b = append(append(b, count(len(part))...), part...)
	}
	return b
}

// left answers the rest by m of both sums together, the high one ahead.
func left(high, low api.Sum, m api.Num) api.Num {
	both := new(big.Int).SetBytes(append(high[:], low[:]...))
	rest := both.Mod(both, new(big.Int).SetBytes(nums.PutLong(nil, m)))
	n, _ := nums.GetLong(rest.FillBytes(make([]byte, 32)))
	return n
}

// written answers the sum of a run of these parts, each of which must be taken.
func written(t *testing.T, parts ...[]byte) api.Sum {
	t.Helper()
	r := shas.New()
	for _, part := range parts {
		if e := r.Write(part); e != api.OK {
			t.Fatal(e)
		}
	}
	return r.Sum()
}

// The chapter's table of examples.
func TestExamples(t *testing.T) {
	if got := digits(shas.Of(nil)); got != "e3b0c44298fc1c149afbf4c8996fb92427ae41e4649b934ca495991b7852b855" {
		t.Errorf("none: %s", got)
	}
	const abc = "ba7816bf8f01cfea414140de5dae2223b00361a396177a9cb410ff61f20015ad"
	if got := digits(shas.Of([]byte("abc"))); got != abc {
		t.Errorf("abc: %s", got)
	}
	if got := digits(written(t, []byte("a"), []byte("bc"))); got != abc {
		t.Errorf("a, and bc: %s", got)
	}
	if shas.As("x", []byte("a"), []byte("bc")) != shas.Of([]byte{0, 0, 0, 1, 'x', 0, 0, 0, 2, 0, 0, 0, 1, 'a', 0, 0, 0, 2, 'b', 'c'}) {
		t.Error("As x of a, and bc")
	}
	if n, e := shas.Number(api.Num{1}, "x"); n != (api.Num{}) || e != api.OK {
		t.Errorf("by 1: %v, %d", n, e)
	}
	if n, e := shas.Number(api.Num{}, "x"); n != (api.Num{}) || e != api.ErrArg {
		t.Errorf("by 0: %v, %d", n, e)
	}
}

// P5.1: sums that others have told (FIPS 180-4's examples).
func TestOfToldSums(t *testing.T) {
	for _, c := range []struct{ of, want string }{
		{"abcdbcdecdefdefgefghfghighijhijkijkljklmklmnlmnomnopnopq", "248d6a61d20638b8e5c026930c3e6039a33ce45964ff2167f6ecedd419db06c1"},
		{"abcdefghbcdefghicdefghijdefghijkefghijklfghijklmghijklmnhijklmnoijklmnopjklmnopqklmnopqrlmnopqrsmnopqrstnopqrstu", "cf5b16a778af8380036ce59e7b0492370b249b11e8f07a51afac45037afee9d1"},
		{strings.Repeat("a", 1000000), "cdc76e5c9914fb9281a1c7e284d73e67f1809a48a497200e046d39ccc7112cd0"},
	} {
		if got := digits(shas.Of([]byte(c.of))); got != c.want {
			t.Errorf("%d bytes: %s", len(c.of), got)
		}
	}
}

// P5.1: at every count of bytes, where the end has room in the last block and where it has not.
func TestOfEveryCount(t *testing.T) {
	counts := []int{511, 512, 513, 1 << 12, 1<<16 - 1, 1 << 16, 1<<21 + 9}
	for count := range 320 {
		counts = append(counts, count)
	}
	for _, count := range counts {
		for _, b := range [][]byte{drawn(count), make([]byte, count), bytes.Repeat([]byte{255}, count), bytes.Repeat([]byte{128}, count)} {
			if shas.Of(b) != right(b) {
				t.Errorf("%d bytes, the first of %v: %s", count, b[:min(count, 4)], digits(shas.Of(b)))
			}
		}
	}
}

// P5.1: each bit counts.
func TestOfEachBit(t *testing.T) {
	for _, count := range []int{1, 55, 64, 65} {
		b := drawn(count)
		for bit := range 8 * count {
			b[bit/8] ^= 1 << (bit % 8)
			if shas.Of(b) != right(b) {
				t.Fatalf("bit %d of %d bytes", bit, count)
			}
			b[bit/8] ^= 1 << (bit % 8)
		}
	}
}

// P5.2: a run's sum is that of all bytes so far, and a new run has none.
func TestRun(t *testing.T) {
	r := shas.New()
	if got := r.Sum(); got != shas.Of(nil) || got != right(nil) {
		t.Errorf("new: %s", digits(got))
	}
	var so []byte
	for i := range 300 {
		more := drawn(i % 70)
		if e := r.Write(more); e != api.OK {
			t.Fatalf("%d: %d", i, e)
		}
		so = append(so, more...)
		if r.Sum() != right(so) {
			t.Fatalf("%d bytes: %s", len(so), digits(r.Sum()))
		}
	}
}

// P5.2, R3: a run that is not there, or that New did not make, takes nothing and tells bytes 0, also when asked again.
func TestRunNotThere(t *testing.T) {
	var none *shas.Run
	for name, r := range map[string]*shas.Run{"nil": none, "zero": {}, "new": new(shas.Run)} {
		for _, b := range [][]byte{nil, {}, {1}, drawn(64), drawn(200)} {
			if e := r.Write(b); e != api.ErrNil {
				t.Errorf("%s: Write of %d bytes: %d", name, len(b), e)
			}
			if got := r.Sum(); got != (api.Sum{}) {
				t.Errorf("%s: %s", name, digits(got))
			}
		}
	}
	var held shas.Run
	if e := held.Write([]byte{1}); e != api.ErrNil || held.Sum() != (api.Sum{}) {
		t.Errorf("held: %d, %s", e, digits(held.Sum()))
	}
}

// P5.3: as, how many parts, and each part, each behind how many bytes it has.
func TestAs(t *testing.T) {
	many := make([][]byte, 300)
	for i := range many {
		many[i] = drawn(i % 5)
	}
	for _, as := range []string{"", "x", "abc", "\x00", "\x00\x00\x00\x01", "\xff\xfe\x80", "grüße", strings.Repeat("long ", 77)} {
		for _, parts := range [][][]byte{
			nil, {}, {nil}, {{}}, {{0}}, {{1, 2, 3}}, {{1}, {2, 3}}, {nil, {1, 2, 3}, {}}, {nil, nil, nil},
			{drawn(55), drawn(56), drawn(64)}, {drawn(256)}, {drawn(70000), {7}}, many[:255], many[:256], many,
		} {
			if got := shas.As(as, parts...); got != right(spelt(as, parts...)) {
				t.Errorf("%q of %d parts: %s", as, len(parts), digits(got))
			}
		}
	}
	if shas.As("") != shas.Of(make([]byte, 8)) {
		t.Error("as nothing, of no parts")
	}
	heap := make([][]byte, 1<<16+2)
	if shas.As("heap", heap...) != right(spelt("heap", heap...)) {
		t.Errorf("%d parts", len(heap))
	}
}

// P5.4: the rest by m of both sums, the one with the part 0 ahead of the one with the part 1.
func TestNumber(t *testing.T) {
	rounds := []api.Num{
		{1}, {2}, {3}, {23}, {255}, {256}, {1<<32 - 1}, {1 << 32}, {1 << 63}, {all - 58}, {all}, {0, 1}, {1, 1}, {all, all},
		{0, 0, 1}, {0, 0, 0, 1}, {0, 0, 0, 1 << 63}, {1, 0, 0, 1 << 63}, {all - 188, all, all, all}, {all - 1, all, all, all}, {all, all, all, all},
	}
	for _, as := range []string{"", "x", "\xff", "a long text, of more than one block, so that what is summed as it goes on behind the first block"} {
		for _, parts := range [][][]byte{nil, {}, {nil}, {{0}}, {{1}}, {{5, 6}, nil, {7}}, {drawn(200), drawn(33)}} {
			high := right(spelt(as, append(parts[:len(parts):len(parts)], []byte{0})...))
			low := right(spelt(as, append(parts[:len(parts):len(parts)], []byte{1})...))
			for _, m := range rounds {
				if n, e := shas.Number(m, as, parts...); n != left(high, low, m) || e != api.OK {
					t.Errorf("%q of %d parts by %v: %v, %d, want %v", as, len(parts), m, n, e, left(high, low, m))
				}
			}
			if n, e := shas.Number(api.Num{}, as, parts...); n != (api.Num{}) || e != api.ErrArg {
				t.Errorf("%q of %d parts by 0: %v, %d", as, len(parts), n, e)
			}
		}
	}
}

// P5.4: by 1 nothing is left, and by a power of two the last bits of the low words.
func TestNumberByPowersOfTwo(t *testing.T) {
	low := shas.As("x", []byte("a"), []byte{1})
	long, _ := nums.GetLong(low[:])
	for n := range 256 {
		var m, want api.Num
		m[n/64] = 1 << (n % 64)
		copy(want[:n/64], long[:])
		want[n/64] = long[n/64] & (1<<(n%64) - 1)
		if got, e := shas.Number(m, "x", []byte("a")); got != want || e != api.OK {
			t.Errorf("by 2^%d: %v, %d, want %v", n, got, e, want)
		}
	}
}

// P5.5: wherever the bytes are parted, once or twice, parts of no bytes among them, the sum is the same.
func TestParted(t *testing.T) {
	for _, count := range []int{0, 1, 2, 55, 56, 63, 64, 65, 119, 120, 127, 128, 129, 200} {
		b := drawn(count)
		want := shas.Of(b)
		for first := range count + 1 {
			if written(t, b[:first], b[first:]) != want || written(t, nil, b[:first], []byte{}, nil, b[first:], nil) != want {
				t.Errorf("%d bytes, parted behind %d", count, first)
			}
			for _, second := range []int{first, min(first+1, count), min(first+64, count), (first + count) / 2, count} {
				if written(t, b[:first], b[first:second], b[second:]) != want {
					t.Errorf("%d bytes, parted behind %d and %d", count, first, second)
				}
			}
		}
	}
}

// P5.5: byte by byte, and by parts of each count, more than a block among them.
func TestPartedEvenly(t *testing.T) {
	b := drawn(1000)
	for each := 1; each <= 300; each++ {
		var parts [][]byte
		for from := 0; from < len(b); from += each {
			parts = append(parts, b[from:min(from+each, len(b))])
		}
		if written(t, parts...) != right(b) {
			t.Errorf("by %d", each)
		}
	}
}

// P5.5: asked for again the sum is the same, and more may be written.
func TestAskedAgain(t *testing.T) {
	for _, count := range []int{0, 1, 55, 56, 63, 64, 65, 119, 120, 127, 128} {
		r, b := shas.New(), drawn(count)
		r.Write(b)
		for again := range 3 {
			if r.Sum() != right(b) {
				t.Errorf("%d bytes, asked %d times", count, again+1)
			}
		}
		if e := r.Write(nil); e != api.OK || r.Sum() != right(b) {
			t.Errorf("%d bytes, and none: %d", count, e)
		}
		for _, more := range []int{1, 8, 64, 100} {
			b = append(b, drawn(more)...)
			if e := r.Write(b[len(b)-more:]); e != api.OK || r.Sum() != right(b) || r.Sum() != right(b) {
				t.Errorf("%d bytes, and more up to %d: %d", count, len(b), e)
			}
		}
	}
}

// cuts hands over each way to cut b into one text and up to so many parts, none of which needs a byte.
func cuts(b []byte, parts int, hand func(as string, parts [][]byte)) {
	var cut func(so [][]byte, rest []byte)
	cut = func(so [][]byte, rest []byte) {
		whole := append(so[:len(so):len(so)], rest)
		hand(string(whole[0]), whole[1:])
		if len(so) == parts {
			return
		}
		for at := range len(rest) + 1 {
			cut(append(so[:len(so):len(so)], rest[:at]), rest[at:])
		}
	}
	cut(nil, b)
}

// P5.6: as, how many parts there are, and where each ends tell sums apart, though the bytes behind one another are the same, or spell counts.
func TestToldApart(t *testing.T) {
	type kept struct {
		as    string
		parts [][]byte
	}
	had, numbers := map[api.Sum]kept{}, map[api.Num]bool{}
	for _, b := range [][]byte{
		{}, []byte("aaaaa"), {0}, {0, 0, 0, 0}, make([]byte, 9), {0, 0, 0, 1}, {0, 0, 0, 1, 0, 0, 0, 1, 0}, {0, 0, 0, 2, 0, 0, 0, 0}, {1, 0, 0, 0, 1, 0, 0, 0, 0},
	} {
		cuts(b, 3, func(as string, parts [][]byte) {
			sum := shas.As(as, parts...)
			if other, there := had[sum]; there {
				t.Errorf("%q of %v, and %q of %v", as, parts, other.as, other.parts)
			}
			had[sum] = kept{as, parts}
			n, e := shas.Number(api.Num{all, all, all, all}, as, parts...)
			if e != api.OK || numbers[n] {
				t.Errorf("%q of %v: %v, %d", as, parts, n, e)
			}
			numbers[n] = true
		})
	}
	if len(had) < 500 {
		t.Errorf("no more than %d ways", len(had))
	}
}

// scribble writes over a list and over its spare room.
func scribble(b []byte) {
	b = b[:cap(b)]
	for i := range b {
		b[i] ^= 0xa5
	}
}

// R4: what was written is kept by its content: whoever writes over it afterwards changes no sum.
func TestWrittenIsNotKept(t *testing.T) {
	for _, count := range []int{1, 63, 64, 65, 130} {
		r, room := shas.New(), drawn(200)
		want := right(room[:count])
		r.Write(room[:count])
		scribble(room)
		if r.Sum() != want {
			t.Errorf("%d bytes", count)
		}
	}
}

// R4: what is handed in is not changed, its spare room neither: that of the bytes, and that of the list of parts.
func TestHandedInStaysAsItIs(t *testing.T) {
	room := drawn(300)
	was := bytes.Clone(room)
	r := shas.New()
	for _, have := range []int{0, 1, 55, 64, 130} {
		shas.Of(room[:have])
		r.Write(room[:have])
		r.Sum()
		parts := [][]byte{room[:have], room[have : have+9], nil, room[200:210]}
		shas.As("x", parts[:2]...)
		for some := range 3 {
			shas.Number(api.Num{9}, "x", parts[:some]...)
		}
		if !bytes.Equal(parts[0], was[:have]) || !bytes.Equal(parts[1], was[have:have+9]) || parts[2] != nil || !bytes.Equal(parts[3], was[200:210]) {
			t.Errorf("%d: the parts have changed: %v", have, parts)
		}
	}
	if !bytes.Equal(room, was) {
		t.Error("the bytes have changed")
	}
}

// R4: empty and nil mean the same, and spare room is not summed.
func TestEmptyIsNil(t *testing.T) {
	room := drawn(100)
	if shas.Of(nil) != shas.Of([]byte{}) || shas.Of(nil) != shas.Of(room[:0]) || shas.Of(room[:7]) != right(drawn(100)[:7]) {
		t.Error("Of")
	}
	if shas.As("x", nil) != shas.As("x", []byte{}) || shas.As("x", nil) != shas.As("x", room[:0]) || shas.As("x") != shas.As("x", [][]byte{}...) {
		t.Error("As")
	}
	m := api.Num{all, all, all, all}
	of, _ := shas.Number(m, "x", nil)
	if got, e := shas.Number(m, "x", room[:0]); got != of || e != api.OK {
		t.Error("Number, of a part of no bytes")
	}
	of, _ = shas.Number(m, "x")
	if got, e := shas.Number(m, "x", [][]byte{}...); got != of || e != api.OK {
		t.Error("Number, of no parts")
	}
}

// R5: runs share nothing, with one another or with the other calls.
func TestRunsShareNothing(t *testing.T) {
	first, second := shas.New(), shas.New()
	var one, two []byte
	for i := range 60 {
		a, b := drawn(i), drawn(77-i)
		first.Write(a)
		second.Write(b)
		one, two = append(one, a...), append(two, b...)
		if shas.Of(a) != right(a) || shas.As("x", a, b) != right(spelt("x", a, b)) || shas.New().Sum() != right(nil) {
			t.Fatalf("other calls, after %d", i)
		}
		if first.Sum() != right(one) || second.Sum() != right(two) {
			t.Fatalf("runs, after %d", i)
		}
	}
}

// R1, R5: at any bytes nothing panics, and all answers are right ones, the second time too.
func FuzzShas(f *testing.F) {
	f.Add([]byte(nil), []byte(nil), "", uint64(0), uint64(0), uint64(0), uint64(0))
	f.Add([]byte("a"), []byte("bc"), "x", uint64(1), uint64(0), uint64(0), uint64(0))
	f.Add(drawn(55), drawn(64), "\xff", uint64(all), uint64(all), uint64(all), uint64(all))
	f.Add(drawn(63), drawn(129), "abc", uint64(all-58), uint64(0), uint64(0), uint64(0))
	f.Fuzz(func(t *testing.T, a, b []byte, as string, m0, m1, m2, m3 uint64) {
		m := api.Num{m0, m1, m2, m3}
		for range 2 {
			if shas.Of(a) != right(a) || written(t, a, b) != right(joined(a, b)) {
				t.Errorf("%v, %v", a, b)
			}
			if shas.As(as, a, b) != right(spelt(as, a, b)) {
				t.Errorf("%q of %v, %v", as, a, b)
			}
			n, e := shas.Number(m, as, a, b)
			if m == (api.Num{}) {
				if n != m || e != api.ErrArg {
					t.Errorf("by 0: %v, %d", n, e)
				}
				continue
			}
			if n != left(right(spelt(as, a, b, []byte{0})), right(spelt(as, a, b, []byte{1})), m) || e != api.OK {
				t.Errorf("%q of %v, %v by %v: %v, %d", as, a, b, m, n, e)
			}
		}
	})
}

// joined answers both lists' bytes, one behind the other.
func joined(a, b []byte) []byte { return append(bytes.Clone(a), b...) }

// The layers above sum for each packet, and puzzles over and over.
func BenchmarkOf(b *testing.B) {
	for name, list := range map[string][]byte{"none": nil, "sum": drawn(32), "most": drawn(api.MaxBytes)} {
		b.Run(name, func(b *testing.B) {
			b.SetBytes(int64(len(list)))
			for b.Loop() {
				shas.Of(list)
			}
		})
	}
}

func BenchmarkAs(b *testing.B) {
	part := drawn(32)
	for b.Loop() {
		shas.As("puzzle", part, part, part)
	}
}

func BenchmarkNumber(b *testing.B) {
	part := drawn(32)
	for b.Loop() {
		shas.Number(api.Num{all - 188, all, all, all}, "number", part, part)
	}
}
