package macs_test

import (
	"bytes"
	"crypto/hmac"
	"crypto/sha256"
	"encoding/hex"
	"slices"
	"strings"
	"sync"
	"testing"

	"burrow/api"
	"burrow/macs"
)

const blockBytes = 64 // of a key, as it is summed

// keyCounts are of keys that have fewer bytes than a block, as many, one fewer, one more, and many more.
var keyCounts = []int{0, 1, 2, 31, 32, 33, 55, 56, 62, 63, 64, 65, 66, 96, 127, 128, 129, 200, 255, 256, 257, 1000, 1<<16 + 1}

// right answers the sum by the library, which all answers are held against.
func right(key []byte, parts ...[]byte) api.Sum {
	h := hmac.New(sha256.New, key)
	for _, part := range parts {
		h.Write(part)
	}
	return api.Sum(h.Sum(nil))
}

// spelt answers the sum by what the chapter says of it.
func spelt(key []byte, parts ...[]byte) api.Sum {
	k := make([]byte, blockBytes)
	if len(key) > blockBytes {
		sum := sha256.Sum256(key)
		key = sum[:]
	}
	copy(k, key)
	against := func(with byte) []byte {
		var b []byte
		for _, x := range k {
			b = append(b, x^with)
		}
		return b
	}
	inner := sha256.Sum256(append(against(54), bytes.Join(parts, nil)...))
	return sha256.Sum256(append(against(92), inner[:]...))
}

// same answers whether both are the same bytes, as many.
func same(a, b []byte) bool { return string(a) == string(b) }

// drawn answers bytes without a pattern, the same ones each time.
func drawn(count int) []byte {
	b := make([]byte, count)
	state := uint64(count) + 1
	for i := range b {
		state = state*6364136223846793005 + 1442695040888963407
		b[i] = byte(state >> 56)
	}
	return b
}

// behind answers b with so many bytes 0 behind it.
func behind(b []byte, noughts int) []byte { return slices.Concat(b, make([]byte, noughts)) }

// digits answers the sum's digits of 16.
func digits(s api.Sum) string { return hex.EncodeToString(s[:]) }

// check holds the sum by the key against the library, and against what the chapter says.
func check(t *testing.T, key []byte, parts ...[]byte) {
	t.Helper()
	got := macs.Of(key, parts...)
	if got != right(key, parts...) || got != spelt(key, parts...) {
		t.Errorf("by %d bytes, the first of %v, of %d parts of %d bytes: %s", len(key), key[:min(len(key), 4)], len(parts), len(bytes.Join(parts, nil)), digits(got))
	}
}

// checkSame holds Same's answer, both ways round.
func checkSame(t *testing.T, a, b []byte) {
	t.Helper()
	if macs.Same(a, b) != same(a, b) || macs.Same(b, a) != same(a, b) {
		t.Errorf("of %d and %d bytes: %v, %v, want %v", len(a), len(b), macs.Same(a, b), macs.Same(b, a), same(a, b))
	}
}

// The chapter's table of examples.
func TestExamples(t *testing.T) {
	const want = "5bdcc146bf60754e6a042426089575c75a003f089d2739839dec58b964ec3843"
	if got := digits(macs.Of([]byte("Jefe"), []byte("what do ya want for nothing?"))); got != want {
		t.Errorf("Jefe: %s", got)
	}
	if !macs.Same([]byte("ab"), []byte("ab")) {
		t.Error("ab, and ab")
	}
	if macs.Same([]byte("ab"), []byte("a")) {
		t.Error("ab, and a")
	}
}

// P8.1: sums that others have told (RFC 4231's examples, and that of no bytes by none).
func TestToldSums(t *testing.T) {
	counted := make([]byte, 25)
	for i := range counted {
		counted[i] = byte(i + 1)
	}
	for _, c := range []struct{ key, of, want string }{
		{"", "", "b613679a0814d9ec772f95d778c35fc5ff1697c493715653c6c712144292c5ad"},
		{strings.Repeat("\x0b", 20), "Hi There", "b0344c61d8db38535ca8afceaf0bf12b881dc200c9833da726e9376c2e32cff7"},
		{strings.Repeat("\xaa", 20), strings.Repeat("\xdd", 50), "773ea91e36800e46854db8ebd09181a72959098b3ef8c122d9635514ced565fe"},
		{string(counted), strings.Repeat("\xcd", 50), "82558a389a443c0ea4cc819899f2083a85f0faa3e578f8077a2e3ff46729665b"},
		{strings.Repeat("\xaa", 131), "Test Using Larger Than Block-Size Key - Hash Key First", "60e431591ee0b67f0d8a26aacbf5b77f8e0bc6213728c5140546040f0ee37f54"},
		{strings.Repeat("\xaa", 131), "This is a test using a larger than block-size key and a larger than block-size data. The key needs to be hashed before being used by the HMAC algorithm.",
			"9b09ffa71b942fcb27635fbcd5b0e944bfdc63644f0713938a7f51535c3a35e2"},
	} {
		if got := digits(macs.Of([]byte(c.key), []byte(c.of))); got != c.want {
			t.Errorf("%d bytes by %d: %s", len(c.of), len(c.key), got)
		}
	}
}

// P8.1: keys of every count of bytes up to some blocks, and of many.
func TestEveryKey(t *testing.T) {
	counts := append([]int{511, 512, 513, 1 << 12, 1<<16 - 1, 1 << 16, 1<<20 + 9}, keyCounts...)
	for count := range 270 {
		counts = append(counts, count)
	}
	for _, count := range counts {
		for _, key := range [][]byte{drawn(count), make([]byte, count), bytes.Repeat([]byte{255}, count), bytes.Repeat([]byte{54}, count), bytes.Repeat([]byte{92}, count)} {
			check(t, key)
			check(t, key, []byte("x"))
			check(t, key, drawn(70), drawn(9))
		}
	}
}

// P8.1: nil is a key of no bytes, whatever room is behind it, and so is one of as many bytes 0 as make a block.
func TestKeyOfNoBytes(t *testing.T) {
	room := drawn(100)
	for _, parts := range [][][]byte{nil, {{}}, {{0}}, {[]byte("abc")}, {drawn(64)}} {
		want := right(nil, parts...)
		for name, key := range map[string][]byte{"nil": nil, "empty": {}, "room": room[:0], "one nought": {0}, "noughts": make([]byte, blockBytes)} {
			if got := macs.Of(key, parts...); got != want {
				t.Errorf("%s: %s", name, digits(got))
			}
		}
		if macs.Of(make([]byte, blockBytes+1), parts...) == want {
			t.Error("by more noughts than a block has")
		}
	}
}

// P8.1: each byte of a key, at each place, counts as it is: each is taken against another one, those behind the key too.
func TestEachBitOfTheKey(t *testing.T) {
	for _, count := range []int{1, 32, 63, 64, 65, 130} {
		key := drawn(count)
		had := map[api.Sum]int{macs.Of(key, []byte("abc")): -1}
		for bit := range 8 * count {
			key[bit/8] ^= 1 << (bit % 8)
			check(t, key, []byte("abc"))
			got := macs.Of(key, []byte("abc"))
			if other, there := had[got]; there {
				t.Errorf("by %d bytes: bits %d and %d", count, bit, other)
			}
			had[got] = bit
			key[bit/8] ^= 1 << (bit % 8)
		}
	}
}

// P8.1: at every count of bytes, where the block that a sum ends with is just full, or has one fewer, or one more.
func TestEveryCount(t *testing.T) {
	counts := []int{511, 512, 513, 1 << 12, 1<<16 - 1, 1 << 16, 1<<16 + 1, 1<<20 + 9}
	for count := range 330 {
		counts = append(counts, count)
	}
	for _, count := range counts {
		for _, b := range [][]byte{drawn(count), make([]byte, count), bytes.Repeat([]byte{255}, count), bytes.Repeat([]byte{128}, count)} {
			for _, key := range [][]byte{nil, []byte("Jefe"), drawn(64), drawn(65)} {
				check(t, key, b)
			}
		}
	}
}

// P8.1: each bit of a part counts, at each place.
func TestEachBitOfParts(t *testing.T) {
	key := drawn(32)
	for _, count := range []int{1, 55, 64, 65, 130} {
		b := drawn(count)
		for bit := range 8 * count {
			b[bit/8] ^= 1 << (bit % 8)
			check(t, key, b)
			check(t, key, b[:count/2], b[count/2:])
			b[bit/8] ^= 1 << (bit % 8)
		}
	}
}

// P8.1: no parts, parts that are nil or have no bytes, one part, several, and many.
func TestParts(t *testing.T) {
	many := make([][]byte, 1<<16+2)
	for i := range many {
		many[i] = drawn(i % 5)
	}
	lists := [][][]byte{
		nil, {}, {nil}, {{}}, {nil, {}, nil}, {{0}}, {{0}, {0}}, {{1, 2, 3}}, {{1}, {2, 3}}, {{2, 3}, {1}}, {nil, {1, 2, 3}, {}}, {{1}, nil, {2}, {}, {3}},
		{drawn(55), drawn(56), drawn(64)}, {drawn(64), drawn(64)}, {drawn(63), {7}, drawn(64)}, {drawn(70000), {7}}, {{7}, drawn(70000), {8}},
		many[:7], many[:255], many[:256], many[:257], many,
	}
	for _, parts := range lists {
		for _, key := range [][]byte{nil, []byte("Jefe"), drawn(64), drawn(200)} {
			check(t, key, parts...)
		}
	}
}

// P8.1: their order counts, and that a part comes twice.
func TestOrderOfParts(t *testing.T) {
	a, b, key := []byte("a"), []byte("bc"), []byte("key")
	had := map[api.Sum]bool{}
	for _, parts := range [][][]byte{{a, b}, {b, a}, {a}, {b}, {a, a}, {b, b}, {a, b, a}, {a, a, b}, {b, a, a}, nil} {
		check(t, key, parts...)
		had[macs.Of(key, parts...)] = true
	}
	if len(had) != 10 {
		t.Errorf("%d sums", len(had))
	}
}

// P8.1: what is the key and what is summed may not be changed over, and neither is the sum without a key.
func TestKeyIsNoPart(t *testing.T) {
	a, b := []byte("abc"), []byte("abcd")
	if macs.Of(a, b) == macs.Of(b, a) || macs.Of(a, a, b) == macs.Of(b, a, a) || macs.Of(nil, a) == sha256.Sum256(a) || macs.Of(a) == macs.Of(nil, a) {
		t.Error("a key, and a part")
	}
}

// P8.2: no bytes are the same as none, nil or not, and other ones than any.
func TestSameOfNoBytes(t *testing.T) {
	room := drawn(9)
	none := [][]byte{nil, {}, room[:0], room[9:]}
	for _, a := range none {
		for _, b := range none {
			if !macs.Same(a, b) {
				t.Errorf("%v, %v", a, b)
			}
		}
		for _, b := range [][]byte{{0}, {1}, room, make([]byte, 256), make([]byte, 1<<16)} {
			if macs.Same(a, b) || macs.Same(b, a) {
				t.Errorf("none, and %d bytes", len(b))
			}
		}
	}
}

// P8.2: the same bytes, elsewhere, at every count; and one more, or one fewer, whatever it is.
func TestSameAtEveryCount(t *testing.T) {
	counts := []int{511, 512, 513, 1 << 12, 1 << 16, 1<<20 + 9}
	for count := range 270 {
		counts = append(counts, count)
	}
	for _, count := range counts {
		for _, b := range [][]byte{drawn(count), make([]byte, count), bytes.Repeat([]byte{255}, count)} {
			if !macs.Same(b, b) || !macs.Same(b, bytes.Clone(b)) {
				t.Errorf("%d bytes", count)
			}
			for _, more := range [][]byte{{0}, {1}, {255}, make([]byte, 256), make([]byte, 1<<16)} {
				if longer := slices.Concat(b, more); macs.Same(b, longer) || macs.Same(longer, b) {
					t.Errorf("%d bytes, and %d", count, len(longer))
				}
			}
		}
	}
}

// P8.2: the one a head of the other: at every count of bytes, and with room behind it that goes on alike.
func TestSameOfHeads(t *testing.T) {
	for _, b := range [][]byte{drawn(130), make([]byte, 130)} {
		for n := range len(b) + 1 {
			for m := range len(b) + 1 {
				if macs.Same(b[:n], b[:m]) != (n == m) {
					t.Errorf("%d bytes, and %d", n, m)
				}
			}
		}
	}
}

// P8.2: bytes that part in one bit alone, the first, the last, and each one between.
func TestSameButOneBit(t *testing.T) {
	for _, count := range []int{1, 2, 8, 16, 31, 32, 33, 64, 65, 257} {
		b, other := drawn(count), drawn(count)
		for bit := range 8 * count {
			other[bit/8] ^= 1 << (bit % 8)
			if macs.Same(b, other) || macs.Same(other, b) {
				t.Errorf("%d bytes, bit %d", count, bit)
			}
			other[bit/8] ^= 1 << (bit % 8)
		}
		if !macs.Same(b, other) {
			t.Errorf("%d bytes", count)
		}
	}
}

// P8.2: bytes that part at several places, whether what they part by is alike, or the other way round, or as much as goes round.
func TestSameButSeveral(t *testing.T) {
	for _, count := range []int{2, 32, 33, 255, 256, 257, 512, 1 << 16} {
		for _, by := range []byte{1, 2, 15, 127, 128, 254, 255} {
			b := drawn(count)
			other := bytes.Clone(b)
			for i := range other {
				other[i] ^= by
			}
			checkSame(t, b, other)
			first, last := bytes.Clone(b), bytes.Clone(b)
			first[0], last[count-1] = b[0]^by, b[count-1]^by
			checkSame(t, first, last)
			checkSame(t, b, first)
			checkSame(t, b, last)
			both := bytes.Clone(b)
			both[0], both[count-1] = b[0]+by, b[count-1]-by
			checkSame(t, b, both)
		}
	}
}

// P8.2: the same bytes in another order are others.
func TestSameInOrder(t *testing.T) {
	for _, texts := range [][2]string{{"ab", "ba"}, {"abc", "bca"}, {"aab", "aba"}, {"\x00\x01", "\x01\x00"}, {"\x00\x00\x01", "\x01\x00\x00"}} {
		checkSame(t, []byte(texts[0]), []byte(texts[1]))
	}
}

// P8.2: all of one byte, and of two, against each other.
func TestSameOfSmall(t *testing.T) {
	for a := range 256 {
		for b := range 256 {
			checkSame(t, []byte{byte(a)}, []byte{byte(b)})
			checkSame(t, []byte{7, byte(a)}, []byte{7, byte(b)})
			checkSame(t, []byte{byte(a), byte(b)}, []byte{byte(b), byte(a)})
		}
	}
}

// P8.2: as the layers above ask: whether a sum by a key is the one that came.
func TestSameOfSums(t *testing.T) {
	sum, again, other := macs.Of([]byte("key"), []byte("abc")), macs.Of([]byte("key"), []byte("ab"), []byte("c")), macs.Of([]byte("kez"), []byte("abc"))
	if !macs.Same(sum[:], again[:]) || macs.Same(sum[:], other[:]) || macs.Same(sum[:], again[:31]) || macs.Same(sum[:16], sum[16:]) {
		t.Error("sums")
	}
}

// P8.3: wherever the bytes are parted, once or twice, parts of no bytes among them, the sum is the same.
func TestParted(t *testing.T) {
	for _, key := range [][]byte{nil, []byte("Jefe"), drawn(64), drawn(65)} {
		for _, count := range []int{0, 1, 2, 55, 56, 63, 64, 65, 119, 120, 127, 128, 129, 200} {
			b := drawn(count)
			want := macs.Of(key, b)
			check(t, key, b)
			for first := range count + 1 {
				if macs.Of(key, b[:first], b[first:]) != want || macs.Of(key, nil, b[:first], []byte{}, nil, b[first:], nil) != want {
					t.Errorf("%d bytes, parted behind %d", count, first)
				}
				for _, second := range []int{first, min(first+1, count), min(first+64, count), (first + count) / 2, count} {
					if macs.Of(key, b[:first], b[first:second], b[second:]) != want {
						t.Errorf("%d bytes, parted behind %d and %d", count, first, second)
					}
				}
			}
		}
	}
}

// P8.3: byte by byte, and by parts of each count, more than a block among them.
func TestPartedEvenly(t *testing.T) {
	key, b := drawn(40), drawn(1000)
	want := right(key, b)
	for each := 1; each <= 300; each++ {
		if got := macs.Of(key, slices.Collect(slices.Chunk(b, each))...); got != want {
			t.Errorf("by %d: %s", each, digits(got))
		}
	}
}

// P8.3: bytes 0 behind a key that has fewer than 64 make no difference, up to 64; with more of them it is another key, its own sum.
func TestNoughtsBehindTheKey(t *testing.T) {
	for _, parts := range [][][]byte{nil, {[]byte("abc")}, {drawn(64), nil, drawn(65)}} {
		for _, ends := range []byte{0, 1, 255} {
			for count := range blockBytes + 1 {
				key := drawn(count)
				if count > 0 {
					key[count-1] = ends
				}
				want := right(key, parts...)
				for noughts := range blockBytes - count + 1 {
					if got := macs.Of(behind(key, noughts), parts...); got != want {
						t.Errorf("%d bytes, and %d noughts: %s", count, noughts, digits(got))
					}
				}
				for _, all := range []int{65, 66, 127, 128, 129, 200} {
					longer := behind(key, all-count)
					sum := sha256.Sum256(longer)
					if got := macs.Of(longer, parts...); got == want || got != right(sum[:], parts...) {
						t.Errorf("%d bytes, and noughts up to %d: %s", count, all, digits(got))
					}
				}
			}
		}
	}
}

// P8.3: of a key that has 64 bytes or more each byte 0 behind it makes another one.
func TestNoughtsBehindLongKeys(t *testing.T) {
	for _, count := range []int{64, 65, 66, 128, 200} {
		had := map[api.Sum]int{}
		for noughts := range 70 {
			key := behind(drawn(count), noughts)
			check(t, key, []byte("abc"))
			had[macs.Of(key, []byte("abc"))]++
		}
		if len(had) != 70 {
			t.Errorf("by %d bytes: %d sums", count, len(had))
		}
	}
}

// P8.3: bytes 0 ahead of a key, and within it, make another one.
func TestNoughtsElsewhere(t *testing.T) {
	had := map[api.Sum]int{}
	for noughts := range 60 {
		had[macs.Of(append(make([]byte, noughts), "key"...), []byte("abc"))]++
		had[macs.Of(append(behind([]byte("k"), noughts+1), "ey"...), []byte("abc"))]++
	}
	if len(had) != 120 {
		t.Errorf("%d sums", len(had))
	}
}

// P8.1, P8.3: a key of more than 64 bytes is as its sum, with bytes 0 behind that, or without; one of 64 is not.
func TestLongKeyIsItsSum(t *testing.T) {
	for _, count := range append([]int{63, 64}, keyCounts...) {
		key := drawn(count)
		sum := sha256.Sum256(key)
		for _, noughts := range []int{0, 1, 31, 32} {
			if got := macs.Of(key, []byte("abc")) == macs.Of(behind(sum[:], noughts), []byte("abc")); got != (count > blockBytes) {
				t.Errorf("by %d bytes, as by their sum: %v", count, got)
			}
		}
		if count > blockBytes && macs.Of(key, []byte("abc")) == macs.Of(key[:blockBytes], []byte("abc")) {
			t.Errorf("by %d bytes, as by 64 of them", count)
		}
	}
}

// R4: what is handed in is not changed, its spare room neither: that of the key, of the parts, and of their list. (What is behind a part is never the next one: who joins parts in its room would be seen.)
func TestHandedInStaysAsItIs(t *testing.T) {
	for _, count := range keyCounts {
		room, rest := drawn(count+200), drawn(400)
		was, restWas := bytes.Clone(room), bytes.Clone(rest)
		for _, have := range []int{0, 1, 55, 64, 130} {
			parts := [][]byte{rest[:have], rest[have+20 : have+29], nil, {}, rest[200:210], rest[300:]}
			for some := range len(parts) + 1 {
				macs.Of(room[:count], parts[:some]...)
			}
			macs.Of(room[:count], room[:count], room[count+1:])
			macs.Same(room[:have], rest[:have])
			macs.Same(room[:have], rest[:have+1])
			macs.Same(rest[:have+1], room[:have])
			if !bytes.Equal(parts[0], restWas[:have]) || !bytes.Equal(parts[1], restWas[have+20:have+29]) || parts[2] != nil || parts[3] == nil || len(parts[3]) > 0 || !bytes.Equal(parts[4], restWas[200:210]) || !bytes.Equal(parts[5], restWas[300:]) {
				t.Errorf("%d: the parts have changed: %v", have, parts)
			}
		}
		if !bytes.Equal(room, was) || !bytes.Equal(rest, restWas) {
			t.Errorf("by %d bytes: the bytes have changed", count)
		}
	}
}

// R4: spare room is not summed, nor held against anything.
func TestRoomDoesNotCount(t *testing.T) {
	for _, count := range []int{0, 1, 32, 63, 64, 65, 100} {
		room, other := drawn(300), behind(drawn(300)[:count], 300)
		if macs.Of(room[:count], []byte("x")) != macs.Of(other[:count:count], []byte("x")) || macs.Of([]byte("x"), room[:count]) != macs.Of([]byte("x"), other[:count:count]) {
			t.Errorf("Of %d bytes", count)
		}
		if !macs.Same(room[:count], other[:count]) {
			t.Errorf("Same of %d bytes", count)
		}
	}
}

// R4: the key and the parts may be the same memory.
func TestSharedMemory(t *testing.T) {
	for _, count := range []int{1, 32, 64, 65, 200} {
		b := drawn(count)
		check(t, b, b)
		check(t, b, b, b)
		check(t, b[:count/2], b, b[count/2:])
		checkSame(t, b[1:], b[:count-1])
	}
}

// R4, R5: nothing is kept: who writes over a key, or over a part, changes no other answer; and what was asked in between does not count.
func TestNothingIsKept(t *testing.T) {
	key, part := drawn(40), drawn(70)
	want := right(key, part)
	for i := range 100 {
		if got := macs.Of(key, part); got != want {
			t.Fatalf("%d: %s", i, digits(got))
		}
		key[i%40] ^= 0xa5
		check(t, key, part)
		key[i%40] ^= 0xa5
		part[i%70] ^= 0x5a
		check(t, key, part)
		part[i%70] ^= 0x5a
		check(t, key[:i%40], part[:i%70])
		check(t, drawn(65+i), part)
		macs.Same(key, part)
	}
}

// R5: who asks at the same time as others is answered alike.
func TestAskedAtOnce(t *testing.T) {
	var wait sync.WaitGroup
	for i := range 8 {
		wait.Go(func() {
			for j := range 200 {
				key, part := drawn(i*13+j), drawn(i+j)
				if macs.Of(key, part, key) != right(key, part, key) || !macs.Same(part, drawn(i+j)) || macs.Same(part, key) != same(part, key) {
					t.Errorf("by %d bytes, of %d", len(key), len(part))
				}
			}
		})
	}
	wait.Wait()
}

// R1, R5: at any bytes nothing panics, and all answers are right ones, the second time too.
func FuzzMacs(f *testing.F) {
	f.Add([]byte(nil), []byte(nil), []byte(nil))
	f.Add([]byte("Jefe"), []byte("what do ya want "), []byte("for nothing?"))
	f.Add(drawn(64), drawn(55), []byte{0})
	f.Add(drawn(65), drawn(64), drawn(64))
	f.Add([]byte{1, 0}, []byte{1}, []byte{1, 0})
	f.Fuzz(func(t *testing.T, key, a, b []byte) {
		for range 2 {
			check(t, key)
			check(t, key, a, b)
			check(t, key, a, nil, b, a)
			checkSame(t, a, b)
			checkSame(t, a, bytes.Clone(a))
			if macs.Of(key, a, b) != macs.Of(key, slices.Concat(a, b)) {
				t.Errorf("by %v: %v, %v: parted", key, a, b)
			}
			if noughts := blockBytes - len(key); noughts >= 0 && macs.Of(key, a) != macs.Of(behind(key, noughts), a) {
				t.Errorf("by %v: %v: noughts", key, a)
			}
		}
	})
}

// The layers above sum by keys for each packet, and for all that is sealed.
func BenchmarkOf(b *testing.B) {
	key := drawn(32)
	for name, list := range map[string][]byte{"none": nil, "sum": drawn(32), "most": drawn(api.MaxBytes)} {
		b.Run(name, func(b *testing.B) {
			b.SetBytes(int64(len(list)))
			for b.Loop() {
				macs.Of(key, list)
			}
		})
	}
}

func BenchmarkSame(b *testing.B) {
	one, other := drawn(32), drawn(32)
	for b.Loop() {
		macs.Same(one, other)
	}
}
