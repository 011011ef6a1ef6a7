package keymats_test

import (
	"bytes"
	"crypto/hkdf"
	"crypto/hmac"
	"crypto/sha256"
	"encoding/hex"
	"math"
	"slices"
	"strings"
	"sync"
	"testing"

	"burrow/api"
	"burrow/keymats"
)

const (
	sumBytes  = 32   // of a T
	mostBytes = 8160 // that may be asked for
	keysBytes = 48   // of the keys at a place
)

// counts of bytes at which a T ends, or is cut, or keys are, and the most.
var counts = []int{0, 1, 2, 15, 16, 31, 32, 33, 47, 48, 49, 63, 64, 65, 95, 96, 97, 192, 255, 256, 257, 1000, 4095, 4096, 4097, mostBytes - 33, mostBytes - 32, mostBytes - 31, mostBytes - 1, mostBytes}

// greatest is the greatest long number.
var greatest = api.Num{math.MaxUint64, math.MaxUint64, math.MaxUint64, math.MaxUint64}

// long answers the 32 bytes of a number, the highest ahead.
func long(n api.Num) []byte {
	b := make([]byte, 32)
	for i := range b {
		b[31-i] = byte(n[i/8] >> (i % 8 * 8))
	}
	return b
}

// right answers the bytes by the library, which all answers are held against.
func right(t testing.TB, shared api.Num, id api.Sum, count int) []byte {
	t.Helper()
	b, err := hkdf.Key(sha256.New, long(shared), id[:], "lane", count)
	if err != nil {
		t.Fatal(err)
	}
	return b
}

// mac answers the sum of the parts by the key, by the library.
func mac(key []byte, parts ...[]byte) []byte {
	h := hmac.New(sha256.New, key)
	h.Write(bytes.Join(parts, nil))
	return h.Sum(nil)
}

// spelt answers what the chapter says of the bytes: as many of T1, T2, and so on.
func spelt(shared api.Num, id api.Sum, count int) []byte {
	k := mac(id[:], long(shared))
	var all, last []byte
	for i := 1; len(all) < count; i++ {
		last = mac(k, last, []byte("lane"), []byte{byte(i)})
		all = append(all, last...)
	}
	return all[:count]
}

// unhex answers the bytes of the digits of 16, whatever room is between them.
func unhex(digits string) []byte {
	b, err := hex.DecodeString(strings.Join(strings.Fields(digits), ""))
	if err != nil {
		panic(err)
	}
	return b
}

// drawn answers bytes without a pattern, the same ones each time.
func drawn(count int) []byte {
	b := make([]byte, count)
	state := uint64(count) + 1
	for i := range b {
		state = state*6364136223846793005 + 1442695040888963407
		b[i] = byte(state >> 56)
	}
	return b
}

// session answers one without a pattern, another one for each n.
func session(n int) api.Sum { return api.Sum(drawn(n + 32)[n:]) }

// full answers a session of the byte alone.
func full(x byte) api.Sum { return api.Sum(bytes.Repeat([]byte{x}, 32)) }

// bit answers the number that has one bit alone.
func bit(n int) api.Num {
	var a api.Num
	a[n/64] = 1 << (n % 64)
	return a
}

// number answers a long number without a pattern, another one for each n.
func number(n int) api.Num {
	var a api.Num
	for i, x := range drawn(n + 32)[n:] {
		a[i/8] = a[i/8]<<8 | uint64(x)
	}
	return a
}

// mustOf answers so many bytes, which there are.
func mustOf(t testing.TB, shared api.Num, id api.Sum, count int) []byte {
	t.Helper()
	b, e := keymats.Of(shared, id, count)
	if e != api.OK || len(b) != count {
		t.Fatalf("%d bytes of %x for %x: %d, %v", count, shared, id, len(b), e)
	}
	return b
}

// check holds so many bytes against the library, and against what the chapter says.
func check(t testing.TB, shared api.Num, id api.Sum, count int) {
	t.Helper()
	got := mustOf(t, shared, id, count)
	if !bytes.Equal(got, right(t, shared, id, count)) || !bytes.Equal(got, spelt(shared, id, count)) {
		t.Errorf("%d bytes of %x for %x: %x", count, shared, id, got[:min(count, 70)])
	}
}

// checkCut holds the keys at a place against the bytes, by the chapter's words, in numbers that do not go round.
func checkCut(t testing.TB, b []byte, place int) {
	t.Helper()
	var want api.Keys
	wantE := api.OK
	switch {
	case place < 0:
		wantE = api.ErrArg
	case place > len(b) || 48*place+48 > len(b):
		wantE = api.ErrShort
	default:
		want = api.Keys{Mac: api.Sum(b[48*place : 48*place+32]), Cipher: [16]byte(b[48*place+32 : 48*place+48])}
	}
	if got, e := keymats.Cut(b, place); got != want || e != wantE {
		t.Errorf("of %d bytes at %d: %x, %v, want %x, %v", len(b), place, got, e, want, wantE)
	}
}

// The chapter's table of examples.
func TestExamples(t *testing.T) {
	for _, shared := range []api.Num{{}, {5}, greatest} {
		for _, id := range []api.Sum{{}, full(255), session(1)} {
			if b, e := keymats.Of(shared, id, 0); len(b) != 0 || e != api.OK {
				t.Errorf("Of 0: %x, %v", b, e)
			}
			if b, e := keymats.Of(shared, id, 8161); len(b) != 0 || e != api.ErrLimit {
				t.Errorf("Of 8161: %d bytes, %v", len(b), e)
			}
		}
	}
	for _, b := range [][]byte{make([]byte, 48), drawn(48)} {
		if k, e := keymats.Cut(b, 1); k != (api.Keys{}) || e != api.ErrShort {
			t.Errorf("Cut: %x, %v", k, e)
		}
	}
}

// P10.1: bytes that another program told.
func TestToldBytes(t *testing.T) {
	for _, c := range []struct {
		shared           api.Num
		id               api.Sum
		first, last, sum string
	}{
		{api.Num{5}, api.Sum{},
			"6f8d81b4b4af75818c3994eb61fc475908f5c348df18a5af6e9a6e9d9769ad51 cbad13f6df2e32c72a4f87707a7bd883b3be2b17e668827c73b1bae10d9802be de1366201c4bd3525da3f8adaf76b9ad76b587a0cc3e3549c870a72295db23a8 0ae4480d",
			"edcd218913223aa235e2bddaba271c0e1c546123904ae224578c9a8af14716dd", "e121f77bf8f701e3e69742165e39d9837fdecf35700a7de1ed2981d48956d43d"},
		{api.Num{}, api.Sum{},
			"64e121ef1a8d615925c7a20abd94eceb1df49ee5cb0d65e4ced5ea544c794490 7fb22c9d9b88d6d2bb8dfe381c8918b0ec4424680a7f53296c4d9883a9a2c24d b4940364a9239764014c25c3cd7ec6b4b73a1d064b5e5877cd6a4a02e87eba86 b29934b7",
			"e71d004a4d8470748ea884be3977814bb066fd72ba71cc09b3f71d3154c391d1", "a629cca662a75cafb17b3f5a8c3ff37351eb432632f6bc936e68644474ffc371"},
		{greatest, full(255),
			"adec0d35a2620058c7e48c36d732951067f6396ba6df8cf7af0c22ff0f901c0e 1b50e209625c1cac21d7a281eb1016d408233d2af171936b3d07490777d428b0 3df5f9f9ba9854dd2e2c29c9b4c2d71e17f677367134082cfb230af0fc594f69 5b461eed",
			"99d47b37d735ecff19afe2b014187d9bb68777085ac971345f387bff0a405002", "56a607439de3fd4de7b45f27bd68bd17888ce51af2abfe1e1c35efd6a1cec78b"},
		{api.Num{7, 8}, api.Sum{1, 2, 3},
			"3b3d275d07ef3df3bd5885735bf29a470227395d80796d3377d832aa5d9adf2a 6fe1057dbac948b097402a9b70a384c207df5a7af5932a0037fa05e88de8fa5b 86f5cebc4d9299f4dd95c59f5c4eb488752cd9e21d52829c15f2e7d65daa1546 088db424",
			"eccb18296f390a658e0a722e314a8a84968aac7e9f49969d057c1937596dcd30", "36001c3601f4a46a628047ed0c5e1c7e5490748f47957a817e737d9566866cf2"},
		{api.Num{4, 3, 2, 1}, api.Sum(unhex("000102030405060708090a0b0c0d0e0f101112131415161718191a1b1c1d1e1f")),
			"ca61cd64de77114c1d332c51939345c2ad4d530dcf14000c6c9f5f00991a9c86 0fb13ad88f0dbb23b88c29ff9ef2d6ee9f483fa5f8183488651850271fa6edb7 2d8d6384e1fbc328b11b74da0723ec9139656422e5f7bddb840eb2de3082ab46 67f96bb7",
			"c706379bcd66765cd6be954d652d9564d770ee7706e5ab59afec8b8988ac71d2", "a23b275e03a4d6b12c3b3fd966e583480a27495b631667a2bc6963cf94362a83"},
	} {
		all := mustOf(t, c.shared, c.id, mostBytes)
		if sum := sha256.Sum256(all); !bytes.Equal(sum[:], unhex(c.sum)) || !bytes.HasPrefix(all, unhex(c.first)) || !bytes.HasSuffix(all, unhex(c.last)) {
			t.Errorf("of %x for %x: %x .. %x", c.shared, c.id, all[:100], all[mostBytes-sumBytes:])
		}
		if got := mustOf(t, c.shared, c.id, 100); !bytes.Equal(got, unhex(c.first)) {
			t.Errorf("of %x for %x: %x", c.shared, c.id, got)
		}
	}
}

// P10.1: below 0 it is ErrArg, down to the lowest number there is; above 8160 ErrLimit, up to the greatest one.
func TestCountsThatMayNotBe(t *testing.T) {
	wrong := map[int]api.Errno{}
	for _, n := range []int{-1, -2, -31, -32, -33, -8160, -8161, -1 << 16, -1 << 31, math.MinInt + 1, math.MinInt} {
		wrong[n] = api.ErrArg
	}
	for _, n := range []int{8161, 8162, 8191, 8192, 8193, 1 << 16, 1<<16 + 1, 1<<31 - 1, 1 << 31, 1<<32 + 1, math.MaxInt - 31, math.MaxInt - 1, math.MaxInt} {
		wrong[n] = api.ErrLimit
	}
	for n, want := range wrong {
		for _, shared := range []api.Num{{}, {5}, greatest, number(3)} {
			for _, id := range []api.Sum{{}, full(255), session(4)} {
				if b, e := keymats.Of(shared, id, n); len(b) != 0 || e != want {
					t.Errorf("%d: %d bytes, %v", n, len(b), e)
				}
			}
		}
	}
}

// P10.1: at every count of bytes there may be.
func TestEveryCount(t *testing.T) {
	shared, id := number(5), session(6)
	all := right(t, shared, id, mostBytes)
	for n := range mostBytes + 1 {
		if got := mustOf(t, shared, id, n); !bytes.Equal(got, all[:n]) {
			t.Fatalf("%d bytes: %x ..", n, got[:min(n, 70)])
		}
	}
}

// P10.1: each T is the sum, by K, of the one ahead of it as this answers it, the text, and its place; the first one has none ahead.
func TestEachTByTheOneAhead(t *testing.T) {
	for _, shared := range []api.Num{{}, {5}, greatest, number(7)} {
		for _, id := range []api.Sum{{}, full(255), session(8)} {
			k := mac(id[:], long(shared))
			all := mustOf(t, shared, id, mostBytes)
			if want := mac(k, []byte("lane\x01")); !bytes.Equal(all[:sumBytes], want) {
				t.Errorf("T1 of %x for %x: %x, want %x", shared, id, all[:sumBytes], want)
			}
			for i := 2; i <= 255; i++ {
				to := i * sumBytes
				want := mac(k, all[to-2*sumBytes:to-sumBytes], []byte("lane"), []byte{byte(i)})
				if !bytes.Equal(all[to-sumBytes:to], want) {
					t.Errorf("T%d of %x for %x: %x, want %x", i, shared, id, all[to-sumBytes:to], want)
				}
			}
		}
	}
}

// P10.1: no two Ts are the same, of one shared number or of several, for one session or several.
func TestNoTwoAlike(t *testing.T) {
	had := map[api.Sum]int{}
	for n, shared := range []api.Num{{}, {1}, {5}, {0, 5}, {0, 0, 0, 5}, greatest, number(9)} {
		for m, id := range []api.Sum{{}, {5}, {31: 5}, full(255), session(10)} {
			for b := range slices.Chunk(mustOf(t, shared, id, mostBytes), sumBytes) {
				if other, there := had[api.Sum(b)]; there {
					t.Fatalf("the numbers %d, %d: T was that of %d", n, m, other)
				}
				had[api.Sum(b)] = n*100 + m
			}
		}
	}
}

// P10.1: shared numbers of 0, of one bit at each place, and the greatest one, but for one bit too.
func TestEachBitOfTheShared(t *testing.T) {
	list := []api.Num{{}, greatest, {1}, {math.MaxUint64}, {0, 0, 0, math.MaxUint64}, number(11)}
	for n := range 256 {
		but := greatest
		but[n/64] ^= 1 << (n % 64)
		list = append(list, bit(n), but)
	}
	for _, id := range []api.Sum{{}, full(255), session(12)} {
		had := map[string]bool{}
		for _, shared := range list {
			check(t, shared, id, 100)
			had[string(mustOf(t, shared, id, sumBytes))] = true
		}
		// The number 1 is one of one bit alone.
		if len(had) != len(list)-1 {
			t.Errorf("for %x: of %d numbers %d", id, len(list)-1, len(had))
		}
	}
}

// P10.1: sessions of bytes 0, of bytes 255, of one bit at each place, and of one bit less.
func TestEachBitOfTheSession(t *testing.T) {
	list := []api.Sum{{}, full(255), full(1), full(54), full(92), session(13)}
	for n := range 256 {
		one, but := full(0), full(255)
		one[n/8] ^= 1 << (n % 8)
		but[n/8] ^= 1 << (n % 8)
		list = append(list, one, but)
	}
	for _, shared := range []api.Num{{}, greatest, number(14)} {
		had := map[string]bool{}
		for _, id := range list {
			check(t, shared, id, 100)
			had[string(mustOf(t, shared, id, sumBytes))] = true
		}
		if len(had) != len(list) {
			t.Errorf("of %x: for %d sessions %d", shared, len(list), len(had))
		}
	}
}

// P10.1: numbers and sessions of each kind, each by each, at the counts that are named.
func TestNumbersAndSessions(t *testing.T) {
	for _, shared := range []api.Num{{}, {1}, {0, 1}, {0, 0, 1}, {0, 0, 0, 1}, {4, 3, 2, 1}, greatest, number(15), number(16)} {
		for _, id := range []api.Sum{{}, {1}, {31: 1}, full(255), session(17), session(18)} {
			for _, count := range counts {
				if count <= 257 || count == mostBytes {
					check(t, shared, id, count)
				}
			}
		}
	}
	for n := range 200 {
		check(t, number(n), session(2*n), n)
		check(t, number(2*n), session(n), mostBytes-n)
	}
}

// P10.1: the number is no session: what are the same bytes may not be changed over.
func TestSharedIsNoSession(t *testing.T) {
	a, b := number(19), number(20)
	idA, idB := api.Sum(long(a)), api.Sum(long(b))
	if bytes.Equal(mustOf(t, a, idB, 32), mustOf(t, b, idA, 32)) {
		t.Error("the number, and the session")
	}
	check(t, a, idA, 96)
	check(t, a, idB, 96)
	check(t, b, idA, 96)
}

// P10.2: at places below 0 it is ErrArg, of however many bytes; at the greatest ones there are ErrShort.
func TestPlacesThatMayNotBe(t *testing.T) {
	for _, count := range append([]int{1 << 16, 1<<20 + 5}, counts...) {
		b := drawn(count)
		for _, place := range []int{-1, -2, -47, -48, -49, -count, -1 << 31, -1 << 58, math.MinInt / 48, math.MinInt/48 - 1, math.MinInt/48 + 1, math.MinInt / 16, math.MinInt + 1, math.MinInt} {
			if k, e := keymats.Cut(b, place); k != (api.Keys{}) || place < 0 && e != api.ErrArg {
				t.Errorf("of %d bytes at %d: %x, %v", count, place, k, e)
			}
		}
		for _, place := range []int{count/48 + 1, count + 1, 1<<31 - 1, 1 << 31, 1 << 32, 1<<58 - 1, 1 << 58, 1 << 59, 1 << 60, 1<<60 + 1, 1 << 61, 1 << 62, math.MaxInt / 48, math.MaxInt/48 + 1, math.MaxInt/48 + 2, math.MaxInt/24 + 1, math.MaxInt/16 + 1, math.MaxInt - 1, math.MaxInt} {
			if k, e := keymats.Cut(b, place); k != (api.Keys{}) || e != api.ErrShort {
				t.Errorf("of %d bytes at %d: %x, %v", count, place, k, e)
			}
		}
	}
}

// P10.2: places that, 48 times, go round to a place within the bytes, where numbers have 64 bits: it is ErrShort.
func TestPlacesThatGoRound(t *testing.T) {
	const third = 0xaaaaaaaaaaaaaaab // 3 times as many go round to 1
	b := drawn(48 * 100)
	for within := uint64(0); within < 48*100; within += 16 {
		// 16 times 2^60 go round to 0, so there are eight such places up to the greatest one.
		first := within / 16 * third % (1 << 60)
		for round := range uint64(8) {
			place := first + round<<60
			if 48*place != within {
				t.Fatalf("48 times %d is not %d", place, within)
			}
			checkCut(t, b, int(place))
		}
	}
}

// P10.2: of nil, and of no bytes with room behind them, there are none.
func TestCutOfNone(t *testing.T) {
	room := drawn(200)
	for name, b := range map[string][]byte{"nil": nil, "empty": {}, "room": room[:0], "behind": room[200:]} {
		for _, place := range []int{0, 1, 2, math.MaxInt} {
			if k, e := keymats.Cut(b, place); k != (api.Keys{}) || e != api.ErrShort {
				t.Errorf("%s at %d: %x, %v", name, place, k, e)
			}
		}
		if k, e := keymats.Cut(b, -1); k != (api.Keys{}) || e != api.ErrArg {
			t.Errorf("%s below 0: %x, %v", name, k, e)
		}
	}
}

// P10.2: of every count of bytes up to some places, at each place, the last one of which there are 48 bytes and the next one among them.
func TestCutAtEachPlace(t *testing.T) {
	for count := range 6*keysBytes + 2 {
		for place := -2; place <= 8; place++ {
			checkCut(t, drawn(count), place)
		}
	}
	for _, count := range append([]int{48 * 170, 48*170 - 1, 48*170 + 1, 48*171 - 1, 48 * 171, 1 << 16}, counts...) {
		last := count / keysBytes
		for _, place := range []int{0, 1, last - 2, last - 1, last, last + 1, 255, 256} {
			checkCut(t, drawn(count), place)
			checkCut(t, make([]byte, count), place)
			checkCut(t, bytes.Repeat([]byte{255}, count), place)
		}
	}
}

// P10.2: with one byte too few, or 47, it is ErrShort, though there be room behind the bytes that has as many.
func TestRoomDoesNotCount(t *testing.T) {
	room := drawn(500)
	for place := range 9 {
		whole := keysBytes * (place + 1)
		for few := 1; few <= keysBytes; few++ {
			if k, e := keymats.Cut(room[:whole-few], place); k != (api.Keys{}) || e != api.ErrShort {
				t.Errorf("at %d, with %d too few: %x, %v", place, few, k, e)
			}
		}
		checkCut(t, room[:whole], place)
		checkCut(t, room[:whole:whole], place)
		checkCut(t, room[:whole+1], place)
		checkCut(t, room[20:20+whole], place)
	}
}

// P10.2: each byte of a key stands at its place, and nowhere else.
func TestEachByteOfKeys(t *testing.T) {
	for place := range 5 {
		for n := range 5 * keysBytes {
			b := make([]byte, 5*keysBytes)
			b[n] = 7
			var want api.Keys
			if at := n - keysBytes*place; at >= 0 && at < 32 {
				want.Mac[at] = 7
			} else if at >= 32 && at < keysBytes {
				want.Cipher[at-32] = 7
			}
			if got, e := keymats.Cut(b, place); got != want || e != api.OK {
				t.Errorf("the byte %d, at %d: %x, %v", n, place, got, e)
			}
		}
	}
}

// P10.3: fewer bytes are the beginning of more.
func TestBeginnings(t *testing.T) {
	for _, shared := range []api.Num{{}, greatest, number(21)} {
		for _, id := range []api.Sum{{}, full(255), session(22)} {
			for _, more := range counts {
				all := mustOf(t, shared, id, more)
				for _, fewer := range counts {
					if got := mustOf(t, shared, id, min(fewer, more)); !bytes.Equal(got, all[:min(fewer, more)]) {
						t.Errorf("%d bytes, and %d, of %x for %x", fewer, more, shared, id)
					}
				}
			}
		}
	}
}

// P10.3: keys at unlike places are of bytes that do not overlap: each byte is of one key at most, and all of them, put together again, are the bytes.
func TestKeysDoNotOverlap(t *testing.T) {
	for _, count := range []int{192, 48 * 9, 48*9 + 47, mostBytes} {
		b := mustOf(t, number(23), session(24), count)
		keys := func(place int) string {
			k, e := keymats.Cut(b, place)
			if e != api.OK {
				t.Fatalf("of %d bytes at %d: %v", count, place, e)
			}
			return string(k.Mac[:]) + string(k.Cipher[:])
		}
		had := map[string]bool{}
		var together strings.Builder
		for place := range count / keysBytes {
			had[keys(place)] = true
			together.WriteString(keys(place))
		}
		if together.String() != string(b[:count/keysBytes*keysBytes]) || len(had) != count/keysBytes {
			t.Errorf("of %d bytes, %d unlike keys", count, len(had))
		}
		for n := 0; n < count; n += 7 {
			was := [2]string{keys(0), keys(count/keysBytes - 1)}
			b[n] ^= 0x5a
			if (keys(0) != was[0]) != (n < keysBytes) || (keys(count/keysBytes-1) != was[1]) != (n/keysBytes == count/keysBytes-1) {
				t.Errorf("of %d bytes, the byte %d", count, n)
			}
			b[n] ^= 0x5a
		}
	}
}

// P10.2, P10.3: as the layers above ask: four keys of 192 bytes, and none further.
func TestFourKeys(t *testing.T) {
	shared, id := number(25), session(26)
	b := mustOf(t, shared, id, 192)
	want := spelt(shared, id, 192)
	for place := range 4 {
		k, e := keymats.Cut(b, place)
		if e != api.OK || !bytes.Equal(k.Mac[:], want[48*place:48*place+32]) || !bytes.Equal(k.Cipher[:], want[48*place+32:48*place+48]) {
			t.Errorf("at %d: %x, %v", place, k, e)
		}
	}
	checkCut(t, b, 4)
	checkCut(t, b[:191], 3)
}

// R4: what is handed in is not changed, its spare room neither, and is not kept: who writes over it changes no answer.
func TestHandedInStaysAsItIs(t *testing.T) {
	for _, count := range counts {
		room := drawn(count + 100)
		was := bytes.Clone(room)
		shared, id := number(27), session(28)
		mustOf(t, shared, id, count)
		for place := -1; place <= count/keysBytes+1; place++ {
			keymats.Cut(room[:count], place)
		}
		first, e := keymats.Cut(room[10:count+10:count+50], 0)
		if !bytes.Equal(room, was) || shared != number(27) || id != session(28) {
			t.Errorf("%d bytes", count)
		}
		clear(room)
		if e == api.OK && (!bytes.Equal(first.Mac[:], was[10:42]) || !bytes.Equal(first.Cipher[:], was[42:58])) {
			t.Errorf("%d bytes: the keys have changed", count)
		}
	}
}

// R4: an answer is new memory, its spare room too: it shares none with another answer, nor with what it is asked for next.
func TestAnswerIsNewMemory(t *testing.T) {
	shared, id := number(29), session(30)
	for _, count := range counts {
		one, other := mustOf(t, shared, id, count), mustOf(t, shared, id, count)
		spoil := one[:cap(one)]
		for i := range spoil {
			spoil[i] ^= 0xa5
		}
		if !bytes.Equal(other, right(t, shared, id, count)) {
			t.Errorf("%d bytes: what is written into an answer is seen in another", count)
		}
		check(t, shared, id, count)
		_ = append(other, drawn(100)...)
		check(t, shared, id, count)
	}
	b := drawn(96)
	one, _ := keymats.Cut(b, 1)
	clear(one.Mac[:])
	clear(one.Cipher[:])
	if !bytes.Equal(b, drawn(96)) {
		t.Error("what is written into keys is seen in the bytes")
	}
	checkCut(t, b, 1)
}

// R5: nothing is kept: what was asked in between, other numbers, sessions and errors, does not count.
func TestNothingIsKept(t *testing.T) {
	shared, id := number(31), session(32)
	want := right(t, shared, id, 200)
	for n := range 300 {
		if got := mustOf(t, shared, id, 200); !bytes.Equal(got, want) {
			t.Fatalf("%d: %x", n, got)
		}
		check(t, number(n), id, n)
		check(t, shared, session(n), n)
		keymats.Of(shared, id, -n-1)
		keymats.Of(shared, id, mostBytes+1+n)
		keymats.Cut(want, n-5)
		checkCut(t, want, n%6)
	}
}

// R5: who asks at the same time as others is answered alike.
func TestAskedAtOnce(t *testing.T) {
	var wait sync.WaitGroup
	for i := range 8 {
		wait.Go(func() {
			for j := range 60 {
				shared, id := number(i*13+j), session(i+j)
				b, e := keymats.Of(shared, id, 5*j)
				if e != api.OK || !bytes.Equal(b, spelt(shared, id, 5*j)) {
					t.Errorf("%d bytes of %x for %x: %v", 5*j, shared, id, e)
				}
				checkCut(t, b, i)
			}
		})
	}
	wait.Wait()
}

// R1, R5: at any bytes nothing panics, and all answers are right ones, the second time too.
func FuzzKeymats(f *testing.F) {
	f.Add([]byte(nil), []byte(nil), 0, 0)
	f.Add(drawn(32), bytes.Repeat([]byte{255}, 32), 192, 3)
	f.Add([]byte{5}, drawn(100), 8160, -1)
	f.Add(drawn(49), []byte{1, 2, 3}, 8161, math.MaxInt)
	f.Add(drawn(48), []byte(nil), -1, math.MinInt)
	f.Add(drawn(4800), []byte{9}, math.MaxInt, math.MaxInt/3+1)
	f.Fuzz(func(t *testing.T, a, b []byte, count, place int) {
		var shared api.Num
		for i, x := range a[:min(len(a), 32)] {
			shared[i/8] = shared[i/8]<<8 | uint64(x)
		}
		var id api.Sum
		copy(id[:], b)
		for range 2 {
			switch got, e := keymats.Of(shared, id, count); {
			case count < 0 && e == api.ErrArg && len(got) == 0:
			case count > mostBytes && e == api.ErrLimit && len(got) == 0:
			default:
				check(t, shared, id, count)
				checkCut(t, got, place)
			}
			check(t, shared, id, len(a)%(mostBytes+1))
			checkCut(t, a, place)
			checkCut(t, b, place%(len(b)/keysBytes+2))
		}
	})
}

// The layers above take as many bytes as four keys have.
func BenchmarkOf(b *testing.B) {
	shared, id := number(33), session(34)
	for name, count := range map[string]int{"four": 192, "most": mostBytes} {
		b.Run(name, func(b *testing.B) {
			b.SetBytes(int64(count))
			for b.Loop() {
				keymats.Of(shared, id, count)
			}
		})
	}
}

func BenchmarkCut(b *testing.B) {
	list := drawn(192)
	for b.Loop() {
		keymats.Cut(list, 3)
	}
}
