package ciphers_test

import (
	"bytes"
	"crypto/aes"
	"crypto/cipher"
	"encoding/hex"
	"math/big"
	"slices"
	"strings"
	"sync"
	"testing"

	"burrow/api"
	"burrow/ciphers"
)

const blockBytes = 16

// block of sixteen bytes, as keys, blocks and first numbers are.
type block = [blockBytes]byte

// counts of bytes at which blocks end, or are cut, and many.
var counts = []int{0, 1, 2, 14, 15, 16, 17, 18, 30, 31, 32, 33, 34, 47, 48, 49, 63, 64, 65, 255, 256, 257, 1000, api.MaxBytes - 29, api.MaxBytes - 1, api.MaxBytes, api.MaxBytes + 1, 16 * 255, 16 * 256, 16*257 + 5}

// right answers the block by the library, which all answers are held against.
func right(key, b block) block {
	c, _ := aes.NewCipher(key[:])
	c.Encrypt(b[:], b[:])
	return b
}

// rightBack answers the bytes of the block by the library.
func rightBack(key, b block) block {
	c, _ := aes.NewCipher(key[:])
	c.Decrypt(b[:], b[:])
	return b
}

// rightStream answers the bytes against the library's blocks, by the library's own numbers.
func rightStream(key, first block, b []byte) []byte {
	c, _ := aes.NewCipher(key[:])
	l := make([]byte, len(b))
	cipher.NewCTR(c, first[:]).XORKeyStream(l, b)
	return l
}

// speltStream answers what the chapter says of the bytes: against those of the blocks of first and 0, first and 1, and so on.
func speltStream(key, first block, b []byte) []byte {
	var with []byte
	for i := 0; len(with) < len(b); i++ {
		next := right(key, and(first, int64(i)))
		with = append(with, next[:]...)
	}
	l := make([]byte, len(b))
	for i := range b {
		l[i] = b[i] ^ with[i]
	}
	return l
}

// and answers the number of sixteen bytes, the highest first, and n, which goes round.
func and(number block, n int64) block {
	all := new(big.Int).Add(new(big.Int).SetBytes(number[:]), big.NewInt(n))
	all.Mod(all, new(big.Int).Lsh(big.NewInt(1), 8*blockBytes))
	return block(all.FillBytes(make([]byte, blockBytes)))
}

// times answers both multiplied, as polynomials.
func times(a, b byte) byte {
	all := 0
	for i := range 8 {
		if b>>i&1 == 1 {
			all ^= int(a) << i
		}
	}
	for i := 14; i >= 8; i-- {
		if all>>i&1 == 1 {
			all ^= 0x11b << (i - 8)
		}
	}
	return byte(all)
}

// toldS is S of each byte, as FIPS 197 tells it.
var toldS = unhex(`
	637c777bf26b6fc53001672bfed7ab76 ca82c97dfa5947f0add4a2af9ca472c0 b7fd9326363ff7cc34a5e5f171d83115 04c723c31896059a071280e2eb27b275
	09832c1a1b6e5aa0523bd6b329e32f84 53d100ed20fcb15b6acbbe394a4c58cf d0efaafb434d338545f9027f503c9fa8 51a3408f929d38f5bcb6da2110fff3d2
	cd0c13ec5f974417c4a77e3d645d1973 60814fdc222a908846eeb814de5e0bdb e0323a0a4906245cc2d3ac629195e479 e7c8376d8dd54ea96c56f4ea657aae08
	ba78252e1ca6b4c6e8dd741f4bbd8b8a 703eb5664803f60e613557b986c11d9e e1f8981169d98e949b1e87e9ce5528df 8ca1890dbfe6426841992d0fb054bb16`)

// speltS answers what the chapter says of S of a byte.
func speltS(x byte) byte {
	y := 0
	for i := range 256 {
		if times(x, byte(i)) == 1 {
			y = i
		}
	}
	all := byte(y) ^ 99
	for n := 1; n <= 4; n++ {
		all ^= byte(y<<n | y>>(8-n))
	}
	return all
}

// spelt answers what the chapter says of a block in, by these round keys, all words one behind the other.
func spelt(keys []byte, b block) block {
	against := func(n int) {
		for i := range b {
			b[i] ^= keys[blockBytes*n+i]
		}
	}
	against(0)
	for n := 1; n <= 10; n++ {
		was := b
		for column := range 4 {
			for row := range 4 {
				b[4*column+row] = toldS[was[4*((column+row)%4)+row]]
			}
		}
		for column := 0; n < 10 && column < blockBytes; column += 4 {
			l, by := [4]byte(b[column:]), [4]byte{2, 3, 1, 1}
			for row := range 4 {
				b[column+row] = times(l[0], by[(4-row)%4]) ^ times(l[1], by[(5-row)%4]) ^ times(l[2], by[(6-row)%4]) ^ times(l[3], by[(7-row)%4])
			}
		}
		against(n)
	}
	return b
}

// speltKeys answers what the chapter says of the round keys, all words one behind the other.
func speltKeys(key block) []byte {
	words := slices.Clone(key[:])
	by := byte(1)
	for n := 4; n < 44; n++ {
		x := [4]byte(words[4*n-4:])
		if n%4 == 0 {
			x = [4]byte{toldS[x[1]] ^ by, toldS[x[2]], toldS[x[3]], toldS[x[0]]}
			by = times(by, 2)
		}
		for i := range x {
			words = append(words, words[4*n-16+i]^x[i])
		}
	}
	return words
}

// unhex answers the bytes of the digits of 16, whatever room is between them.
func unhex(digits string) []byte {
	b, err := hex.DecodeString(strings.Join(strings.Fields(digits), ""))
	if err != nil {
		panic(err)
	}
	return b
}

// told answers the sixteen bytes of the digits of 16.
func told(digits string) block { return block(unhex(digits)) }

// drawn answers bytes without a pattern, the same ones each time.
func drawn(count int) []byte {
	b := make([]byte, count)
	state := uint64(count) + 1
	for i := range b {
		state = state*6364136223846793005 + 1442695040888963407
		b[i] = byte(state >> 56)
	}
	return b
}

// drawnBlock answers a block without a pattern, another one for each n.
func drawnBlock(n int) block { return block(drawn(n + blockBytes)[n:]) }

// full answers a block of the byte alone.
func full(x byte) block { return block(bytes.Repeat([]byte{x}, blockBytes)) }

// bit answers a block of one bit alone.
func bit(n int) block {
	var b block
	b[n/8] = 1 << (n % 8)
	return b
}

// number answers the number that ends in these bytes, noughts ahead.
func number(end ...byte) block {
	var b block
	copy(b[blockBytes-len(end):], end)
	return b
}

// some are blocks of each kind that is named.
func some() []block {
	l := []block{full(0), full(255), full(1), full(128), full(99), full(0x52), number(1), told("000102030405060708090a0b0c0d0e0f"), told("00112233445566778899aabbccddeeff")}
	for n := range 128 {
		l = append(l, bit(n))
	}
	for n := range 20 {
		l = append(l, drawnBlock(n))
	}
	return l
}

// check holds Block, and Back, of the bytes, by the key, against the library, and against the bytes.
func check(t *testing.T, key, b block) {
	t.Helper()
	if got := ciphers.Block(key, b); got != right(key, b) || ciphers.Back(key, got) != b {
		t.Errorf("Block of %x by %x: %x, of which Back tells %x", b, key, got, ciphers.Back(key, got))
	}
	if got := ciphers.Back(key, b); got != rightBack(key, b) || ciphers.Block(key, got) != b {
		t.Errorf("Back of %x by %x: %x, of which Block tells %x", b, key, got, ciphers.Block(key, got))
	}
}

// checkStream holds Stream of the bytes against the library, against what the chapter says, and against the bytes.
func checkStream(t *testing.T, key, first block, b []byte) {
	t.Helper()
	got := ciphers.Stream(key, first, b)
	if len(got) != len(b) || !bytes.Equal(got, rightStream(key, first, b)) || !bytes.Equal(got, speltStream(key, first, b)) {
		t.Errorf("of %d bytes by %x from %x on: %d bytes, the first of %x", len(b), key, first, len(got), got[:min(len(got), 4)])
	}
	if !bytes.Equal(ciphers.Stream(key, first, got), b) {
		t.Errorf("of %d bytes by %x from %x on: Stream of Stream", len(b), key, first)
	}
}

// The chapter's table of examples.
func TestExamples(t *testing.T) {
	key, b := told("000102030405060708090a0b0c0d0e0f"), told("00112233445566778899aabbccddeeff")
	if got := ciphers.Block(key, b); got != told("69c4e0d86a7b0430d8cdb78070b4c55a") {
		t.Errorf("Block: %x", got)
	}
	for _, key := range some() {
		for _, b := range [][]byte{nil, {}, drawn(9)[:0]} {
			if got := ciphers.Stream(key, drawnBlock(7), b); len(got) != 0 {
				t.Errorf("none: %x", got)
			}
		}
	}
}

// P9.1: blocks that others have told (FIPS 197, B and C.1; SP 800-38A, F.1.1; AESAVS).
func TestToldBlocks(t *testing.T) {
	for _, c := range []struct{ key, b, want string }{
		{"2b7e151628aed2a6abf7158809cf4f3c", "3243f6a8885a308d313198a2e0370734", "3925841d02dc09fbdc118597196a0b32"},
		{"000102030405060708090a0b0c0d0e0f", "00112233445566778899aabbccddeeff", "69c4e0d86a7b0430d8cdb78070b4c55a"},
		{"2b7e151628aed2a6abf7158809cf4f3c", "6bc1bee22e409f96e93d7e117393172a", "3ad77bb40d7a3660a89ecaf32466ef97"},
		{"2b7e151628aed2a6abf7158809cf4f3c", "ae2d8a571e03ac9c9eb76fac45af8e51", "f5d3d58503b9699de785895a96fdbaaf"},
		{"2b7e151628aed2a6abf7158809cf4f3c", "30c81c46a35ce411e5fbc1191a0a52ef", "43b1cd7f598ece23881b00e3ed030688"},
		{"2b7e151628aed2a6abf7158809cf4f3c", "f69f2445df4f9b17ad2b417be66c3710", "7b0c785e27e8ad3f8223207104725dd4"},
		{"00000000000000000000000000000000", "00000000000000000000000000000000", "66e94bd4ef8a2c3b884cfa59ca342b2e"},
		{"00000000000000000000000000000000", "80000000000000000000000000000000", "3ad78e726c1ec02b7ebfe92b23d9ec34"},
		{"80000000000000000000000000000000", "00000000000000000000000000000000", "0edd33d3c621e546455bd8ba1418bec8"},
	} {
		key, b, want := told(c.key), told(c.b), told(c.want)
		if got := ciphers.Block(key, b); got != want {
			t.Errorf("Block of %s by %s: %x", c.b, c.key, got)
		}
		if got := ciphers.Back(key, want); got != b {
			t.Errorf("Back of %s by %s: %x", c.want, c.key, got)
		}
	}
}

// P9.1: block of block, 10000 times, as others have told it.
func TestToldRepeats(t *testing.T) {
	var b block
	for range 10000 {
		b = ciphers.Block(block{}, b)
	}
	if b != told("c34c052cc0da8d73451afe5f03be297f") {
		t.Errorf("Block: %x", b)
	}
	for range 10000 {
		b = ciphers.Back(block{}, b)
	}
	if b != (block{}) {
		t.Errorf("Back: %x", b)
	}
}

// P9.1: keys and blocks of bytes 0, of bytes 255, of one bit alone at each place, and without a pattern, each by each.
func TestKeysAndBlocks(t *testing.T) {
	for _, key := range some() {
		for _, b := range some() {
			check(t, key, b)
		}
	}
}

// P9.1: S of each byte, 0 among them, at each place: of blocks that are it there against the key, and elsewhere another one.
func TestSOfEachByte(t *testing.T) {
	for x := range 256 {
		if toldS[x] != speltS(byte(x)) {
			t.Fatalf("S of %d", x)
		}
		for _, key := range []block{full(0), full(255), drawnBlock(x)} {
			keys := speltKeys(key)
			b := key
			for i := range b {
				b[i] ^= byte(x)
			}
			if got := ciphers.Block(key, b); got != spelt(keys, b) {
				t.Errorf("S of %d, everywhere, by %x: %x", x, key, got)
			}
			check(t, key, full(byte(x)))
			for i := range b {
				one := full(0)
				one[i] = byte(x)
				if got := ciphers.Block(key, one); got != spelt(keys, one) {
					t.Errorf("S of %d at %d by %x: %x", x, i, key, got)
				}
				check(t, key, one)
			}
		}
	}
}

// P9.1: S of each byte within the round keys: of keys that are it everywhere, and at each place alone.
func TestSWithinRoundKeys(t *testing.T) {
	for x := range 256 {
		keys := []block{full(byte(x))}
		for i := range blockBytes {
			one, but := full(0), drawnBlock(i)
			one[i], but[i] = byte(x), byte(x)
			keys = append(keys, one, but)
		}
		for _, key := range keys {
			for _, b := range []block{full(0), key, drawnBlock(x)} {
				if got := ciphers.Block(key, b); got != spelt(speltKeys(key), b) {
					t.Errorf("Block of %x by %x: %x", b, key, got)
				}
				check(t, key, b)
			}
		}
	}
}

// P9.1: a block is taken in by the round keys that others have told of a key (FIPS 197, A.1, and those of noughts, of bytes 255 and of bytes that rise).
func TestToldRoundKeys(t *testing.T) {
	for _, words := range []string{
		`2b7e151628aed2a6abf7158809cf4f3c a0fafe1788542cb123a339392a6c7605 f2c295f27a96b9435935807a7359f67f 3d80477d4716fe3e1e237e446d7a883b
		ef44a541a8525b7fb671253bdb0bad00 d4d1c6f87c839d87caf2b8bc11f915bc 6d88a37a110b3efddbf98641ca0093fd 4e54f70e5f5fc9f384a64fb24ea6dc4f
		ead27321b58dbad2312bf5607f8d292f ac7766f319fadc2128d12941575c006e d014f9a8c9ee2589e13f0cc8b6630ca6`,
		`00000000000000000000000000000000 62636363626363636263636362636363 9b9898c9f9fbfbaa9b9898c9f9fbfbaa 90973450696ccffaf2f457330b0fac99
		ee06da7b876a1581759e42b27e91ee2b 7f2e2b88f8443e098dda7cbbf34b9290 ec614b851425758c99ff09376ab49ba7 217517873550620bacaf6b3cc61bf09b
		0ef903333ba9613897060a04511dfa9f b1d4d8e28a7db9da1d7bb3de4c664941 b4ef5bcb3e92e21123e951cf6f8f188e`,
		`ffffffffffffffffffffffffffffffff e8e9e9e917161616e8e9e9e917161616 adaeae19bab8b80f525151e6454747f0 090e2277b3b69a78e1e7cb9ea4a08c6e
		e16abd3e52dc2746b33becd8179b60b6 e5baf3ceb766d488045d385013c658e6 71d07db3c6b6a93bc2eb916bd12dc98d e90d208d2fbb89b6ed5018dd3c7dd150
		96337366b988fad054d8e20d68a5335d 8bf03f233278c5f366a027fe0e0514a3 d60a3588e472f07b82d2d7858cd7c326`,
		`000102030405060708090a0b0c0d0e0f d6aa74fdd2af72fadaa678f1d6ab76fe b692cf0b643dbdf1be9bc5006830b3fe b6ff744ed2c2c9bf6c590cbf0469bf41
		47f7f7bc95353e03f96c32bcfd058dfd 3caaa3e8a99f9deb50f3af57adf622aa 5e390f7df7a69296a7553dc10aa31f6b 14f9701ae35fe28c440adf4d4ea9c026
		47438735a41c65b9e016baf4aebf7ad2 549932d1f08557681093ed9cbe2c974e 13111d7fe3944a17f307a78b4d2b30c5`,
	} {
		keys := unhex(words)
		key := block(keys)
		if !bytes.Equal(keys, speltKeys(key)) {
			t.Fatalf("the round keys of %x: %x", key, speltKeys(key))
		}
		for _, b := range some() {
			want := spelt(keys, b)
			if got := ciphers.Block(key, b); got != want {
				t.Errorf("Block of %x by %x: %x", b, key, got)
			}
			if got := ciphers.Back(key, want); got != b {
				t.Errorf("Back of %x by %x: %x", want, key, got)
			}
		}
	}
}

// P9.1: each bit of a key, and of a block, counts: unlike ones have unlike blocks, and unlike bytes.
func TestEachBitCounts(t *testing.T) {
	for n := range 4 {
		key, b := drawnBlock(n), drawnBlock(n+50)
		had := map[block]int{}
		for place := -1; place < 128; place++ {
			var with block
			if place >= 0 {
				with = bit(place)
			}
			other := func(x block) block {
				for i := range x {
					x[i] ^= with[i]
				}
				return x
			}
			had[ciphers.Block(other(key), b)]++
			had[ciphers.Block(key, other(b))]++
			had[ciphers.Back(other(key), b)]++
			had[ciphers.Back(key, other(b))]++
		}
		if len(had) != 2+4*128 {
			t.Errorf("by %x: %d answers", key, len(had))
		}
	}
}

// P9.1: the key is not the block, and Back is not Block.
func TestKeyIsNoBlock(t *testing.T) {
	a, b := drawnBlock(1), drawnBlock(2)
	if ciphers.Block(a, b) == ciphers.Block(b, a) || ciphers.Back(a, b) == ciphers.Back(b, a) || ciphers.Block(a, b) == ciphers.Back(a, b) {
		t.Error("a key, and a block")
	}
}

// P9.3: Back of Block, and Block of Back, are the bytes, by the same key; by another one they are not.
func TestThereAndBack(t *testing.T) {
	for n := range 500 {
		key, b := drawnBlock(n), drawnBlock(3*n+1)
		check(t, key, b)
		if ciphers.Back(ciphers.Block(key, b), b) == b || ciphers.Back(drawnBlock(n+1), ciphers.Block(key, b)) == b {
			t.Errorf("of %x by %x", b, key)
		}
	}
}

// P9.2: streams that others have told (SP 800-38A, F.5.1; RFC 3686's first three).
func TestToldStreams(t *testing.T) {
	for _, c := range []struct{ key, first, b, want string }{
		{"2b7e151628aed2a6abf7158809cf4f3c", "f0f1f2f3f4f5f6f7f8f9fafbfcfdfeff",
			"6bc1bee22e409f96e93d7e117393172a ae2d8a571e03ac9c9eb76fac45af8e51 30c81c46a35ce411e5fbc1191a0a52ef f69f2445df4f9b17ad2b417be66c3710",
			"874d6191b620e3261bef6864990db6ce 9806f66b7970fdff8617187bb9fffdff 5ae4df3edbd5d35e5b4f09020db03eab 1e031dda2fbe03d1792170a0f3009cee"},
		{"ae6852f8121067cc4bf7a5765577f39e", "00000030000000000000000000000001", "53696e676c6520626c6f636b206d7367", "e4095d4fb7a7b3792d6175a3261311b8"},
		{"7e24067817fae0d743d6ce1f32539163", "006cb6dbc0543b59da48d90b00000001",
			"000102030405060708090a0b0c0d0e0f 101112131415161718191a1b1c1d1e1f", "5104a106168a72d9790d41ee8edad388 eb2e1efc46da57c8fce630df9141be28"},
		{"7691be035e5020a8ac6e618529f9a0dc", "00e0017b27777f3f4a1786f000000001",
			"000102030405060708090a0b0c0d0e0f 101112131415161718191a1b1c1d1e1f 20212223", "c1cf48a89f2ffdd9cf4652e9efdb72d7 4540a42bde6d7836d59a5ceaaef31053 25b2072f"},
	} {
		key, first, b, want := told(c.key), told(c.first), unhex(c.b), unhex(c.want)
		if got := ciphers.Stream(key, first, b); !bytes.Equal(got, want) {
			t.Errorf("by %s from %s on: %x", c.key, c.first, got)
		}
		if got := ciphers.Stream(key, first, want); !bytes.Equal(got, b) {
			t.Errorf("back by %s from %s on: %x", c.key, c.first, got)
		}
	}
}

// P9.2: of nil, of no bytes with room behind them or none, there are none.
func TestStreamOfNone(t *testing.T) {
	room := drawn(40)
	for _, first := range []block{full(0), full(255), number(1), drawnBlock(3)} {
		for name, b := range map[string][]byte{"nil": nil, "empty": {}, "room": room[:0], "behind": room[40:]} {
			if got := ciphers.Stream(drawnBlock(2), first, b); len(got) != 0 {
				t.Errorf("%s: %x", name, got)
			}
		}
	}
}

// P9.2: of every count of bytes up to some blocks, and of many.
func TestEveryCount(t *testing.T) {
	all := append([]int{1 << 16, 1<<16 + 1, 1<<20 + 16*3 + 9}, counts...)
	for count := range 200 {
		all = append(all, count)
	}
	for _, count := range all {
		checkStream(t, drawnBlock(count%50), drawnBlock(count%60), drawn(count))
		if count < 1<<13 {
			checkStream(t, full(0), full(0), make([]byte, count))
			checkStream(t, full(255), full(255), bytes.Repeat([]byte{255}, count))
			checkStream(t, drawnBlock(1), number(1), drawn(count))
		}
	}
}

// P9.2: keys and first numbers of bytes 0, of bytes 255, and of one bit alone at each place.
func TestKeysAndFirsts(t *testing.T) {
	b := drawn(3*blockBytes + 5)
	for _, x := range some() {
		checkStream(t, x, drawnBlock(9), b)
		checkStream(t, drawnBlock(9), x, b)
		checkStream(t, x, x, b)
	}
}

// P9.2: each bit of the bytes counts where it stands, and nowhere else.
func TestEachBitOfTheBytes(t *testing.T) {
	key, first := drawnBlock(4), drawnBlock(5)
	b := drawn(2*blockBytes + 3)
	want := ciphers.Stream(key, first, b)
	for n := range 8 * len(b) {
		b[n/8] ^= 1 << (n % 8)
		want[n/8] ^= 1 << (n % 8)
		if got := ciphers.Stream(key, first, b); !bytes.Equal(got, want) {
			t.Errorf("bit %d: %x", n, got)
		}
		b[n/8] ^= 1 << (n % 8)
		want[n/8] ^= 1 << (n % 8)
	}
}

// P9.2: of bytes 0 there are the blocks of the numbers themselves.
func TestStreamOfNoughts(t *testing.T) {
	for _, first := range []block{full(0), number(1), number(255), number(255, 255), full(255), drawnBlock(6)} {
		for _, key := range []block{full(0), full(255), drawnBlock(8)} {
			got := ciphers.Stream(key, first, make([]byte, 300*blockBytes))
			for i := range 300 {
				if want := ciphers.Block(key, and(first, int64(i))); block(got[i*blockBytes:]) != want {
					t.Fatalf("by %x from %x on, the block %d: %x", key, first, i, got[i*blockBytes:][:blockBytes])
				}
			}
		}
	}
}

// P9.2: the number goes on past each byte of it, the eighth and the last one among them, wherever that happens.
func TestFirstGoesOn(t *testing.T) {
	key, b := drawnBlock(10), drawn(20*blockBytes+7)
	for low := 1; low <= blockBytes; low++ {
		for _, ahead := range []byte{0, 1, 127, 128, 254, 255} {
			for before := range 19 {
				first := full(ahead)
				for i := blockBytes - low; i < blockBytes; i++ {
					first[i] = 255
				}
				first[blockBytes-1] -= byte(before)
				checkStream(t, key, first, b)
			}
		}
	}
}

// P9.2: past one byte, and past two, by as many blocks as that takes from 0 on.
func TestFirstGoesFar(t *testing.T) {
	for _, first := range []block{full(0), number(1), number(255, 0), number(1, 0, 0, 0, 0, 0, 0, 0, 0)} {
		checkStream(t, drawnBlock(11), first, drawn(1<<20+3*blockBytes+1))
	}
}

// P9.2: past the highest number it goes round to 0.
func TestFirstGoesRound(t *testing.T) {
	for _, key := range []block{full(0), full(255), drawnBlock(12)} {
		got := ciphers.Stream(key, full(255), make([]byte, 4*blockBytes))
		for i, number := range []block{full(255), full(0), number(1), number(2)} {
			if want := right(key, number); block(got[i*blockBytes:]) != want {
				t.Errorf("by %x, the block %d: %x", key, i, got[i*blockBytes:][:blockBytes])
			}
		}
	}
}

// P9.3: what a beginning becomes is the beginning of what all becomes.
func TestBeginnings(t *testing.T) {
	for _, first := range []block{full(0), full(255), number(255), drawnBlock(13)} {
		key, b := drawnBlock(14), drawn(100)
		all := ciphers.Stream(key, first, b)
		for n := range len(b) + 1 {
			if got := ciphers.Stream(key, first, b[:n]); !bytes.Equal(got, all[:n]) {
				t.Errorf("%d bytes from %x on: %x", n, first, got)
			}
		}
		for _, n := range counts {
			if got := ciphers.Stream(key, first, drawn(5000)[:n]); !bytes.Equal(got, ciphers.Stream(key, first, drawn(5000))[:n]) {
				t.Errorf("%d bytes from %x on", n, first)
			}
		}
	}
}

// P9.3: from the sixteenth byte on it goes on as from the next first, and likewise block by block.
func TestGoesOnFromTheNextFirst(t *testing.T) {
	for _, first := range []block{full(0), number(1), number(254), number(255), number(255, 255, 255, 255, 255, 255, 255, 255), full(255), drawnBlock(15)} {
		for _, count := range []int{16, 17, 31, 32, 33, 100, 333} {
			key, b := drawnBlock(16), drawn(count)
			all := ciphers.Stream(key, first, b)
			for n := 0; blockBytes*n <= count; n++ {
				if got := ciphers.Stream(key, and(first, int64(n)), b[blockBytes*n:]); !bytes.Equal(got, all[blockBytes*n:]) {
					t.Errorf("%d bytes from %x on, behind %d blocks", count, first, n)
				}
			}
		}
	}
}

// P9.3: Stream of Stream are the bytes, by the same key and first; by another one of these they are not.
func TestStreamOfStream(t *testing.T) {
	for _, count := range append([]int{1 << 17}, counts...) {
		key, first, b := drawnBlock(17), drawnBlock(18), drawn(count)
		l := ciphers.Stream(key, first, b)
		if !bytes.Equal(ciphers.Stream(key, first, l), b) {
			t.Errorf("of %d bytes", count)
		}
		if count >= blockBytes && (bytes.Equal(l, b) || bytes.Equal(ciphers.Stream(first, key, l), b) || bytes.Equal(ciphers.Stream(key, and(first, 1), l), b)) {
			t.Errorf("of %d bytes, by others", count)
		}
	}
}

// R4: what is handed in is not changed, its spare room neither.
func TestHandedInStaysAsItIs(t *testing.T) {
	for _, count := range counts {
		room := drawn(count + 100)
		was := bytes.Clone(room)
		key, first, b := drawnBlock(19), full(255), drawnBlock(20)
		ciphers.Stream(key, first, room[:count])
		ciphers.Stream(key, first, room[10:count+10:count+50])
		ciphers.Block(key, b)
		ciphers.Back(key, b)
		if !bytes.Equal(room, was) || key != drawnBlock(19) || first != full(255) || b != drawnBlock(20) {
			t.Errorf("%d bytes", count)
		}
	}
}

// R4: an answer is new memory, its spare room too: it shares none with the bytes, nor with another answer.
func TestAnswerIsNewMemory(t *testing.T) {
	for _, count := range counts {
		room := drawn(count + 100)
		was := bytes.Clone(room)
		b := room[:count]
		key, first := drawnBlock(21), drawnBlock(22)
		one, other := ciphers.Stream(key, first, b), ciphers.Stream(key, first, b)
		want := rightStream(key, first, b)
		spoil := one[:cap(one)]
		for i := range spoil {
			spoil[i] ^= 0xa5
		}
		if !bytes.Equal(room, was) || !bytes.Equal(other, want) || !bytes.Equal(ciphers.Stream(key, first, b), want) {
			t.Errorf("%d bytes: what is written into an answer is seen elsewhere", count)
		}
		for i := range room {
			room[i] ^= 0x5a
		}
		if !bytes.Equal(other, want) {
			t.Errorf("%d bytes: what is written into the bytes is seen in an answer", count)
		}
	}
}

// R5: nothing is kept: what was asked in between, by other keys and numbers, does not count.
func TestNothingIsKept(t *testing.T) {
	key, first, b := drawnBlock(23), drawnBlock(24), drawn(70)
	in, back, want := right(key, first), rightBack(key, first), rightStream(key, first, b)
	for n := range 100 {
		if ciphers.Block(key, first) != in || ciphers.Back(key, first) != back || !bytes.Equal(ciphers.Stream(key, first, b), want) {
			t.Fatalf("%d", n)
		}
		b[n%70] ^= 0xa5
		checkStream(t, key, first, b)
		b[n%70] ^= 0xa5
		check(t, drawnBlock(n), first)
		checkStream(t, drawnBlock(n), and(first, int64(n)), b[:n%70])
	}
}

// R5: who asks at the same time as others is answered alike.
func TestAskedAtOnce(t *testing.T) {
	var wait sync.WaitGroup
	for i := range 8 {
		wait.Go(func() {
			for j := range 100 {
				key, first, b := drawnBlock(i*13+j), drawnBlock(i+j), drawn(i*j)
				if ciphers.Block(key, first) != right(key, first) || ciphers.Back(key, first) != rightBack(key, first) || !bytes.Equal(ciphers.Stream(key, first, b), rightStream(key, first, b)) {
					t.Errorf("by %x from %x on", key, first)
				}
			}
		})
	}
	wait.Wait()
}

// filled answers a block of the bytes, cut, or with noughts behind them.
func filled(b []byte) block {
	var l block
	copy(l[:], b)
	return l
}

// R1, R5: at any bytes nothing panics, and all answers are right ones, the second time too.
func FuzzCiphers(f *testing.F) {
	f.Add([]byte(nil), []byte(nil), []byte(nil))
	f.Add(drawn(16), bytes.Repeat([]byte{255}, 16), drawn(33))
	f.Add([]byte{255}, []byte{0, 0, 0, 0, 0, 0, 0, 0, 255, 255, 255, 255, 255, 255, 255, 255}, drawn(100))
	f.Add(drawn(15), drawn(17), []byte{0})
	f.Fuzz(func(t *testing.T, k, n, b []byte) {
		key, first := filled(k), filled(n)
		for range 2 {
			check(t, key, first)
			check(t, first, key)
			if got := ciphers.Block(key, first); got != spelt(speltKeys(key), first) {
				t.Errorf("Block of %x by %x: %x", first, key, got)
			}
			checkStream(t, key, first, b)
			checkStream(t, first, key, b)
			checkStream(t, key, first, b[:len(b)/2])
		}
	})
}

// The layers above seal by streams alone.
func BenchmarkStream(b *testing.B) {
	key, first := drawnBlock(1), drawnBlock(2)
	for name, list := range map[string][]byte{"block": drawn(blockBytes), "most": drawn(api.MaxBytes)} {
		b.Run(name, func(b *testing.B) {
			b.SetBytes(int64(len(list)))
			for b.Loop() {
				ciphers.Stream(key, first, list)
			}
		})
	}
}

func BenchmarkBlock(b *testing.B) {
	key, x := drawnBlock(1), drawnBlock(2)
	for b.Loop() {
		ciphers.Block(key, x)
	}
}

func BenchmarkBack(b *testing.B) {
	key, x := drawnBlock(1), drawnBlock(2)
	for b.Loop() {
		ciphers.Back(key, x)
	}
}
