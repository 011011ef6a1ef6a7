package tags_test

import (
	"bytes"
	"crypto/sha256"
	"encoding/binary"
	"encoding/hex"
	"math"
	"math/big"
	"regexp"
	"slices"
	"strings"
	"sync"
	"testing"
	"unicode/utf8"

	"burrow/api"
	"burrow/tags"
)

const (
	all       = math.MaxUint64
	letters   = "0123456789abcdef"
	textBytes = 39 // of a tag's Text
)

// plain is a right text, of which others are made.
const plain = "2001:0021:abcd:ef09:1234:5678:9abc:def0"

// greatest is the greatest long number.
var greatest = api.Num{all, all, all, all}

// form is what texts look like.
var form = regexp.MustCompile(`\A[0-9a-f]{4}(:[0-9a-f]{4}){7}\z`)

// put answers the bytes behind their count, in four bytes.
func put(b []byte) []byte {
	return append(binary.BigEndian.AppendUint32(nil, uint32(len(b))), b...)
}

// long answers the 32 bytes of a number, the highest ahead.
func long(n api.Num) []byte {
	var b []byte
	for i := range n {
		b = binary.BigEndian.AppendUint64(b, n[len(n)-1-i])
	}
	return b
}

// keySum answers the sum of the key, as tag, by the library.
func keySum(key api.Num) [32]byte {
	return sha256.Sum256(bytes.Join([][]byte{put([]byte("tag")), {0, 0, 0, 1}, put(long(key))}, nil))
}

// rightTag answers the key's tag by the chapter's words.
func rightTag(key api.Num) api.Tag {
	s := keySum(key)
	return api.Tag(append([]byte{0x20, 0x01, 0x00, 0x21}, s[10:22]...))
}

// rightText answers the tag's text by the chapter's words, by the library.
func rightText(t api.Tag) string {
	var parts []string
	for two := range slices.Chunk(t[:], 2) {
		parts = append(parts, hex.EncodeToString(two))
	}
	return strings.Join(parts, ":")
}

// rightParse answers the tag of a text by what texts look like, by the library.
func rightParse(s string) (api.Tag, api.Errno) {
	if !form.MatchString(s) {
		return api.Tag{}, api.ErrForm
	}
	b, err := hex.DecodeString(strings.ReplaceAll(s, ":", ""))
	if err != nil {
		return api.Tag{}, api.ErrForm
	}
	return api.Tag(b), api.OK
}

// checkOf holds the key's tag against the chapter's words.
func checkOf(t testing.TB, key api.Num) api.Tag {
	t.Helper()
	got := tags.Of(key)
	if want := rightTag(key); got != want {
		t.Errorf("of %x: %x, want %x", key, got, want)
	}
	return got
}

// checkCmp holds how both stand against the library, in both turns.
func checkCmp(t testing.TB, a, b api.Tag) {
	t.Helper()
	want := bytes.Compare(a[:], b[:])
	if got := tags.Cmp(a, b); got != want {
		t.Errorf("%x, %x: %d, want %d", a, b, got, want)
	}
	if got := tags.Cmp(b, a); got != -want {
		t.Errorf("%x, %x: %d, want %d", b, a, got, -want)
	}
}

// checkText holds the tag's text against the library, and what is parsed of it against the tag.
func checkText(t testing.TB, tag api.Tag) string {
	t.Helper()
	got := tags.Text(tag)
	if want := rightText(tag); got != want {
		t.Errorf("of %x: %q, want %q", tag, got, want)
	}
	if back, e := tags.Parse(got); back != tag || e != api.OK {
		t.Errorf("parsed of %q: %x, %v, want %x", got, back, e, tag)
	}
	return got
}

// checkParse holds what is parsed against the library, and its text against what was parsed.
func checkParse(t testing.TB, s string) api.Errno {
	t.Helper()
	got, e := tags.Parse(s)
	if want, wantE := rightParse(s); got != want || e != wantE {
		t.Errorf("parsed of %q: %x, %v, want %x, %v", s, got, e, want, wantE)
	}
	if e == api.OK {
		if text := tags.Text(got); text != s {
			t.Errorf("the text of what is parsed of %q: %q", s, text)
		}
	}
	return e
}

// checkNone asks for ErrForm, and noughts beside it.
func checkNone(t testing.TB, s string) {
	t.Helper()
	if got, e := tags.Parse(s); got != (api.Tag{}) || e != api.ErrForm {
		t.Errorf("parsed of %q: %x, %v", s, got, e)
	}
}

// with answers the text with this one in place of its letter there.
func with(s string, at int, other string) string { return s[:at] + other + s[at+1:] }

// isColon answers whether that is a colon's place.
func isColon(at int) bool { return at%5 == 4 }

// digitAt answers where the digit of that number stands, of 0 to 31.
func digitAt(n int) int { return n + n/4 }

// drawn answers bytes without a pattern, the same ones each time, other ones for each n.
func drawn(n, count int) []byte {
	b := make([]byte, count)
	state := uint64(n)*2862933555777941757 + 3037000493
	for i := range b {
		state = state*6364136223846793005 + 1442695040888963407
		b[i] = byte(state >> 56)
	}
	return b
}

// tag answers one without a pattern.
func tag(n int) api.Tag { return api.Tag(drawn(n, 16)) }

// number answers a long number without a pattern.
func number(n int) api.Num {
	var a api.Num
	for i, x := range drawn(n, 32) {
		a[i/8] = a[i/8]<<8 | uint64(x)
	}
	return a
}

// full answers the tag of the byte alone.
func full(x byte) api.Tag { return api.Tag(bytes.Repeat([]byte{x}, 16)) }

// keys of all lengths, about where a word more begins, up to the greatest one.
func keys() []api.Num {
	l := []api.Num{
		{}, {1}, {2}, {5}, {255}, {256}, {1<<32 - 1}, {1 << 32}, {1 << 63}, {all - 1}, {all},
		{0, 1}, {1, 1}, {all, 1}, {0, all}, {all, all},
		{0, 0, 1}, {5, 0, 1}, {all, all, all},
		{0, 0, 0, 1}, {1, 0, 0, 1}, {1, 2, 3, 4}, {4, 3, 2, 1}, {0, 0, 0, 1 << 63}, {0, 0, 0, all}, {all - 188, all, all, all}, {all - 1, all, all, all}, greatest,
	}
	for n := range 30 {
		l = append(l, number(n))
	}
	return l
}

// The chapter's table of examples.
func TestExamples(t *testing.T) {
	noughts := api.Tag{0x20, 0x01, 0x00, 0x21}
	if got := tags.Text(noughts); got != "2001:0021:0000:0000:0000:0000:0000:0000" {
		t.Errorf("Text: %q", got)
	}
	checkNone(t, "0")
	if got := tags.Cmp(noughts, noughts); got != 0 {
		t.Errorf("Cmp: %d", got)
	}
}

// P12.1, P12.3: tags that another program told.
func TestToldTags(t *testing.T) {
	for _, c := range []struct{ key, text string }{
		{"0", "2001:0021:3507:070c:607f:5515:4c1d:8f3b"},
		{"1", "2001:0021:6867:a6b8:5a17:dfc3:bef1:f37d"},
		{"2", "2001:0021:2891:45ea:2de3:b5ad:e1d2:6997"},
		{"5", "2001:0021:d838:2f39:752e:23d5:bb9a:1517"},
		{"ff", "2001:0021:780f:fc24:ff0f:b5fc:f730:731a"},
		{"100", "2001:0021:fba2:eb89:fd3c:84a2:0866:26bb"},
		{"ffffffffffffffff", "2001:0021:bda5:5dcd:d571:517c:f955:2f2a"},
		{"10000000000000000", "2001:0021:6bee:09d4:eaf2:8919:dc16:afcf"},
		{"100000000000000000000000000000000", "2001:0021:8ba1:e8e4:a07e:0347:9988:f2fa"},
		{"1000000000000000000000000000000000000000000000000", "2001:0021:871b:82a0:79d1:d2be:7163:980f"},
		{"4000000000000000300000000000000020000000000000001", "2001:0021:caae:7252:5516:f584:0e2d:784d"},
		{"102030405060708090a0b0c0d0e0f101112131415161718191a1b1c1d1e1f20", "2001:0021:0d40:38f5:dead:3188:e4df:6a6e"},
		{"8000000000000000000000000000000000000000000000000000000000000000", "2001:0021:23ae:259a:15fb:eb7c:f69a:6f63"},
		{"ffffffffffffffffffffffffffffffffffffffffffffffffffffffffffffff43", "2001:0021:b809:6f7a:e180:8e61:d231:68ff"},
		{"ffffffffffffffffffffffffffffffffffffffffffffffffffffffffffffffff", "2001:0021:2667:cd59:c8fb:9182:bcdf:f9f5"},
	} {
		n, ok := new(big.Int).SetString(c.key, 16)
		if !ok {
			t.Fatal(c.key)
		}
		var key api.Num
		for i, x := range n.FillBytes(make([]byte, 32)) {
			key[3-i/8] = key[3-i/8]<<8 | uint64(x)
		}
		of := tags.Of(key)
		if got := tags.Text(of); got != c.text {
			t.Errorf("of %s: %q, want %q", c.key, got, c.text)
		}
		if got, e := tags.Parse(c.text); got != of || e != api.OK {
			t.Errorf("parsed of %q: %x, %v, want %x", c.text, got, e, of)
		}
	}
}

// P12.1: the tags of keys of all lengths, the first bytes of which are the same.
func TestOf(t *testing.T) {
	for _, key := range keys() {
		got := checkOf(t, key)
		if got[0] != 0x20 || got[1] != 1 || got[2] != 0 || got[3] != 0x21 {
			t.Errorf("of %x: %x", key, got)
		}
		checkText(t, got)
	}
}

// P12.1: each bit of the key counts, and each word by its place.
func TestOfEachBit(t *testing.T) {
	had := map[api.Tag]api.Num{}
	for _, base := range []api.Num{{}, greatest, number(40)} {
		for bit := range 256 {
			key := base
			key[bit/64] ^= 1 << (bit % 64)
			got := checkOf(t, key)
			if other, there := had[got]; there {
				t.Errorf("of %x and %x: %x", key, other, got)
			}
			had[got] = key
		}
	}
	for _, turn := range []api.Num{{1, 2, 3, 4}, {2, 1, 3, 4}, {4, 2, 3, 1}, {1, 3, 2, 4}, {3, 4, 1, 2}, {4, 3, 2, 1}} {
		checkOf(t, turn)
	}
}

// P12.1: the bytes behind the first four are those at the places 10 to 21 of the sum, and at no other ones.
func TestOfPlaces(t *testing.T) {
	for _, key := range keys() {
		got, s := tags.Of(key), keySum(key)
		for from := range 32 - 12 + 1 {
			if same := bytes.Equal(got[4:], s[from:from+12]); same != (from == 10) {
				t.Errorf("of %x: %x, from %d of %x: %v", key, got, from, s, same)
			}
		}
	}
}

// P12.2: tags that part at each place alone, by one and by 255, and by each two bytes.
func TestCmpEachPlace(t *testing.T) {
	for at := range 16 {
		for _, base := range []api.Tag{{}, full(255), full(127), full(128), tag(at)} {
			for _, two := range [][2]byte{{0, 1}, {0, 255}, {254, 255}, {127, 128}, {1, 128}, {128, 255}, {9, 10}, {15, 16}} {
				a, b := base, base
				a[at], b[at] = two[0], two[1]
				if got := tags.Cmp(a, b); got != -1 {
					t.Errorf("%x, %x: %d", a, b, got)
				}
				if got := tags.Cmp(b, a); got != 1 {
					t.Errorf("%x, %x: %d", b, a, got)
				}
			}
		}
		for x := range 256 {
			for y := range 256 {
				a, b := tag(at), tag(at)
				a[at], b[at] = byte(x), byte(y)
				if got, want := tags.Cmp(a, b), bytes.Compare([]byte{byte(x)}, []byte{byte(y)}); got != want {
					t.Fatalf("%x, %x: %d, want %d", a, b, got, want)
				}
			}
		}
	}
}

// P12.2: the first byte in which they part tells, whatever stands behind it.
func TestCmpFirstTells(t *testing.T) {
	for at := range 16 {
		a, b := tag(at), tag(at)
		a[at], b[at] = 7, 8
		for i := at + 1; i < 16; i++ {
			a[i], b[i] = 255, 0
			if got := tags.Cmp(a, b); got != -1 {
				t.Errorf("%x, %x: %d", a, b, got)
			}
			if got := tags.Cmp(b, a); got != 1 {
				t.Errorf("%x, %x: %d", b, a, got)
			}
		}
	}
}

// P12.2: the same tag, in other memory too.
func TestCmpSame(t *testing.T) {
	for n := range 300 {
		a, b := tag(n), tag(n)
		if n < 256 {
			a, b = full(byte(n)), full(byte(n))
		}
		if got := tags.Cmp(a, b); got != 0 {
			t.Errorf("%x, %x: %d", a, b, got)
		}
		if got := tags.Cmp(a, a); got != 0 {
			t.Errorf("%x: %d", a, got)
		}
	}
}

// P12.2: sorted by it, tags stand as their bytes do.
func TestCmpSorts(t *testing.T) {
	l := []api.Tag{{}, full(255), {0x20, 1, 0, 0x21}}
	for n := range 60 {
		l = append(l, tag(n), full(byte(n*4)))
	}
	for _, a := range l {
		for _, b := range l {
			checkCmp(t, a, b)
		}
	}
	slices.SortFunc(l, tags.Cmp)
	for i := range l[1:] {
		if bytes.Compare(l[i][:], l[i+1][:]) > 0 {
			t.Errorf("%x stands ahead of %x", l[i], l[i+1])
		}
	}
}

// P12.3, P12.4: noughts, and all bytes 255.
func TestTextEnds(t *testing.T) {
	for text, want := range map[string]api.Tag{
		"0000:0000:0000:0000:0000:0000:0000:0000": {},
		"ffff:ffff:ffff:ffff:ffff:ffff:ffff:ffff": full(255),
		"2001:0021:abcd:ef09:1234:5678:9abc:def0": {0x20, 0x01, 0x00, 0x21, 0xab, 0xcd, 0xef, 0x09, 0x12, 0x34, 0x56, 0x78, 0x9a, 0xbc, 0xde, 0xf0},
		"0001:0203:0405:0607:0809:0a0b:0c0d:0e0f": {0, 1, 2, 3, 4, 5, 6, 7, 8, 9, 10, 11, 12, 13, 14, 15},
		"0010:2030:4050:6070:8090:a0b0:c0d0:e0f0": {0x00, 0x10, 0x20, 0x30, 0x40, 0x50, 0x60, 0x70, 0x80, 0x90, 0xa0, 0xb0, 0xc0, 0xd0, 0xe0, 0xf0},
	} {
		if got := tags.Text(want); got != text {
			t.Errorf("of %x: %q", want, got)
		}
		if got, e := tags.Parse(text); got != want || e != api.OK {
			t.Errorf("parsed of %q: %x, %v", text, got, e)
		}
	}
}

// P12.3, P12.4: every byte, at every place.
func TestTextEachByte(t *testing.T) {
	for at := range 16 {
		for x := range 256 {
			for _, base := range []api.Tag{{}, full(255), tag(x)} {
				base[at] = byte(x)
				if got := checkText(t, base); len(got) != textBytes || !utf8.ValidString(got) {
					t.Errorf("of %x: %q", base, got)
				}
			}
		}
	}
}

// P12.3, P12.4: every digit, at every place, tells what it counts there, and nothing elsewhere.
func TestParseEachDigit(t *testing.T) {
	for n := range 32 {
		for count := range letters {
			for _, base := range []api.Tag{{}, full(255), tag(n)} {
				want := base
				if n%2 == 0 {
					want[n/2] = byte(count)<<4 | base[n/2]&15
				} else {
					want[n/2] = base[n/2]&0xf0 | byte(count)
				}
				s := with(rightText(base), digitAt(n), letters[count:count+1])
				if got, e := tags.Parse(s); got != want || e != api.OK {
					t.Errorf("parsed of %q: %x, %v, want %x", s, got, e, want)
				}
				checkParse(t, s)
			}
		}
	}
}

// P12.3: every byte but a digit, at every digit's place, and every byte but a colon, at every colon's.
func TestParseEachByte(t *testing.T) {
	right := 0
	for at := range textBytes {
		for x := range 256 {
			s := with(plain, at, string([]byte{byte(x)}))
			if checkParse(t, s) == api.OK {
				right++
			}
		}
	}
	if want := 32*16 + 7; right != want {
		t.Errorf("%d texts are parsed, want %d", right, want)
	}
}

// P12.3: letters just ahead of and behind the digits and the small letters, capital ones, and above f, and other signs, at every place.
func TestParseWrongLetters(t *testing.T) {
	for _, wrong := range []string{
		"/", "`", "g", "h", "z", "@", "A", "B", "C", "D", "E", "F", "G", "Z", "[", "{", " ", "-", "+", ".", ",", ";", "_", "x", "X", "\x00", "\t", "\n", "\r", "\x7f",
	} {
		for at := range textBytes {
			checkNone(t, with(plain, at, wrong))
		}
	}
	for at := range textBytes {
		if !isColon(at) {
			checkNone(t, with(plain, at, ":"))
			continue
		}
		for _, digit := range letters {
			checkNone(t, with(plain, at, string(digit)))
		}
	}
}

// P12.3: letters beyond one byte at every place, in as many bytes as a text has, and in as many letters: those of which a byte is a digit or a colon, digits of other writings, marks.
func TestParseLongLetters(t *testing.T) {
	wrong := []rune{0x80, 0xa0, 0xe9, 0xff, 0x100, 0xff10, 0xff19, 0xff1a, 0xff21, 0xff41, 0xff46, 0x660, 0x966, 0x1d7ce, 0x200b, 0xfeff, 0xfffd, 0x10ffff}
	for _, low := range letters + ":" {
		wrong = append(wrong, 0x100+low, 0x1000+low, 0x3000+low, 0x10000+low)
	}
	for _, r := range wrong {
		other := string(r)
		for at := range textBytes {
			checkNone(t, with(plain, at, other))
			if at+len(other) <= textBytes {
				s := plain[:at] + other + plain[at+len(other):]
				if len(s) != textBytes {
					t.Fatal(s)
				}
				checkNone(t, s)
			}
		}
	}
}

// P12.3: bytes that are no letter at all, at every place: alone, cut off, too long, halves of pairs, beyond all letters.
func TestParseNoLetters(t *testing.T) {
	for _, wrong := range []string{
		"\x80", "\xbf", "\xc0", "\xc1", "\xc3", "\xe2", "\xf0", "\xf5", "\xfe", "\xff",
		"\xc0\xb0", "\xc1\xa1", "\xc3\x28", "\xe2\x82", "\xe0\x80\xb0", "\xf0\x80\x80\xb0", "\xed\xa0\x80", "\xed\xbf\xbf", "\xf4\x90\x80\x80", "\xf0\x9d\x9f", "\xff\xff\xff",
	} {
		for at := range textBytes {
			checkNone(t, with(plain, at, wrong))
			if at+len(wrong) <= textBytes {
				checkNone(t, plain[:at]+wrong+plain[at+len(wrong):])
			}
		}
	}
	for _, x := range []string{"\x00", "\x7f", "\x80", "\xbf", "\xc3", "\xff", "\xef\xbf\xbd", "é", "0", "f", ":", "g"} {
		for _, count := range []int{1, 13, 16, 19, 20, 32, 38, 39, 40} {
			checkNone(t, strings.Repeat(x, count))
		}
	}
}

// P12.3: texts of other lengths: cut at either end, with something ahead or behind, with a letter less or more within.
func TestParseLengths(t *testing.T) {
	checkNone(t, "")
	for _, right := range []string{plain, rightText(api.Tag{}), rightText(full(255)), rightText(rightTag(greatest))} {
		for at := range textBytes {
			checkNone(t, right[:at])
			checkNone(t, right[at+1:])
			checkNone(t, right[:at]+right[at+1:])
			for _, more := range []string{"0", "f", ":", " ", "\x00", "g", "é"} {
				checkNone(t, right[:at]+more+right[at:])
			}
		}
		for _, more := range []string{"0", "f", ":", " ", "\n", "\x00", "é", ":0", ":0000", right, ":" + right} {
			checkNone(t, right+more)
			checkNone(t, more+right)
		}
	}
	for count := range 200 {
		for _, x := range []string{"0", ":", "0000:", ":0000"} {
			checkParse(t, strings.Repeat(x, 40)[:count*len(x)/5])
		}
	}
	checkNone(t, strings.Repeat("0", 1<<20))
	checkNone(t, strings.Repeat("0000:", 1<<18))
}

// P12.3: colons at wrong places, where there are as many letters as in a text.
func TestParseColons(t *testing.T) {
	for at := range textBytes - 1 {
		if plain[at] == plain[at+1] {
			continue
		}
		s := plain[:at] + plain[at+1:at+2] + plain[at:at+1] + plain[at+2:]
		if moved := isColon(at) || isColon(at+1); moved {
			checkNone(t, s)
		} else if e := checkParse(t, s); e != api.OK {
			t.Errorf("parsed of %q: %v", s, e)
		}
	}
	for from := range 8 {
		for to := range textBytes {
			at := from*5 + 4
			if at >= textBytes || isColon(to) {
				continue
			}
			checkNone(t, with(with(plain, at, "0"), to, ":"))
		}
	}
}

// P12.3: a tag has one text alone: others that an address may have are none.
func TestParseOtherWritings(t *testing.T) {
	for _, s := range []string{
		"2001:21::", "2001:21:0:0:0:0:0:0", "::", "::1", "2001:21::1", "[2001:0021:abcd:ef09:1234:5678:9abc:def0]", "2001:0021:abcd:ef09:1234:5678:9abc:def0/128",
		"20010021abcdef09123456789abcdef0", "0x20010021abcdef09123456789abcdef0", "20:01:00:21:ab:cd:ef:09:12:34:56:78:9a:bc:de:f0", "2001-0021-abcd-ef09-1234-5678-9abc-def0",
		"2001:0021:ABCD:EF09:1234:5678:9ABC:DEF0", "2001:0021:abcd:ef09:1234:5678:255.255.255.0", "0021:abcd:ef09:1234:5678:9abc:def0::::::", "2001.0021.abcd.ef09.1234.5678.9abc.def0",
		"2001 0021 abcd ef09 1234 5678 9abc def0", "0:02001:0021:abcd:ef09:1234:5678:9abc:def", "2001:0021:abcd:ef09:1234:5678:9abc:+ef0", "2001:0021:abcd:ef09:1234:5678:9abc:-ef0", "2001:0021:abcd:ef09:1234:5678:9abc:0xf0",
		"2001:0021:abcd:ef09:1234:5678:9abc:de_0", "2001:0021:abcd:ef09:1234:5678:9abc:def\n", " 001:0021:abcd:ef09:1234:5678:9abc:def0",
	} {
		checkNone(t, s)
	}
}

// P12.3, P12.4: what is no key's tag has a text too, and is parsed: nobody asks how a tag begins.
func TestParseAnyTag(t *testing.T) {
	for n := range 2000 {
		s := checkText(t, tag(n))
		if e := checkParse(t, s); e != api.OK {
			t.Errorf("parsed of %q: %v", s, e)
		}
	}
}

// P12.4: texts stand in order as tags do: where each two digits part, at each place, and of tags without a pattern.
func TestTextsInOrder(t *testing.T) {
	hold := func(a, b api.Tag) {
		t.Helper()
		if got, want := strings.Compare(tags.Text(a), tags.Text(b)), tags.Cmp(a, b); got != want {
			t.Errorf("%x, %x: texts %d, tags %d", a, b, got, want)
		}
	}
	for at := range 16 {
		for x := range 16 {
			for y := range 16 {
				a, b := tag(at), tag(at)
				a[at], b[at] = byte(x), byte(y)
				hold(a, b)
				a[at], b[at] = byte(x)<<4|byte(y), byte(y)<<4|byte(x)
				hold(a, b)
			}
		}
	}
	for n := range 1000 {
		hold(tag(n), tag(n+1))
		hold(tags.Of(api.Num{uint64(n)}), tags.Of(api.Num{uint64(n + 1)}))
	}
}

// R4: what is handed in is not changed, and an answer is the caller's own.
func TestNothingShared(t *testing.T) {
	key, wantKey := number(50), number(50)
	of := tags.Of(key)
	if key != wantKey {
		t.Errorf("the key is %x", key)
	}
	clear(of[:])
	checkOf(t, key)
	a, b := tag(1), tag(2)
	tags.Cmp(a, b)
	text := tags.Text(a)
	if a != tag(1) || b != tag(2) {
		t.Errorf("the tags are %x, %x", a, b)
	}
	mine := []byte(text)
	back, e := tags.Parse(string(mine))
	clear(mine)
	if back != a || e != api.OK {
		t.Errorf("parsed: %x, %v", back, e)
	}
	clear(back[:])
	if again, e := tags.Parse(text); again != a || e != api.OK || text != rightText(a) {
		t.Errorf("parsed once more: %x, %v, of %q", again, e, text)
	}
}

// R5: nothing is kept from call to call: a wrong text ahead, or calls at the same time, make no difference.
func TestNothingKept(t *testing.T) {
	var wait sync.WaitGroup
	for n := range 8 {
		wait.Go(func() {
			for step := range 300 {
				key := number(n*300 + step)
				if got := tags.Of(key); got != rightTag(key) {
					t.Errorf("of %x: %x", key, got)
				}
				a := tag(n*300 + step)
				text := tags.Text(a)
				if text != rightText(a) {
					t.Errorf("of %x: %q", a, text)
				}
				if got, e := tags.Parse(text[:step%textBytes]); got != (api.Tag{}) || e != api.ErrForm {
					t.Errorf("parsed of a part: %x, %v", got, e)
				}
				if got, e := tags.Parse(with(text, step%textBytes, "~")); got != (api.Tag{}) || e != api.ErrForm {
					t.Errorf("parsed of a wrong text: %x, %v", got, e)
				}
				if got, e := tags.Parse(text); got != a || e != api.OK {
					t.Errorf("parsed of %q: %x, %v", text, got, e)
				}
			}
		})
	}
	wait.Wait()
}

// R1: at any text, key and tag, nothing panics, and all answers are right ones.
func FuzzTags(f *testing.F) {
	f.Add("", []byte(nil), []byte(nil))
	f.Add(plain, []byte{1, 2, 3}, []byte{1, 2, 4})
	f.Add("2001:0021:abcd:ef09:0000:0000:0000:00é", bytes.Repeat([]byte{255}, 32), []byte{255})
	f.Add("2001:21::", make([]byte, 16), make([]byte, 32))
	f.Fuzz(func(t *testing.T, s string, x, y []byte) {
		checkParse(t, s)
		for at := range min(len(s), textBytes) {
			checkParse(t, with(plain, at, s[at:at+1]))
		}
		var key api.Num
		for i, b := range x[:min(len(x), 32)] {
			key[i/8] |= uint64(b) << (i % 8 * 8)
		}
		checkText(t, checkOf(t, key))
		var a, b api.Tag
		copy(a[:], x)
		copy(b[:], y)
		checkCmp(t, a, b)
		if strings.Compare(checkText(t, a), checkText(t, b)) != tags.Cmp(a, b) {
			t.Errorf("%x, %x", a, b)
		}
	})
}

func BenchmarkOf(b *testing.B) {
	key := number(60)
	for b.Loop() {
		tags.Of(key)
	}
}

func BenchmarkCmp(b *testing.B) {
	x, y := tag(60), tag(60)
	for b.Loop() {
		tags.Cmp(x, y)
	}
}

func BenchmarkText(b *testing.B) {
	x := tag(60)
	for b.Loop() {
		tags.Text(x)
	}
}

func BenchmarkParse(b *testing.B) {
	for b.Loop() {
		tags.Parse(plain)
	}
}
