package params_test

import (
	"bytes"
	"encoding/binary"
	"encoding/hex"
	"math"
	"slices"
	"sync"
	"testing"

	"burrow/api"
	"burrow/params"
)

// unhex answers the bytes of the digits of 16.
func unhex(digits string) []byte {
	b, err := hex.DecodeString(digits)
	if err != nil {
		panic(err)
	}
	return b
}

// drawn answers bytes without a pattern, none of which is 0, the same ones each time, other ones for each n.
func drawn(n, count int) []byte {
	b := make([]byte, count)
	state := uint64(n)*2862933555777941757 + 3037000493
	for i := range b {
		state = state*6364136223846793005 + 1442695040888963407
		b[i] = byte(state>>56)%255 + 1
	}
	return b
}

// pa answers a piece with a body of so many bytes.
func pa(t uint16, body int) api.Param { return api.Param{Type: t, Body: drawn(int(t), body)} }

// some answers so many pieces, from a type on, whose bodies have so many bytes each.
func some(count int, from uint16, body int) []api.Param {
	var l []api.Param
	for i := range count {
		l = append(l, pa(from+uint16(i), body))
	}
	return l
}

// copied answers the pieces in memory of their own.
func copied(l []api.Param) []api.Param {
	var out []api.Param
	for _, p := range l {
		out = append(out, api.Param{Type: p.Type, Body: append([]byte(nil), p.Body...)})
	}
	return out
}

// samePiece answers whether both are the same; nil and empty mean the same.
func samePiece(a, b api.Param) bool { return a.Type == b.Type && bytes.Equal(a.Body, b.Body) }

// same answers whether the pieces are the same.
func same(a, b []api.Param) bool { return slices.EqualFunc(a, b, samePiece) }

// rise answers whether the pieces may be.
func rise(l []api.Param) bool {
	for i, p := range l {
		if p.Type == 0 || i > 0 && p.Type <= l[i-1].Type {
			return false
		}
	}
	return true
}

// inBytes answers a piece in bytes by the chapter's words.
func inBytes(p api.Param) []byte {
	b := binary.BigEndian.AppendUint16(nil, p.Type)
	b = binary.BigEndian.AppendUint16(b, uint16(len(p.Body)))
	b = append(b, p.Body...)
	for len(b)%8 != 0 {
		b = append(b, 0)
	}
	return b
}

// rightPut answers the pieces' bytes by the chapter's words.
func rightPut(l []api.Param) ([]byte, api.Errno) {
	if !rise(l) {
		return nil, api.ErrArg
	}
	if len(l) > 16 {
		return nil, api.ErrLimit
	}
	var all []byte
	for _, p := range l {
		if len(p.Body) > 2048 {
			return nil, api.ErrLimit
		}
		all = append(all, inBytes(p)...)
	}
	if len(all) > 2048 {
		return nil, api.ErrLimit
	}
	return all, api.OK
}

// rightGet answers the pieces of the bytes by the chapter's words.
func rightGet(b []byte) ([]api.Param, api.Errno) {
	if len(b) > 2048 {
		return nil, api.ErrLimit
	}
	var l []api.Param
	for len(b) > 0 {
		if len(b) < 4 {
			return nil, api.ErrShort
		}
		p := api.Param{Type: binary.BigEndian.Uint16(b)}
		body := int(binary.BigEndian.Uint16(b[2:]))
		if len(b) < 4+body {
			return nil, api.ErrShort
		}
		p.Body = b[4 : 4+body]
		zeros := (8 - (4+body)%8) % 8
		if len(b) < 4+body+zeros {
			return nil, api.ErrShort
		}
		if p.Type == 0 || len(l) > 0 && p.Type <= l[len(l)-1].Type {
			return nil, api.ErrForm
		}
		if !bytes.Equal(b[4+body:4+body+zeros], make([]byte, zeros)) {
			return nil, api.ErrForm
		}
		if l = append(l, p); len(l) > 16 {
			return nil, api.ErrLimit
		}
		b = b[4+body+zeros:]
	}
	return l, api.OK
}

// checkPut holds the pieces' bytes against the chapter's words, and what is got of them against the pieces.
func checkPut(t testing.TB, l []api.Param) []byte {
	t.Helper()
	got, e := params.Put(l)
	want, wantE := rightPut(l)
	if e != wantE || !bytes.Equal(got, want) {
		t.Errorf("put of %d pieces: %x, %v, want %x, %v", len(l), got, e, want, wantE)
	}
	if e != api.OK {
		return got
	}
	if back, e := params.Get(got); e != api.OK || !same(back, l) {
		t.Errorf("got of what is put of %v: %v, %v", l, back, e)
	}
	return got
}

// putErr asks for that error, and no bytes beside it.
func putErr(t testing.TB, l []api.Param, want api.Errno) {
	t.Helper()
	if b, e := params.Put(l); e != want || len(b) != 0 {
		t.Errorf("put of %d pieces: %x, %v, want %v", len(l), b, e, want)
	}
}

// checkGet holds the pieces of the bytes against the chapter's words, and what is put of them against the bytes.
func checkGet(t testing.TB, b []byte) api.Errno {
	t.Helper()
	got, e := params.Get(b)
	want, wantE := rightGet(b)
	if e != wantE || !same(got, want) {
		t.Errorf("got of %x: %v, %v, want %v, %v", b, got, e, want, wantE)
	}
	if e != api.OK {
		return e
	}
	if back, e := params.Put(got); e != api.OK || !bytes.Equal(back, b) {
		t.Errorf("put of what is got of %x: %x, %v", b, back, e)
	}
	return e
}

// getErr asks for that error, and no pieces beside it.
func getErr(t testing.TB, b []byte, want api.Errno) {
	t.Helper()
	if l, e := params.Get(b); e != want || len(l) != 0 {
		t.Errorf("got of %x: %v, %v, want %v", b, l, e, want)
	}
}

// mustPut answers the bytes of pieces that may be.
func mustPut(t testing.TB, l []api.Param) []byte {
	t.Helper()
	b, e := params.Put(l)
	if e != api.OK {
		t.Fatalf("put of %v: %v", l, e)
	}
	return b
}

// lists of pieces that may be, of all kinds.
func lists() [][]api.Param {
	return [][]api.Param{
		nil,
		{},
		{{Type: 1}},
		{pa(65, 3)},
		{pa(1, 4), pa(2, 5), pa(3, 12)},
		{pa(255, 1), pa(256, 2), pa(257, 0), pa(512, 11), pa(65535, 13)},
		{pa(api.PaLane, 8), pa(api.PaSolution, 73), pa(api.PaPublic, 32), pa(api.PaKey, 32), pa(api.PaMac, 32), pa(api.PaSign, 64)},
		{{Type: 32767, Body: make([]byte, 9)}, {Type: 32768, Body: []byte{255}}, {Type: 32769, Body: []byte{0}}},
		some(16, 1, 0),
		some(16, 65520, 5),
		some(16, 100, 124),
		some(15, 7, 60),
	}
}

// The chapter's table of examples.
func TestExamples(t *testing.T) {
	l := []api.Param{{Type: 65, Body: []byte("abc")}}
	b, e := params.Put(l)
	if e != api.OK || !bytes.Equal(b, []byte{0, 65, 0, 3, 'a', 'b', 'c', 0}) {
		t.Errorf("Put: %v, %v", b, e)
	}
	if back, e := params.Get(b); e != api.OK || !same(back, l) {
		t.Errorf("Get: %v, %v", back, e)
	}
	getErr(t, []byte{0, 65, 0, 3, 'a', 'b', 'c'}, api.ErrShort)
	spots, e := params.PutSpots([]api.Spot{7, 9})
	if back, f := params.GetSpots(spots); e != api.OK || f != api.OK || !slices.Equal(back, []api.Spot{7, 9}) {
		t.Errorf("GetSpots: %v, %v, %v", back, e, f)
	}
	if b, e := params.PutSpots([]api.Spot{7, 7}); e != api.ErrArg || len(b) != 0 {
		t.Errorf("PutSpots: %v, %v", b, e)
	}
	if n, e := params.GetCount([]byte{0, 0, 1, 0}); n != 256 || e != api.OK {
		t.Errorf("GetCount: %d, %v", n, e)
	}
}

// P13.1: bytes that another program told.
func TestToldPieces(t *testing.T) {
	for _, c := range []struct {
		l []api.Param
		b string
	}{
		{[]api.Param{{Type: 65, Body: unhex("616263")}},
			"0041000361626300"},
		{[]api.Param{{Type: 1}},
			"0001000000000000"},
		{[]api.Param{{Type: 65535, Body: unhex("84945f76")}},
			"ffff000484945f76"},
		{[]api.Param{{Type: 258, Body: unhex("4b735f4224")}, {Type: 259, Body: unhex("6d960fdc40078d4b2b86e6df")}, {Type: 4096}, {Type: 32768, Body: unhex("000000")}},
			"010200054b735f4224000000000000000103000c6d960fdc40078d4b2b86e6df10000000000000008000000300000000"},
		{[]api.Param{{Type: 257, Body: unhex("4783b677f9dbbadca03cb186e545e1e35a96675bb681beeb868fca42fb787863bb4325dcedc701d916")}, {Type: 513, Body: unhex("7348fee38151d380b367bf4679fe6c1513b7ae5d97625439735523db13e1af2f")}, {Type: 705, Body: unhex("01409f3ed09a8927f0bb1202a3ab4ffef2726a9710c0504a84d96e84d978b67d")}, {Type: 61697, Body: unhex("93db68b3d913a2cbeb2c2317029c61e6f6c7aa1f94de464b1a39bc506f9d9bc69411b14133b8fbe2de16b3974219a55540027f4c2df5be24b0876d18797ae163")}},
			"010100294783b677f9dbbadca03cb186e545e1e35a96675bb681beeb868fca42fb787863bb4325dcedc701d916000000020100207348fee38151d380b367bf4679fe6c1513b7ae5d97625439735523db13e1af2f0000000002c1002001409f3ed09a8927f0bb1202a3ab4ffef2726a9710c0504a84d96e84d978b67d00000000f101004093db68b3d913a2cbeb2c2317029c61e6f6c7aa1f94de464b1a39bc506f9d9bc69411b14133b8fbe2de16b3974219a55540027f4c2df5be24b0876d18797ae16300000000"},
		{[]api.Param{{Type: 1}, {Type: 4, Body: unhex("c9")}, {Type: 7, Body: unhex("1b1a")}, {Type: 10, Body: unhex("3b46bd")}, {Type: 13, Body: unhex("cb994c98")}, {Type: 16, Body: unhex("852cbe1a0f")}, {Type: 19, Body: unhex("5507368a2eaa")}, {Type: 22, Body: unhex("d952941438309d")}, {Type: 25, Body: unhex("cfc6f1c7894d4ce6")}, {Type: 28, Body: unhex("9a010e848da9737ebf")}, {Type: 31, Body: unhex("d550f7d1854feced63c0")}, {Type: 34, Body: unhex("f3610e11f65b403402449d")}, {Type: 37, Body: unhex("29fe1c6ddb0d0b49984e1bdb")}, {Type: 40, Body: unhex("8373f90b307ca104e6ae701ada")}, {Type: 43, Body: unhex("780633bc4beeb444b074912f8344")}, {Type: 46, Body: unhex("405b351c480decb6c3ffd322e38fad")}},
			"000100000000000000040001c9000000000700021b1a0000000a00033b46bd00000d0004cb994c9800100005852cbe1a0f00000000000000001300065507368a2eaa00000000000000160007d952941438309d000000000000190008cfc6f1c7894d4ce600000000001c00099a010e848da9737ebf000000001f000ad550f7d1854feced63c000000022000bf3610e11f65b403402449d000025000c29fe1c6ddb0d0b49984e1bdb0028000d8373f90b307ca104e6ae701ada00000000000000002b000e780633bc4beeb444b074912f8344000000000000002e000f405b351c480decb6c3ffd322e38fad0000000000"},
	} {
		if b := checkPut(t, c.l); !bytes.Equal(b, unhex(c.b)) {
			t.Errorf("put of %v: %x, want %s", c.l, b, c.b)
		}
		if l, e := params.Get(unhex(c.b)); e != api.OK || !same(l, c.l) {
			t.Errorf("got of %s: %v, %v", c.b, l, e)
		}
	}
}

// P13.1, P13.7: no pieces are no bytes, and back, whatever room is behind.
func TestNone(t *testing.T) {
	room := []byte{0, 1, 0, 0, 0, 0, 0, 0}
	pieces := some(3, 1, 1)
	for _, l := range [][]api.Param{nil, {}, pieces[:0], pieces[3:]} {
		if b, e := params.Put(l); len(b) != 0 || e != api.OK {
			t.Errorf("put: %x, %v", b, e)
		}
		if _, is := params.Find(l, 1); is {
			t.Error("found")
		}
		if got := params.Below(l, 65535); len(got) != 0 {
			t.Errorf("below: %v", got)
		}
		if got, e := params.With(l, pa(5, 2)); e != api.OK || !same(got, []api.Param{pa(5, 2)}) {
			t.Errorf("with: %v, %v", got, e)
		}
	}
	for _, b := range [][]byte{nil, {}, room[:0], room[8:]} {
		if l, e := params.Get(b); len(l) != 0 || e != api.OK {
			t.Errorf("got: %v, %v", l, e)
		}
	}
}

// P13.1, P13.7: every kind of list is put and got, and bytes of it are put again.
func TestPutAndGot(t *testing.T) {
	for _, l := range lists() {
		checkGet(t, checkPut(t, l))
	}
	for n := range 400 {
		var l []api.Param
		at := uint16(0)
		for i := range n % 17 {
			d := drawn(n*17+i, 3)
			at += uint16(d[0])<<(d[2]%5) + 1
			l = append(l, pa(at, int(d[1])%124))
		}
		checkGet(t, checkPut(t, l))
	}
}

// P13.1: a type of 0, and the greatest one, alone and at each place of more.
func TestPutTypes(t *testing.T) {
	putErr(t, []api.Param{{Type: 0}}, api.ErrArg)
	putErr(t, []api.Param{{Type: 0, Body: []byte("abc")}}, api.ErrArg)
	for n := 1; n <= math.MaxUint16; n += 1 + n/40 {
		checkPut(t, []api.Param{{Type: uint16(n)}})
		checkPut(t, []api.Param{pa(uint16(n), n%50)})
	}
	checkPut(t, []api.Param{{Type: math.MaxUint16}})
	for count := 1; count <= 16; count++ {
		for at := range count {
			l := some(count, 1000, 2)
			l[at].Type = 0
			putErr(t, l, api.ErrArg)
			l[at].Type = math.MaxUint16
			if at == count-1 {
				checkPut(t, l)
			} else {
				putErr(t, l, api.ErrArg)
			}
		}
	}
}

// P13.1: types that are there twice, or fall, at each place; that rise by one; high bytes and low ones that rise apart.
func TestPutTypesRise(t *testing.T) {
	for count := 2; count <= 16; count++ {
		for at := 1; at < count; at++ {
			for by := range 3 {
				l := some(count, 1000, 3)
				l[at].Type = l[at-1].Type - uint16(by)
				putErr(t, l, api.ErrArg)
			}
			l := some(count, 1000, 3)
			l[at-1], l[at] = l[at], l[at-1]
			putErr(t, l, api.ErrArg)
		}
		l := some(count, 1000, 3)
		l[count-1].Type = 1000
		putErr(t, l, api.ErrArg)
	}
	types := []uint16{0, 1, 2, 127, 128, 255, 256, 257, 511, 512, 513, 0x0102, 0x0201, 0x7fff, 0x8000, 0x8001, 0xfeff, 0xff00, 0xfffe, 0xffff}
	for _, a := range types {
		for _, b := range types {
			checkPut(t, []api.Param{pa(a, 1), pa(b, 2)})
			for _, c := range types {
				checkPut(t, []api.Param{pa(a, 0), pa(b, 9), pa(c, 5)})
			}
		}
	}
}

// P13.1: bodies of every length up to MaxBytes and beyond, with each number of noughts behind them, alone and ahead of another piece.
func TestPutEachLength(t *testing.T) {
	behind := map[int]int{}
	for n := range 2100 {
		b := checkPut(t, []api.Param{pa(700, n)})
		if n <= 2044 {
			if len(b)%8 != 0 || len(b) < 4+n || len(b) > 4+n+7 {
				t.Errorf("a body of %d bytes: %d", n, len(b))
			}
			behind[len(b)-4-n]++
		} else if len(b) != 0 {
			t.Errorf("a body of %d bytes: %d", n, len(b))
		}
		checkPut(t, []api.Param{pa(700, n), pa(701, 2)})
		checkPut(t, []api.Param{pa(700, 2), pa(701, n)})
	}
	for zeros := range 8 {
		if behind[zeros] < 255 {
			t.Errorf("%d noughts: %d times", zeros, behind[zeros])
		}
	}
}

// P13.1: bodies whose length's low byte, or high byte, alone tells: the length stands in both.
func TestPutLengthBytes(t *testing.T) {
	for _, n := range []int{0, 1, 255, 256, 257, 511, 512, 1024, 2040, 2044} {
		b := mustPut(t, []api.Param{pa(0x1234, n)})
		if !bytes.Equal(b[:4], []byte{0x12, 0x34, byte(n >> 8), byte(n)}) {
			t.Errorf("%d: %x", n, b[:4])
		}
	}
}

// P13.1: just MaxParams pieces, and one more, and many more, of bodies of none and some bytes.
func TestPutCounts(t *testing.T) {
	for count := range 40 {
		for _, body := range []int{0, 1, 4, 100} {
			checkPut(t, some(count, 1, body))
		}
	}
	putErr(t, some(17, 1, 0), api.ErrLimit)
	putErr(t, some(17, 65519, 0), api.ErrLimit)
	putErr(t, some(65535, 1, 0), api.ErrLimit)
}

// P13.1: pieces that in bytes are just MaxBytes, and those that are more, whatever piece it is that has more.
func TestPutBytes(t *testing.T) {
	for _, l := range [][]api.Param{{pa(1, 2044)}, {pa(1, 1020), pa(2, 1020)}, {pa(1, 4), pa(2, 2036)}, some(16, 1, 124), some(8, 9, 252), some(4, 9, 508), {pa(1, 2029), pa(2, 0)}} {
		b := checkPut(t, l)
		if len(b) != 2048 {
			t.Errorf("%d bytes", len(b))
		}
		for i := range l {
			more := copied(l)
			more[i] = pa(l[i].Type, (len(l[i].Body)+4+7)/8*8-4+1)
			putErr(t, more, api.ErrLimit)
		}
		putErr(t, append(copied(l), api.Param{Type: 65535}), api.ErrLimit)
	}
	for _, l := range [][]api.Param{{pa(1, 2045)}, {pa(1, 2048)}, {pa(1, 2049)}, {pa(1, 2052)}, {pa(1, 1020), pa(2, 1021)}, {pa(1, 2000), pa(2, 2000)}, some(16, 1, 125), some(16, 1, 2048), some(16, 1, 5000)} {
		putErr(t, l, api.ErrLimit)
	}
}

// P13.1: a body so long that what tells its length has gone round is above the limit all the same.
func TestPutLongBodies(t *testing.T) {
	for _, n := range []int{2048, 2049, 4096, 65535, 65536, 65537, 65536 + 2044, 1 << 17, 1<<20 + 3, 1 << 24} {
		body := make([]byte, n)
		for at := range 3 {
			l := some(3, 5, 8)
			l[at].Body = body
			putErr(t, l, api.ErrLimit)
		}
		putErr(t, []api.Param{{Type: 65535, Body: body}}, api.ErrLimit)
	}
}

// P13.1: types that may not be go ahead of every limit.
func TestPutWhichErrorGoesAhead(t *testing.T) {
	for _, l := range [][]api.Param{
		append(some(16, 1, 0), api.Param{Type: 16}),
		append(some(17, 1, 0), api.Param{Type: 1}),
		append([]api.Param{{}}, some(16, 1, 0)...),
		append(some(40, 1, 200), api.Param{}),
		{{Type: 0, Body: make([]byte, 2049)}},
		{{Type: 1, Body: make([]byte, 3000)}, {Type: 1}},
		{{Type: 1, Body: make([]byte, 3000)}, {Type: 0}},
		{{Type: 2, Body: make([]byte, 3000)}, {Type: 1, Body: make([]byte, 70000)}},
		{{Type: 9, Body: make([]byte, 1500)}, {Type: 9, Body: make([]byte, 1500)}},
	} {
		putErr(t, l, api.ErrArg)
	}
	many := some(65535, 1, 0)
	many[65534].Type = 65534
	putErr(t, many, api.ErrArg)
}

// P13.1: bytes cut off anywhere are ErrShort, but between two pieces.
func TestGetCut(t *testing.T) {
	for _, l := range lists() {
		b := mustPut(t, l)
		ends := map[int]int{0: 0}
		end := 0
		for i, p := range l {
			end += len(inBytes(p))
			ends[end] = i + 1
		}
		for n := range b {
			if pieces, between := ends[n]; !between {
				getErr(t, b[:n], api.ErrShort)
			} else if got, e := params.Get(b[:n]); e != api.OK || !same(got, l[:pieces]) {
				t.Errorf("cut at %d: %v, %v", n, got, e)
			}
			checkGet(t, b[n:])
		}
	}
}

// P13.1: with a byte more, up to seven, they are ErrShort, or ErrLimit above MaxBytes; with eight, whatever these are.
func TestGetMore(t *testing.T) {
	for _, l := range lists() {
		b := mustPut(t, l)
		want := api.ErrShort
		if len(b) == 2048 {
			want = api.ErrLimit
		}
		for more := 1; more < 8; more++ {
			for _, x := range []byte{0, 1, 255} {
				getErr(t, append(bytes.Clone(b), bytes.Repeat([]byte{x}, more)...), want)
			}
		}
		checkGet(t, append(bytes.Clone(b), make([]byte, 8)...))
		checkGet(t, append(bytes.Clone(b), 255, 255, 0, 4, 1, 2, 3, 4))
		checkGet(t, append(bytes.Clone(b), 0, 1, 0, 0, 0, 0, 0, 0))
	}
}

// P13.1: where there should be noughts, each other bit is ErrForm, in the first piece and in the last one.
func TestGetNoughts(t *testing.T) {
	for _, ahead := range []int{0, 1, 3} {
		for body := range 20 {
			l := append(some(ahead, 1, 3), pa(500, body), pa(501, 4))
			b := mustPut(t, l)
			from := ahead*8 + 4 + body
			to := ahead*8 + (4+body+7)/8*8
			for at := from; at < to; at++ {
				for bit := range 8 {
					c := bytes.Clone(b)
					c[at] ^= 1 << bit
					getErr(t, c, api.ErrForm)
					getErr(t, c[:to], api.ErrForm)
				}
			}
		}
	}
}

// P13.1: fewer noughts than there should be are ErrShort, and more of them are the beginning of a piece.
func TestGetCountOfNoughts(t *testing.T) {
	for body := range 20 {
		b := mustPut(t, []api.Param{pa(5, body)})
		for n := 4 + body; n < len(b); n++ {
			getErr(t, b[:n], api.ErrShort)
		}
		getErr(t, append(bytes.Clone(b), make([]byte, 4)...), api.ErrShort)
		getErr(t, append(bytes.Clone(b), make([]byte, 8)...), api.ErrForm)
	}
}

// P13.1: types of 0, the same twice, falling, rising, at each place.
func TestGetTypes(t *testing.T) {
	one := func(n uint16) []byte { return inBytes(pa(n, 6)) }
	getErr(t, one(0), api.ErrForm)
	for n := 1; n <= math.MaxUint16; n += 1 + n/30 {
		checkGet(t, one(uint16(n)))
		checkGet(t, append(one(uint16(n)), one(uint16(n))...))
		checkGet(t, append(one(uint16(n-1)), one(uint16(n))...))
		checkGet(t, append(one(uint16(n)), one(uint16(n-1))...))
		checkGet(t, append(one(uint16(n)), one(0)...))
	}
	for count := 1; count <= 16; count++ {
		for at := range count {
			b := mustPut(t, some(count, 1000, 12))
			if checkGet(t, b) != api.OK {
				t.Fatal(count)
			}
			for _, n := range []uint16{0, 1, 999, 1000, uint16(1000 + at - 1), uint16(1000 + at), uint16(1000 + at + 1), 0x03ff, 0x0400, 65535} {
				binary.BigEndian.PutUint16(b[at*16:], n)
				checkGet(t, b)
			}
		}
	}
}

// P13.1: just MaxParams pieces are got, with one more it is ErrLimit, and with many.
func TestGetCounts(t *testing.T) {
	var b []byte
	for count := 1; count <= 256; count++ {
		b = append(b, inBytes(api.Param{Type: uint16(count)})...)
		if count <= 16 {
			if checkGet(t, b) != api.OK {
				t.Fatal(count)
			}
		} else {
			getErr(t, b, api.ErrLimit)
		}
	}
}

// P13.1: just MaxBytes bytes are got, a byte more is ErrLimit, whatever the bytes are.
func TestGetBytes(t *testing.T) {
	for _, l := range [][]api.Param{{pa(1, 2044)}, some(16, 1, 124)} {
		b := mustPut(t, l)
		if len(b) != 2048 || checkGet(t, b) != api.OK {
			t.Errorf("%d bytes", len(b))
		}
		getErr(t, append(b, 0), api.ErrLimit)
		getErr(t, append(b, inBytes(api.Param{Type: 65535})...), api.ErrLimit)
	}
	getErr(t, inBytes(pa(1, 2045)), api.ErrLimit)
	for _, n := range []int{2049, 2050, 2056, 4096, 65536, 1 << 20} {
		getErr(t, make([]byte, n), api.ErrLimit)
		getErr(t, bytes.Repeat([]byte{255}, n), api.ErrLimit)
		getErr(t, drawn(n, n), api.ErrLimit)
	}
	getErr(t, make([]byte, 2048), api.ErrForm)
	getErr(t, bytes.Repeat([]byte{255}, 2048), api.ErrShort)
}

// P13.1: every length that may be told, of bytes that are as many or fewer.
func TestGetToldLengths(t *testing.T) {
	for _, all := range []int{8, 16, 64, 2048} {
		b := make([]byte, all)
		b[1] = 7
		for told := range 65536 {
			binary.BigEndian.PutUint16(b[2:], uint16(told))
			if all < 2048 || told > 2000 || told%8 == 0 {
				checkGet(t, b)
			}
		}
	}
}

// P13.1: within a piece ErrShort goes ahead of ErrForm, and that ahead of ErrLimit; of two pieces the first one's error goes ahead.
func TestGetWhichErrorGoesAhead(t *testing.T) {
	sixteen := mustPut(t, some(16, 10, 4))
	for _, c := range []struct {
		more []byte
		want api.Errno
	}{
		{[]byte{0}, api.ErrShort},                            // fewer than four bytes
		{[]byte{0, 0, 0}, api.ErrShort},                      // of the type 0, too
		{[]byte{0, 0, 0, 1}, api.ErrShort},                   // fewer than told, of the type 0
		{[]byte{0, 0, 0, 1, 1, 0, 0}, api.ErrShort},          // not the noughts
		{[]byte{0, 0, 0, 1, 1, 9, 9}, api.ErrShort},          // nor are those noughts
		{[]byte{0, 0, 255, 255, 1, 9, 9, 9}, api.ErrShort},   // far fewer than told
		{[]byte{0, 25, 0, 5, 1, 2, 3, 4}, api.ErrShort},      // of the type of the one ahead
		{[]byte{255, 255, 0, 5, 1, 2, 3, 4}, api.ErrShort},   // of a type that may be
		{[]byte{0, 0, 0, 4, 1, 2, 3, 4}, api.ErrForm},        // of the type 0
		{[]byte{0, 25, 0, 4, 1, 2, 3, 4}, api.ErrForm},       // of the type of the one ahead
		{[]byte{0, 24, 0, 4, 1, 2, 3, 4}, api.ErrForm},       // falling
		{[]byte{0, 26, 0, 3, 1, 2, 3, 4}, api.ErrForm},       // no nought
		{[]byte{0, 26, 0, 4, 1, 2, 3, 4}, api.ErrLimit},      // one more
		{[]byte{0, 26, 0, 4, 1, 2, 3, 4, 0}, api.ErrLimit},   // and one that is short behind it
		{[]byte{255, 255, 0, 0, 0, 0, 0, 0}, api.ErrLimit},   // one more
		{append(make([]byte, 8), 1, 2, 3), api.ErrForm},      // the first of two
		{append([]byte{0, 26, 0, 9}, 1, 2, 3), api.ErrShort}, // one more, cut
	} {
		getErr(t, append(bytes.Clone(sixteen), c.more...), c.want)
		if alone := c.want; alone == api.ErrShort {
			getErr(t, append(mustPut(t, some(2, 24, 4)), c.more...), alone)
		}
		checkGet(t, c.more)
	}
	getErr(t, append([]byte{0, 0, 0, 0, 0, 0, 0, 0}, make([]byte, 2041)...), api.ErrLimit)
	getErr(t, append([]byte{0, 1, 0, 1, 1, 0, 0, 1}, 0, 2, 0, 200), api.ErrForm)
	getErr(t, append([]byte{0, 1, 0, 1, 1, 0, 0, 0}, 0, 1, 0, 200), api.ErrShort)
	// The first of many is none: that goes ahead of how many there are.
	b := make([]byte, 0, 200)
	for range 20 {
		b = append(b, 0, 1, 0, 0, 0, 0, 0, 0)
	}
	getErr(t, b, api.ErrForm)
}

// P13.1, P13.7: with any one byte another one, the pieces are others or none; what is got is put.
func TestGetEachByte(t *testing.T) {
	for _, l := range [][]api.Param{{pa(65, 3)}, {pa(1, 4), pa(0x0203, 5)}, {pa(255, 1), pa(256, 0), pa(65535, 9)}, some(16, 1, 3)} {
		b := mustPut(t, l)
		for at := range b {
			for x := range 256 {
				c := bytes.Clone(b)
				c[at] = byte(x)
				if checkGet(t, c) == api.OK && !bytes.Equal(c, b) {
					if got, _ := params.Get(c); same(got, l) {
						t.Errorf("%x and %x are the same pieces", b, c)
					}
				}
			}
		}
	}
}

// P13.2: the body of the first piece of a type, at each place, of lists that may not be, too.
func TestFind(t *testing.T) {
	hold := func(l []api.Param, n uint16) {
		t.Helper()
		var want []byte
		wantIs := false
		for i := len(l) - 1; i >= 0; i-- {
			if l[i].Type == n {
				want, wantIs = l[i].Body, true
			}
		}
		if b, is := params.Find(l, n); is != wantIs || !bytes.Equal(b, want) {
			t.Errorf("%d of %v: %x, %v", n, l, b, is)
		}
	}
	all := append(lists(),
		[]api.Param{pa(5, 1), pa(3, 2), pa(5, 7), pa(3, 9), {Type: 0, Body: []byte("z")}, {Type: 0}},
		[]api.Param{{Type: 9}, {Type: 9, Body: []byte("later")}, {Type: 8, Body: []byte("b")}, {Type: 8}},
		[]api.Param{{}}, some(100, 65000, 2100))
	for _, l := range all {
		for _, p := range l {
			for _, n := range []uint16{p.Type - 1, p.Type, p.Type + 1, p.Type ^ 256, p.Type << 8, 0, 65535} {
				hold(l, n)
			}
		}
		hold(l, 0)
		hold(l, 1)
		hold(l, 65535)
	}
	if b, is := params.Find([]api.Param{{Type: 7}}, 7); !is || len(b) != 0 {
		t.Errorf("of no bytes: %x, %v", b, is)
	}
	if b, is := params.Find([]api.Param{{Type: 7, Body: []byte("a")}}, 8); is || len(b) != 0 {
		t.Errorf("of none: %x, %v", b, is)
	}
}

// rightWith answers the pieces with one more by the chapter's words: sorted.
func rightWith(l []api.Param, p api.Param) ([]api.Param, api.Errno) {
	has := func(x api.Param) bool { return x.Type == p.Type }
	switch {
	case !rise(l) || p.Type == 0:
		return nil, api.ErrArg
	case slices.ContainsFunc(l, has):
		return nil, api.ErrThere
	case len(l) >= 16:
		return nil, api.ErrLimit
	}
	out := append(slices.Clone(l), p)
	slices.SortFunc(out, func(a, b api.Param) int { return int(a.Type) - int(b.Type) })
	return out, api.OK
}

// checkWith holds the pieces with one more against the chapter's words.
func checkWith(t testing.TB, l []api.Param, p api.Param) api.Errno {
	t.Helper()
	got, e := params.With(l, p)
	if want, wantE := rightWith(l, p); e != wantE || !same(got, want) {
		t.Errorf("%v with %v: %v, %v, want %v, %v", l, p, got, e, want, wantE)
	}
	return e
}

// P13.2: a piece ahead of all, behind all, between each two, and of a type that is there.
func TestWith(t *testing.T) {
	for count := range 16 {
		var l []api.Param
		for i := range count {
			l = append(l, pa(uint16(i*10+10), i))
		}
		for n := 1; n <= count*10+11; n++ {
			e := checkWith(t, l, pa(uint16(n), 5))
			if there := n%10 == 0 && n <= count*10; there != (e == api.ErrThere) || !there && e != api.OK {
				t.Errorf("%d pieces with %d: %v", count, n, e)
			}
		}
		checkWith(t, l, api.Param{Type: 65535})
		checkWith(t, l, api.Param{})
		checkWith(t, l, api.Param{Body: []byte("abc")})
	}
	for _, l := range lists() {
		for n := 1; n <= math.MaxUint16; n += 1 + n/40 {
			checkWith(t, l, pa(uint16(n), n%9))
		}
	}
}

// P13.2: among MaxParams, and more, there is no room; what is there goes ahead of that, and what may not be ahead of both.
func TestWithLimits(t *testing.T) {
	for _, count := range []int{15, 16, 17, 18, 40} {
		l := some(count, 100, 3)
		for _, n := range []uint16{1, 99, 100, 101, 115, 116, 117, 140, 65535} {
			checkWith(t, l, pa(n, 1))
		}
		checkWith(t, l, api.Param{})
	}
	if e := checkWith(t, some(15, 100, 3), pa(99, 1)); e != api.OK {
		t.Errorf("15: %v", e)
	}
	if e := checkWith(t, some(16, 100, 3), pa(99, 1)); e != api.ErrLimit {
		t.Errorf("16: %v", e)
	}
	if e := checkWith(t, some(16, 100, 3), pa(107, 1)); e != api.ErrThere {
		t.Errorf("16, there: %v", e)
	}
	for _, l := range [][]api.Param{{{}}, {pa(2, 1), pa(2, 1)}, {pa(2, 1), pa(1, 1)}, {pa(9, 1), {}}, append(some(16, 5, 0), pa(5, 1)), append(some(20, 5, 0), api.Param{})} {
		for _, n := range []uint16{0, 1, 2, 3, 5, 9, 30, 65535} {
			if e := checkWith(t, l, pa(n, 2)); e != api.ErrArg {
				t.Errorf("%v with %d: %v", l, n, e)
			}
		}
	}
}

// P13.2: those below a type, in order, at each border; of lists that may not be, in the order that they have.
func TestBelow(t *testing.T) {
	hold := func(l []api.Param, n uint16) {
		t.Helper()
		want := slices.DeleteFunc(slices.Clone(l), func(p api.Param) bool { return p.Type >= n })
		if got := params.Below(l, n); !same(got, want) {
			t.Errorf("below %d of %v: %v", n, l, got)
		}
	}
	for _, l := range append(lists(), []api.Param{pa(5, 1), pa(3, 2), {}, pa(9, 1), pa(3, 4), pa(65535, 2)}, some(300, 65236, 3)) {
		for _, p := range l {
			for _, n := range []uint16{p.Type - 1, p.Type, p.Type + 1} {
				hold(l, n)
			}
		}
		for _, n := range []uint16{0, 1, 2, 255, 256, 61505, 61697, 65534, 65535} {
			hold(l, n)
		}
		if got := params.Below(l, 0); len(got) != 0 {
			t.Errorf("below 0: %v", got)
		}
	}
}

// P13.7: Below and With know nothing of bodies: of none, of too many bytes, and all together.
func TestBodiesDoNotCount(t *testing.T) {
	for _, n := range []int{0, 1, 2044, 2045, 2048, 2049, 5000, 70000} {
		l := []api.Param{pa(5, n), pa(7, n)}
		for _, at := range []uint16{1, 6, 9} {
			if e := checkWith(t, l, pa(at, n)); e != api.OK {
				t.Errorf("%d bytes: %v", n, e)
			}
		}
		if got := params.Below(l, 7); !same(got, l[:1]) {
			t.Errorf("below, of %d bytes: %d pieces", n, len(got))
		}
		if b, is := params.Find(l, 7); !is || !bytes.Equal(b, l[1].Body) {
			t.Errorf("found, of %d bytes: %d", n, len(b))
		}
	}
}

// P13.7: what is below a type, and has the piece of that type, and is behind it, is the whole again.
func TestBelowAndWith(t *testing.T) {
	for _, l := range lists() {
		for i, p := range l {
			without := slices.Delete(slices.Clone(l), i, i+1)
			if got, e := params.With(without, p); e != api.OK || !same(got, l) {
				t.Errorf("%v with %v: %v, %v", without, p, got, e)
			}
			if got, e := params.With(params.Below(l, p.Type), p); e != api.OK || !same(got, l[:i+1]) {
				t.Errorf("below, with %v: %v, %v", p, got, e)
			}
		}
	}
}

// spoilPieces writes over all memory of the pieces, the spare room too.
func spoilPieces(l []api.Param) {
	l = l[:cap(l)]
	for i := range l {
		l[i].Type ^= 0x5a5a
		spoil(l[i].Body)
		l[i].Body = nil
	}
}

// spoil writes over all the bytes' memory.
func spoil(b []byte) {
	b = b[:cap(b)]
	for i := range b {
		b[i] ^= 0xa5
	}
}

// R4: what is handed in is not changed, its spare room neither, and is not kept: who writes over it changes no answer.
func TestHandedInStaysAsItIs(t *testing.T) {
	for _, l := range lists() {
		if len(l) > 15 {
			l = l[:15]
		}
		room := make([]api.Param, 0, len(l)+4)
		for _, p := range l {
			body := append(make([]byte, 0, len(p.Body)+20), p.Body...)
			copy(body[len(body):cap(body)], drawn(3, 20))
			room = append(room, api.Param{Type: p.Type, Body: body})
		}
		spare := room[len(l):cap(room)]
		for i := range spare {
			spare[i] = api.Param{Type: uint16(i + 7), Body: []byte("spare")}
		}
		more := api.Param{Type: 50, Body: append(make([]byte, 0, 30), "more"...)}
		if _, there := params.Find(l, more.Type); there {
			t.Fatal(l)
		}
		put := mustPut(t, room)
		with, e := params.With(room, more)
		below := params.Below(room, 300)
		var found [][]byte
		for _, p := range l {
			b, _ := params.Find(room, p.Type)
			found = append(found, b)
		}
		if !same(room, l) || string(more.Body) != "more" || !bytes.Equal(more.Body[4:30], make([]byte, 26)) {
			t.Errorf("%v was changed", l)
		}
		for i, p := range room {
			if !bytes.Equal(p.Body[len(p.Body):len(l[i].Body)+20], drawn(3, 20)) {
				t.Errorf("the spare room of %v was changed", l)
			}
		}
		for i, p := range spare {
			if p.Type != uint16(i+7) || string(p.Body) != "spare" {
				t.Errorf("the spare room behind %v was changed", l)
			}
		}
		spoilPieces(room)
		spoil(more.Body)
		want, wantE := rightWith(l, api.Param{Type: 50, Body: []byte("more")})
		if e != wantE || !same(with, want) || !bytes.Equal(put, mustPut(t, l)) || !same(below, params.Below(l, 300)) {
			t.Errorf("what was answered of %v has changed", l)
		}
		for i, b := range found {
			if !bytes.Equal(b, l[i].Body) {
				t.Errorf("what was found in %v has changed", l)
			}
		}
	}
}

// R4: bytes of which pieces are got are not changed, and not kept.
func TestGetKeepsNothing(t *testing.T) {
	for _, l := range lists() {
		b := append(mustPut(t, l), drawn(1, 40)...)
		was := bytes.Clone(b)
		b = b[: len(b)-40 : len(b)]
		got, e := params.Get(b)
		if !bytes.Equal(b[:cap(b)], was) {
			t.Errorf("%x was changed", was)
		}
		spoil(b)
		if e != api.OK || !same(got, l) {
			t.Errorf("what was got of %v has changed: %v, %v", l, got, e)
		}
	}
}

// R4: an answer is new memory, spare room too: who writes into one list of it changes no other one, nor another answer, nor what was handed in.
func TestAnswerIsNewMemory(t *testing.T) {
	for _, l := range lists() {
		b := mustPut(t, l)
		was := bytes.Clone(b)
		for _, answer := range []func() []api.Param{
			func() []api.Param { got, _ := params.Get(b); return got },
			func() []api.Param { return params.Below(l, 60000) },
			func() []api.Param { got, _ := params.With(l, pa(50, 9)); return got },
		} {
			one, other := answer(), answer()
			want := copied(one)
			for i := range one {
				spoil(one[i].Body)
				for j := range one {
					if i != j && !bytes.Equal(one[j].Body, want[j].Body) {
						t.Fatalf("a piece of %v shares with another one", want)
					}
				}
				spoil(one[i].Body)
			}
			spoilPieces(one)
			if !same(other, want) || !same(answer(), want) || !bytes.Equal(b, was) || !bytes.Equal(mustPut(t, l), was) {
				t.Errorf("%v shares with another answer", want)
			}
		}
		other := mustPut(t, l)
		spoil(b)
		if !bytes.Equal(other, was) || !bytes.Equal(mustPut(t, l), was) {
			t.Errorf("bytes of %v share with others", l)
		}
		for _, p := range l {
			one, _ := params.Find(l, p.Type)
			other, _ := params.Find(l, p.Type)
			spoil(one)
			if !bytes.Equal(other, p.Body) || !bytes.Equal(mustPut(t, l), was) {
				t.Errorf("what is found in %v shares", l)
			}
		}
	}
}

// R5: who asks at the same time as others is answered alike, whatever was asked ahead.
func TestAskedAtOnce(t *testing.T) {
	all := lists()
	var wait sync.WaitGroup
	for i := range 8 {
		wait.Go(func() {
			for j := range 60 {
				l := all[(i+j)%len(all)]
				b := checkPut(t, l)
				checkGet(t, b)
				checkGet(t, b[:len(b)*j/60])
				checkWith(t, l, pa(uint16(j*i), j))
				params.Below(l, uint16(j))
				checkPut(t, some(j, uint16(i), j*3))
				params.Find(l, uint16(j))
			}
		})
	}
	wait.Wait()
}

// R1, P13.7: at any bytes nothing panics, and what is got is put, what is put is got.
func FuzzParams(f *testing.F) {
	f.Add([]byte(nil), uint16(0))
	for _, l := range lists() {
		b, _ := params.Put(l)
		f.Add(b, uint16(300))
	}
	f.Add([]byte{0, 65, 0, 3, 'a', 'b', 'c'}, uint16(65))
	f.Add([]byte{0, 65, 0, 3, 'a', 'b', 'c', 1}, uint16(66))
	f.Add([]byte{4, 0, 0, 0, 1, 0, 0, 0, 2, 0, 0, 0, 3, 0, 0, 0, 4}, uint16(65535))
	f.Fuzz(func(t *testing.T, b []byte, n uint16) {
		if checkGet(t, b) == api.OK {
			l, _ := params.Get(b)
			checkWith(t, l, api.Param{Type: n, Body: b})
			params.Below(l, n)
		}
		var l []api.Param
		at := 0
		for x := range bytes.SplitSeq(b, []byte{0}) {
			at += 1 + len(x)
			l = append(l, api.Param{Type: uint16(at) * (n | 1), Body: x})
		}
		checkPut(t, l)
		checkWith(t, l, api.Param{Type: n})
		for _, k := range kinds {
			checkBody(t, k, b)
		}
	})
}

func BenchmarkPut(b *testing.B) {
	l := lists()[6]
	for b.Loop() {
		params.Put(l)
	}
}

func BenchmarkGet(b *testing.B) {
	l, _ := params.Put(lists()[6])
	for b.Loop() {
		params.Get(l)
	}
}

func BenchmarkWith(b *testing.B) {
	l := lists()[6]
	for b.Loop() {
		params.With(l, api.Param{Type: 300})
	}
}
