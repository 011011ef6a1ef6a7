package divides_test

import (
	"encoding/binary"
	"math"
	"math/big"
	"testing"

	"burrow/api"
	"burrow/divides"
	"burrow/limbs"
)

const (
	all = math.MaxUint64
	top = 1 << 63
)

var (
	none  = api.Num{}
	one   = api.Num{1}
	most  = api.Num{all, all, all, all}
	round = new(big.Int).Lsh(big.NewInt(1), 256)
)

// power answers 2^n.
func power(n int) api.Num {
	var a api.Num
	a[n/64] = 1 << (n % 64)
	return a
}

// number answers a by the library's long numbers, which all answers are held against.
func number(a api.Num) *big.Int {
	var b [32]byte
	for i, w := range a {
		binary.BigEndian.PutUint64(b[24-8*i:], w)
	}
	return new(big.Int).SetBytes(b[:])
}

// both answers high times 2^256 and low, together.
func both(low, high api.Num) *big.Int {
	whole := new(big.Int).Lsh(number(high), 256)
	return whole.Add(whole, number(low))
}

// long answers n, which is at least 0 and below 2^256.
func long(n *big.Int) api.Num {
	var b [32]byte
	n.FillBytes(b[:])
	var a api.Num
	for i := range a {
		a[i] = binary.BigEndian.Uint64(b[24-8*i:])
	}
	return a
}

// draws answers a function that tells words without a pattern, the same ones each time.
func draws() func() uint64 {
	state := uint64(1)
	return func() uint64 {
		state = state*6364136223846793005 + 1442695040888963407
		return state ^ state>>29
	}
}

// edges are 0, 2^256 - 1, and powers of two at the words' edges with their neighbours.
func edges() []api.Num {
	list := []api.Num{none, one, {2}, {3}, {5}, {6}, {7}, most, {all - 1, all, all, all}, {all}, {0, all}, {0, 0, 0, all}, {all, 0, all}}
	for _, n := range []int{31, 32, 63, 64, 65, 127, 128, 129, 191, 192, 193, 254, 255} {
		below, _ := limbs.Sub(power(n), one)
		above, _ := limbs.Add(power(n), one)
		list = append(list, below, power(n), above)
	}
	return list
}

// samples are the edges, and numbers of all lengths without a pattern.
func samples() []api.Num {
	list, next := edges(), draws()
	for n := 8; n <= 256; n += 8 {
		list = append(list, limbs.Shift(api.Num{next(), next(), next(), next()}, n-256))
	}
	return list
}

// rest answers the rest of a by m, and fails the test where there is none.
func rest(t *testing.T, a, m api.Num) api.Num {
	t.Helper()
	_, r, e := divides.Div(a, m)
	if e != api.OK {
		t.Fatalf("Div(%v, %v): %v", a, m, e)
	}
	return r
}

// goes answers whether d goes into a without a rest.
func goes(t *testing.T, d, a api.Num) bool {
	t.Helper()
	return rest(t, a, d) == none
}

// The chapter's table of examples.
func TestExamples(t *testing.T) {
	if q, r, e := divides.Div(api.Num{17}, api.Num{5}); q != (api.Num{3}) || r != (api.Num{2}) || e != api.OK {
		t.Errorf("Div(17, 5) = %v, %v, %v", q, r, e)
	}
	if q, r, e := divides.Div(power(200), power(100)); q != power(100) || r != none || e != api.OK {
		t.Errorf("Div(2^200, 2^100) = %v, %v, %v", q, r, e)
	}
	if q, r, e := divides.Div(one, none); q != none || r != none || e != api.ErrArg {
		t.Errorf("Div(1, 0) = %v, %v, %v", q, r, e)
	}
	if r, e := divides.Wide(api.Num{5}, one, power(255)); r != (api.Num{5}) || e != api.OK {
		t.Errorf("Wide(5, 1, 2^255) = %v, %v", r, e)
	}
	if r, e := divides.Wide(one, api.Num{3}, api.Num{7}); r != none || e != api.OK {
		t.Errorf("Wide(1, 3, 7) = %v, %v", r, e)
	}
	for _, c := range []struct{ a, b, want api.Num }{
		{api.Num{12}, api.Num{18}, api.Num{6}}, {none, api.Num{5}, api.Num{5}}, {none, none, none},
	} {
		if got := divides.Common(c.a, c.b); got != c.want {
			t.Errorf("Common(%v, %v) = %v, want %v", c.a, c.b, got, c.want)
		}
	}
}

// P3.1: how often, and what is left, of all numbers by all others.
func TestDiv(t *testing.T) {
	list := samples()
	for _, a := range list {
		for _, b := range list {
			if b == none {
				continue
			}
			wantQ, wantR := new(big.Int).QuoRem(number(a), number(b), new(big.Int))
			if q, r, e := divides.Div(a, b); q != long(wantQ) || r != long(wantR) || e != api.OK {
				t.Errorf("Div(%v, %v) = %v, %v, %v", a, b, q, r, e)
			}
		}
	}
}

// P3.1, R2: by 0 nothing is divided, and nothing is told beside the error.
func TestDivByNone(t *testing.T) {
	for _, a := range samples() {
		if q, r, e := divides.Div(a, none); q != none || r != none || e != api.ErrArg {
			t.Errorf("Div(%v, 0) = %v, %v, %v", a, q, r, e)
		}
	}
}

// P3.1: by 1, by itself, by 2^256 - 1, by more than there is, and of 0.
func TestDivAtTheEdge(t *testing.T) {
	for _, a := range samples() {
		if q, r, e := divides.Div(a, one); q != a || r != none || e != api.OK {
			t.Errorf("Div(%v, 1) = %v, %v, %v", a, q, r, e)
		}
		if q, r, e := divides.Div(a, most); a != most && (q != none || r != a || e != api.OK) {
			t.Errorf("Div(%v, 2^256 - 1) = %v, %v, %v", a, q, r, e)
		}
		if a == none {
			continue
		}
		if q, r, e := divides.Div(a, a); q != one || r != none || e != api.OK {
			t.Errorf("Div(%v, itself) = %v, %v, %v", a, q, r, e)
		}
		if q, r, e := divides.Div(none, a); q != none || r != none || e != api.OK {
			t.Errorf("Div(0, %v) = %v, %v, %v", a, q, r, e)
		}
		less, _ := limbs.Sub(a, one)
		if q, r, e := divides.Div(less, a); q != none || r != less || e != api.OK {
			t.Errorf("Div(%v, one more) = %v, %v, %v", less, q, r, e)
		}
	}
}

// P3.1: by a power of two the bits part at its place.
func TestDivByPowers(t *testing.T) {
	for _, a := range samples() {
		for n := range 256 {
			below, _ := limbs.Sub(power(n), one)
			var want api.Num
			for i := range want {
				want[i] = a[i] & below[i]
			}
			if q, r, e := divides.Div(a, power(n)); q != limbs.Shift(a, -n) || r != want || e != api.OK {
				t.Errorf("Div(%v, 2^%d) = %v, %v, %v", a, n, q, r, e)
			}
		}
	}
}

// P3.1: a quotient at the words' edges, with the least and the greatest rest.
func TestDivQuotientAtTheEdge(t *testing.T) {
	for _, b := range samples() {
		if b == none {
			continue
		}
		for _, q := range edges() {
			low, high := limbs.Mul(q, b)
			if high != none {
				continue
			}
			if got, r, e := divides.Div(low, b); got != q || r != none || e != api.OK {
				t.Errorf("%v times %v, by %v: %v, %v, %v", q, b, b, got, r, e)
			}
			less, _ := limbs.Sub(b, one)
			last, over := limbs.Add(low, less)
			if got, r, e := divides.Div(last, b); over == 0 && (got != q || r != less || e != api.OK) {
				t.Errorf("%v by %v: %v, %v, %v", last, b, got, r, e)
			}
		}
	}
}

// P3.2: the rest of two numbers together, of all by all others.
func TestWide(t *testing.T) {
	list := samples()
	for i, low := range list {
		for j, high := range list {
			// Some of them, taken in turn: every number still stands beside every other one, at each two places.
			for k := (i + j) % 9; k < len(list); k += 9 {
				m := list[k]
				if m == none {
					continue
				}
				want := new(big.Int).Mod(both(low, high), number(m))
				if r, e := divides.Wide(low, high, m); r != long(want) || e != api.OK {
					t.Errorf("Wide(%v, %v, %v) = %v, %v", low, high, m, r, e)
				}
			}
		}
	}
}

// P3.2, R2: by 0 there is no rest, whatever there is.
func TestWideByNone(t *testing.T) {
	for _, a := range samples() {
		for _, b := range []api.Num{none, one, a, most} {
			if r, e := divides.Wide(a, b, none); r != none || e != api.ErrArg {
				t.Errorf("Wide(%v, %v, 0) = %v, %v", a, b, r, e)
			}
		}
	}
}

// P3.2: high 0, the same as m, one below it and above it; m 1; all words full.
func TestWideAtTheEdge(t *testing.T) {
	for _, c := range []struct{ low, high, m, want api.Num }{
		{none, none, one, none},
		{none, none, most, none},
		{most, most, one, none},
		{most, most, most, none},
		{most, most, api.Num{2}, one},
		{most, none, most, none},
		{none, one, most, one},
		{none, most, most, none},
		{one, most, most, one},
		{most, api.Num{all - 1, all, all, all}, most, api.Num{all - 1, all, all, all}},
		{none, api.Num{2}, api.Num{1, 0, 0, top}, api.Num{all - 2, all, all, top - 1}},
		{none, power(255), api.Num{1, 0, 0, top}, api.Num{2}},
		{most, power(255), power(255), api.Num{all, all, all, top - 1}},
		{most, most, power(255), api.Num{all, all, all, top - 1}},
		{api.Num{9}, api.Num{7}, api.Num{7}, api.Num{2}},
		{api.Num{9}, api.Num{0, 0, 0, 7}, api.Num{7}, api.Num{2}},
	} {
		if r, e := divides.Wide(c.low, c.high, c.m); r != c.want || e != api.OK {
			t.Errorf("Wide(%v, %v, %v) = %v, %v, want %v", c.low, c.high, c.m, r, e, c.want)
		}
	}
}

// P3.2: where m goes into high without a rest, the rest is that of low alone.
func TestWideOfLowAlone(t *testing.T) {
	for _, low := range samples() {
		for _, m := range edges() {
			if m == none {
				continue
			}
			want := rest(t, low, m)
			often, _, _ := divides.Div(most, m)
			last, _ := limbs.Mul(often, m)
			for _, high := range []api.Num{none, m, last} {
				if r, e := divides.Wide(low, high, m); r != want || e != api.OK {
					t.Errorf("Wide(%v, %v, %v) = %v, %v, want %v", low, high, m, r, e, want)
				}
			}
		}
	}
}

// P3.2: a power of two leaves what low has below it, whatever high is.
func TestWideByPowers(t *testing.T) {
	for _, low := range edges() {
		for n := range 256 {
			want := rest(t, low, power(n))
			for _, high := range []api.Num{none, one, low, most} {
				if r, e := divides.Wide(low, high, power(n)); r != want || e != api.OK {
					t.Errorf("Wide(%v, %v, 2^%d) = %v, %v, want %v", low, high, n, r, e, want)
				}
			}
		}
	}
}

// P3.3: the most that goes into both.
func TestCommon(t *testing.T) {
	list := samples()
	for _, a := range list {
		for _, b := range list {
			want := new(big.Int).GCD(nil, nil, number(a), number(b))
			if got := divides.Common(a, b); got != long(want) {
				t.Errorf("Common(%v, %v) = %v, want %v", a, b, got, long(want))
			}
		}
	}
}

// P3.3: of 0, of 1, of two that are the same.
func TestCommonAtTheEdge(t *testing.T) {
	for _, a := range samples() {
		for _, c := range []struct{ b, want api.Num }{{none, a}, {one, one}, {a, a}} {
			if got := divides.Common(a, c.b); got != c.want {
				t.Errorf("Common(%v, %v) = %v, want %v", a, c.b, got, c.want)
			}
			if got := divides.Common(c.b, a); got != c.want {
				t.Errorf("Common(%v, %v) = %v, want %v", c.b, a, got, c.want)
			}
		}
	}
}

// P3.3: of two powers of two the lower one; an odd number has none but 1 with them.
func TestCommonOfPowers(t *testing.T) {
	for n := range 256 {
		for k := range 256 {
			if got := divides.Common(power(n), power(k)); got != power(min(n, k)) {
				t.Errorf("Common(2^%d, 2^%d) = %v", n, k, got)
			}
		}
		if divides.Common(power(n), most) != one || divides.Common(most, power(n)) != one {
			t.Errorf("2^%d and 2^256 - 1", n)
		}
	}
}

// P3.3: what is in both comes out, as odd and even ones are laid into the others.
func TestCommonOfProducts(t *testing.T) {
	for _, d := range []api.Num{one, {2}, {3}, {6}, {12}, {1 << 32}, {all}, {0, 1}, {0, 6}, {7, 0, 1}, power(190)} {
		for _, c := range []struct{ a, b uint64 }{{2, 3}, {3, 4}, {5, 7}, {8, 15}, {1, 64}, {35, 36}, {1 << 32, 1<<32 - 1}} {
			a, _ := limbs.Mul(d, limbs.Of(c.a))
			b, _ := limbs.Mul(d, limbs.Of(c.b))
			if got := divides.Common(a, b); got != d {
				t.Errorf("Common(%v, %v) = %v, want %v", a, b, got, d)
			}
		}
	}
}

// P3.4: the rest is below what it is the rest by, and with as often that one is what was divided.
func TestRestIsBelow(t *testing.T) {
	list := samples()
	for _, a := range list {
		for _, b := range list {
			if b == none {
				continue
			}
			q, r, _ := divides.Div(a, b)
			low, high := limbs.Mul(q, b)
			sum, more := limbs.Add(low, r)
			if limbs.Cmp(r, b) >= 0 || high != none || more != 0 || sum != a {
				t.Errorf("Div(%v, %v) = %v, %v", a, b, q, r)
			}
			if r, _ := divides.Wide(b, a, b); limbs.Cmp(r, b) >= 0 {
				t.Errorf("Wide(%v, %v, %v) = %v", b, a, b, r)
			}
		}
	}
}

// next answers what one more leaves by m: one more, or nothing.
func next(r, m api.Num) (api.Num, bool) {
	r, _ = limbs.Add(r, one)
	if r == m {
		return none, true
	}
	return r, false
}

// P3.4: one more leaves one more, or goes once more.
func TestOneMore(t *testing.T) {
	list := samples()
	for _, a := range list {
		for _, b := range list {
			more, over := limbs.Add(a, one)
			if b == none || over == 1 {
				continue
			}
			wantQ, r, _ := divides.Div(a, b)
			wantR, once := next(r, b)
			if once {
				wantQ, _ = limbs.Add(wantQ, one)
			}
			if q, r, e := divides.Div(more, b); q != wantQ || r != wantR || e != api.OK {
				t.Errorf("Div(%v, %v) = %v, %v, %v, want %v, %v", more, b, q, r, e, wantQ, wantR)
			}
		}
	}
}

// P3.4: likewise of two numbers together, and where low goes round into high.
func TestOneMoreWide(t *testing.T) {
	for _, low := range samples() {
		for _, high := range edges() {
			for _, m := range []api.Num{one, {2}, {7}, {all}, {1, 0, 0, top}, power(255), most, {0, 0, 5}} {
				more, over := limbs.Add(low, one)
				above, gone := limbs.Add(high, limbs.Of(over))
				if gone == 1 {
					continue
				}
				r, _ := divides.Wide(low, high, m)
				want, _ := next(r, m)
				if got, e := divides.Wide(more, above, m); got != want || e != api.OK {
					t.Errorf("Wide(%v, %v, %v) = %v, %v, want %v", more, above, m, got, e, want)
				}
			}
		}
	}
}

// P3.4: two have in common what each has with their difference.
func TestCommonWithTheDifference(t *testing.T) {
	list := samples()
	for _, a := range list {
		for _, b := range list {
			left, less := limbs.Sub(a, b)
			if less == 1 {
				continue
			}
			want := divides.Common(a, b)
			if x, y, z := divides.Common(a, left), divides.Common(left, b), divides.Common(b, a); x != want || y != want || z != want {
				t.Errorf("%v, %v: %v, by the difference %v and %v, turned %v", a, b, want, x, y, z)
			}
		}
	}
}

// P3.4: a number goes into what two have in common just if it goes into both.
func TestGoesIntoBoth(t *testing.T) {
	list := append(samples(), api.Num{12}, api.Num{18}, api.Num{0, 12}, api.Num{0, 0, 18}, api.Num{720720}, api.Num{0, 720720})
	tries := []api.Num{one, {2}, {3}, {4}, {5}, {6}, {9}, {12}, {17}, {257}, {1 << 32}, {0, 1}, {0, 2}, {0, 6}, {0, 0, 0, 1}, {all}, {641}, most}
	for _, a := range list {
		for _, b := range list {
			common := divides.Common(a, b)
			for _, d := range append(tries, a, b, common) {
				if d != none && goes(t, d, common) != (goes(t, d, a) && goes(t, d, b)) {
					t.Errorf("%v, %v have %v in common: %v", a, b, common, d)
				}
			}
		}
	}
}

// R1, R4, R5: at any words nothing panics, what was handed in stays as it is, and all answers are right ones.
func FuzzDivides(f *testing.F) {
	f.Add(uint64(0), uint64(0), uint64(0), uint64(0), uint64(0), uint64(0), uint64(0), uint64(0), uint64(0), uint64(0), uint64(0), uint64(0))
	f.Add(uint64(17), uint64(0), uint64(0), uint64(0), uint64(3), uint64(0), uint64(0), uint64(0), uint64(5), uint64(0), uint64(0), uint64(0))
	f.Add(uint64(all), uint64(all), uint64(all), uint64(all), uint64(all), uint64(all), uint64(all), uint64(all), uint64(1), uint64(0), uint64(0), uint64(top))
	f.Add(uint64(all), uint64(0), uint64(top), uint64(9), uint64(all), uint64(1), uint64(0), uint64(0), uint64(all), uint64(all), uint64(all), uint64(all))
	f.Fuzz(func(t *testing.T, a0, a1, a2, a3, b0, b1, b2, b3, m0, m1, m2, m3 uint64) {
		a, b, m := api.Num{a0, a1, a2, a3}, api.Num{b0, b1, b2, b3}, api.Num{m0, m1, m2, m3}
		if got := divides.Common(a, b); got != long(new(big.Int).GCD(nil, nil, number(a), number(b))) {
			t.Errorf("Common(%v, %v) = %v", a, b, got)
		}
		q, r, e := divides.Div(a, m)
		wide, f := divides.Wide(a, b, m)
		if a != (api.Num{a0, a1, a2, a3}) || b != (api.Num{b0, b1, b2, b3}) || m != (api.Num{m0, m1, m2, m3}) {
			t.Error("what was handed in has changed")
		}
		if m == none {
			if q != none || r != none || wide != none || e != api.ErrArg || f != api.ErrArg {
				t.Errorf("by 0: %v, %v, %v; %v, %v", q, r, e, wide, f)
			}
			return
		}
		wantQ, wantR := new(big.Int).QuoRem(number(a), number(m), new(big.Int))
		if q != long(wantQ) || r != long(wantR) || e != api.OK {
			t.Errorf("Div(%v, %v) = %v, %v, %v", a, m, q, r, e)
		}
		if wide != long(new(big.Int).Mod(both(a, b), number(m))) || f != api.OK {
			t.Errorf("Wide(%v, %v, %v) = %v, %v", a, b, m, wide, f)
		}
	})
}

// The layers above take a rest for each product.
func BenchmarkWide(b *testing.B) {
	m := api.Num{0x1234567, 89, all, top | 5}
	x := api.Num{3, 5, 7, top - 9}
	for b.Loop() {
		low, high := limbs.Mul(x, x)
		x, _ = divides.Wide(low, high, m)
	}
}

func BenchmarkWideShort(b *testing.B) {
	m := api.Num{23}
	x := api.Num{9}
	for b.Loop() {
		low, high := limbs.Mul(x, x)
		x, _ = divides.Wide(low, high, m)
	}
}

func BenchmarkCommon(b *testing.B) {
	for b.Loop() {
		divides.Common(api.Num{3, 5, 7, top - 9}, api.Num{0x1234567, 89, all, top | 5})
	}
}
