package limbs_test

import (
	"encoding/binary"
	"math"
	"math/big"
	"testing"

	"burrow/api"
	"burrow/limbs"
)

const (
	all  = math.MaxUint64
	top  = 1 << 63
	half = 1 << 32
)

var (
	none  = api.Num{}
	one   = api.Num{1}
	most  = api.Num{all, all, all, all}
	round = new(big.Int).Lsh(big.NewInt(1), 256)
)

// power answers 2^n.
func power(n int) api.Num {
	var a api.Num
	a[n/64] = 1 << (n % 64)
	return a
}

// samples are the edges, each power of two with its neighbours, and numbers of all lengths without a pattern.
func samples() []api.Num {
	list := []api.Num{
		none, one, {2}, {3}, {5}, most, {all - 1, all, all, all},
		{all}, {0, all}, {0, 0, all}, {0, 0, 0, all}, {all, 0, all}, {0, all, 0, all}, {all, all}, {0, 0, all, all},
		{half - 1}, {half}, {half + 1}, {all - half + 1}, {0, half - 1, half, half + 1}, {0, 0, 0, all - half + 1},
		{0x0102030405060708, 0x1112131415161718, 0x2122232425262728, 0x3132333435363738},
		{0xaaaaaaaaaaaaaaaa, 0xaaaaaaaaaaaaaaaa, 0xaaaaaaaaaaaaaaaa, 0xaaaaaaaaaaaaaaaa},
		{0x5555555555555555, 0x5555555555555555, 0x5555555555555555, 0x5555555555555555},
	}
	for n := 1; n < 256; n++ {
		if n%32 <= 1 || n%32 == 31 {
			p := big.NewInt(0).Lsh(big.NewInt(1), uint(n))
			for _, by := range []int64{-1, 0, 1} {
				list = append(list, long(new(big.Int).Add(p, big.NewInt(by))))
			}
		}
	}
	state := uint64(1)
	next := func() uint64 {
		state = state*6364136223846793005 + 1442695040888963407
		return state ^ state>>29
	}
	for n := 8; n <= 256; n += 8 {
		a := api.Num{next(), next(), next(), next()}
		list = append(list, long(new(big.Int).Rsh(number(a), uint(256-n))))
	}
	return list
}

// number answers a by the library's long numbers, which all answers are held against.
func number(a api.Num) *big.Int {
	var b [32]byte
	for i, w := range a {
		binary.BigEndian.PutUint64(b[24-8*i:], w)
	}
	return new(big.Int).SetBytes(b[:])
}

// long answers the rest of n by 2^256.
func long(n *big.Int) api.Num {
	var b [32]byte
	new(big.Int).Mod(n, round).FillBytes(b[:])
	var a api.Num
	for i := range a {
		a[i] = binary.BigEndian.Uint64(b[24-8*i:])
	}
	return a
}

// turned answers a with all its bits turned.
func turned(a api.Num) api.Num {
	for i := range a {
		a[i] = ^a[i]
	}
	return a
}

// The chapter's table of examples.
func TestExamples(t *testing.T) {
	if sum, more := limbs.Add(most, one); sum != none || more != 1 {
		t.Errorf("Add(2^256 - 1, 1) = %v, %d", sum, more)
	}
	if left, less := limbs.Sub(none, one); left != most || less != 1 {
		t.Errorf("Sub(0, 1) = %v, %d", left, less)
	}
	if low, high := limbs.Mul(power(128), power(128)); low != none || high != one {
		t.Errorf("Mul(2^128, 2^128) = %v, %v", low, high)
	}
	if got := limbs.Shift(limbs.Of(5), 64); got != (api.Num{0, 5}) {
		t.Errorf("Shift(5, 64) = %v", got)
	}
	if got := limbs.Shift(power(255), -255); got != one {
		t.Errorf("Shift(2^255, -255) = %v", got)
	}
	if got := limbs.Cmp(limbs.Of(3), limbs.Of(5)); got != -1 {
		t.Errorf("Cmp(3, 5) = %d", got)
	}
	if limbs.Bits(none) != 0 || limbs.Bits(power(64)) != 65 {
		t.Errorf("Bits: %d, %d", limbs.Bits(none), limbs.Bits(power(64)))
	}
	if limbs.Bit(limbs.Of(4), 2) != 1 || limbs.Bit(limbs.Of(4), 256) != 0 {
		t.Errorf("Bit: %d, %d", limbs.Bit(limbs.Of(4), 2), limbs.Bit(limbs.Of(4), 256))
	}
}

// P2.1: the same number, as a long one.
func TestOf(t *testing.T) {
	for _, n := range []uint64{0, 1, 7, half - 1, half, half + 1, top - 1, top, all - 1, all} {
		if got := limbs.Of(n); got != (api.Num{n}) {
			t.Errorf("Of(%d) = %v", n, got)
		}
	}
}

// P2.1: 0, -1 or 1, and nothing else, as the numbers stand to one another.
func TestCmp(t *testing.T) {
	list := samples()
	for _, a := range list {
		for _, b := range list {
			if got, want := limbs.Cmp(a, b), number(a).Cmp(number(b)); got != want {
				t.Errorf("Cmp(%v, %v) = %d, want %d", a, b, got, want)
			}
		}
	}
}

// P2.1: a higher half decides, whatever the lower ones are.
func TestCmpHighestHalfDecides(t *testing.T) {
	for n := 0; n < 256; n += 32 {
		high := power(n)
		low, _ := limbs.Sub(high, one)
		if limbs.Cmp(high, low) != 1 || limbs.Cmp(low, high) != -1 || limbs.Cmp(high, high) != 0 || limbs.Cmp(low, low) != 0 {
			t.Errorf("2^%d and one less", n)
		}
	}
}

// P2.1: the place behind the highest bit that is 1.
func TestBits(t *testing.T) {
	for _, a := range samples() {
		if got, want := limbs.Bits(a), number(a).BitLen(); got != want {
			t.Errorf("Bits(%v) = %d, want %d", a, got, want)
		}
	}
	for n := range 256 {
		below, _ := limbs.Sub(power(n), one)
		if limbs.Bits(power(n)) != n+1 || limbs.Bits(below) != n {
			t.Errorf("2^%d: %d, one less: %d", n, limbs.Bits(power(n)), limbs.Bits(below))
		}
	}
	if got := limbs.Bits(most); got != 256 {
		t.Errorf("2^256 - 1: %d", got)
	}
}

// P2.1: the bit at each place that there is.
func TestBit(t *testing.T) {
	for _, a := range samples() {
		for i := range 256 {
			if got, want := limbs.Bit(a, i), number(a).Bit(i); got != want {
				t.Errorf("Bit(%v, %d) = %d, want %d", a, i, got, want)
			}
		}
	}
}

// P2.1: 0 at places below 0 and above 255.
func TestBitBeyond(t *testing.T) {
	for _, i := range []int{-1, -2, -63, -64, -65, -255, -256, -257, math.MinInt32, math.MinInt + 1, math.MinInt,
		256, 257, 319, 320, 511, 512, 1 << 20, math.MaxInt32, math.MaxInt - 1, math.MaxInt} {
		if got := limbs.Bit(most, i); got != 0 {
			t.Errorf("Bit(2^256 - 1, %d) = %d", i, got)
		}
	}
	if limbs.Bit(most, 0) != 1 || limbs.Bit(most, 255) != 1 {
		t.Error("the places at the edges")
	}
}

// P2.2: sums and differences, and whether they went round.
func TestAddSub(t *testing.T) {
	list := samples()
	for _, a := range list {
		for _, b := range list {
			whole := new(big.Int).Add(number(a), number(b))
			sum, more := limbs.Add(a, b)
			if sum != long(whole) || (more == 1) != (whole.Cmp(round) >= 0) || more > 1 {
				t.Errorf("Add(%v, %v) = %v, %d", a, b, sum, more)
			}
			rest := new(big.Int).Sub(number(a), number(b))
			left, less := limbs.Sub(a, b)
			if left != long(rest) || (less == 1) != (rest.Sign() < 0) || less > 1 {
				t.Errorf("Sub(%v, %v) = %v, %d", a, b, left, less)
			}
		}
	}
}

// P2.2: what goes round, and what just does not.
func TestAddSubAtTheEdge(t *testing.T) {
	for _, c := range []struct {
		a, b, sum, left api.Num
		more, less      uint64
	}{
		{none, none, none, none, 0, 0},
		{most, none, most, most, 0, 0},
		{none, most, most, one, 0, 1},
		{most, most, api.Num{all - 1, all, all, all}, none, 1, 0},
		{power(255), power(255), none, none, 1, 0},
		{api.Num{all - 1, all, all, all}, one, most, api.Num{all - 2, all, all, all}, 0, 0},
		{api.Num{all, all, all}, one, api.Num{0, 0, 0, 1}, api.Num{all - 1, all, all}, 0, 0},
		{power(192), one, api.Num{1, 0, 0, 1}, api.Num{all, all, all}, 0, 0},
		{one, api.Num{2}, api.Num{3}, most, 0, 1},
	} {
		sum, more := limbs.Add(c.a, c.b)
		left, less := limbs.Sub(c.a, c.b)
		if sum != c.sum || more != c.more || left != c.left || less != c.less {
			t.Errorf("%v, %v: %v, %d; %v, %d", c.a, c.b, sum, more, left, less)
		}
	}
}

// P2.3: the whole product, in two.
func TestMul(t *testing.T) {
	list := samples()
	for _, a := range list {
		for _, b := range list {
			whole := new(big.Int).Mul(number(a), number(b))
			low, high := limbs.Mul(a, b)
			if low != long(whole) || high != long(new(big.Int).Rsh(whole, 256)) {
				t.Errorf("Mul(%v, %v) = %v, %v", a, b, low, high)
			}
		}
	}
}

// P2.3: the least and the greatest product, and those about 2^256.
func TestMulAtTheEdge(t *testing.T) {
	for _, c := range []struct{ a, b, low, high api.Num }{
		{none, none, none, none},
		{most, none, none, none},
		{most, one, most, none},
		{most, api.Num{2}, api.Num{all - 1, all, all, all}, one},
		{most, most, one, api.Num{all - 1, all, all, all}},
		{api.Num{all, all}, api.Num{all, all}, api.Num{1, 0, all - 1, all}, none},
		{power(255), api.Num{2}, none, one},
		{power(127), power(128), power(255), none},
		{power(255), power(255), none, power(254)},
		{api.Num{0, 0, 3}, api.Num{0, 5, 7}, api.Num{0, 0, 0, 15}, api.Num{21}},
	} {
		for _, turn := range []bool{false, true} {
			a, b := c.a, c.b
			if turn {
				a, b = b, a
			}
			if low, high := limbs.Mul(a, b); low != c.low || high != c.high {
				t.Errorf("Mul(%v, %v) = %v, %v", a, b, low, high)
			}
		}
	}
}

// P2.4: each bit stands n places higher, or is lost; where none comes to it is 0.
func TestShiftMovesEachBit(t *testing.T) {
	for _, a := range samples() {
		for n := -260; n <= 260; n++ {
			want := new(big.Int).Lsh(number(a), uint(max(n, 0)))
			want.Rsh(want, uint(max(-n, 0)))
			if got := limbs.Shift(a, n); got != long(want) {
				t.Errorf("Shift(%v, %d) = %v", a, n, got)
			}
		}
	}
}

// P2.4: a shift by 0, by whole words, by a little beside them, and by 255.
func TestShiftAtTheEdge(t *testing.T) {
	a := api.Num{1, 2, 3, top | 4}
	for _, c := range []struct {
		n    int
		want api.Num
	}{
		{0, a},
		{64, api.Num{0, 1, 2, 3}}, {128, api.Num{0, 0, 1, 2}}, {192, api.Num{0, 0, 0, 1}},
		{-64, api.Num{2, 3, top | 4}}, {-128, api.Num{3, top | 4}}, {-192, api.Num{top | 4}},
		{1, api.Num{2, 4, 6, 8}}, {-1, api.Num{0, top | 1, 1, 1<<62 | 2}},
		{63, api.Num{top, 0, top | 1, 1}}, {65, api.Num{0, 2, 4, 6}},
		{-63, api.Num{4, 6, 8, 1}}, {-65, api.Num{top | 1, 1, 1<<62 | 2}},
		{255, power(255)}, {-255, one},
	} {
		if got := limbs.Shift(a, c.n); got != c.want {
			t.Errorf("Shift(.., %d) = %v, want %v", c.n, got, c.want)
		}
	}
}

// P2.4: by 256 and more, up and down, nothing is left.
func TestShiftBeyond(t *testing.T) {
	for _, n := range []int{256, 257, 319, 320, 321, 512, 1 << 20, math.MaxInt32, math.MaxInt - 63, math.MaxInt - 1, math.MaxInt} {
		if up, down := limbs.Shift(most, n), limbs.Shift(most, -n); up != none || down != none {
			t.Errorf("by %d: %v, %v", n, up, down)
		}
	}
	for _, n := range []int{math.MinInt, math.MinInt + 1, math.MinInt + 63, math.MinInt + 64, math.MinInt32} {
		if got := limbs.Shift(most, n); got != none {
			t.Errorf("by %d: %v", n, got)
		}
	}
}

// P2.5: a number and it with all bits turned make 2^256 - 1.
func TestTurnedMakesMost(t *testing.T) {
	for _, a := range samples() {
		if sum, more := limbs.Add(a, turned(a)); sum != most || more != 0 {
			t.Errorf("%v: %v, %d", a, sum, more)
		}
		if left, less := limbs.Sub(most, a); left != turned(a) || less != 0 {
			t.Errorf("2^256 - 1 less %v: %v, %d", a, left, less)
		}
	}
}

// gathered answers a times b, of a moved up to each bit of b that is 1; what is moved out above is gathered apart.
func gathered(a, b api.Num) (low, high api.Num) {
	for i := range limbs.Bits(b) {
		if limbs.Bit(b, i) == 0 {
			continue
		}
		var more uint64
		low, more = limbs.Add(low, limbs.Shift(a, i))
		high, _ = limbs.Add(high, limbs.Shift(a, i-256))
		high, _ = limbs.Add(high, limbs.Of(more))
	}
	return low, high
}

// P2.5: a product is gathered of the one number, moved up to each bit of the other one that is 1.
func TestProductIsGathered(t *testing.T) {
	list := samples()
	for i, a := range list {
		for _, b := range list[:i+1] {
			low, high := limbs.Mul(a, b)
			if l, h := gathered(a, b); low != l || high != h {
				t.Errorf("%v times %v: %v, %v, gathered %v, %v", a, b, low, high, l, h)
			}
		}
	}
}

// P2.5: the difference of squares is the product of sum and difference, going round.
func TestDifferenceOfSquares(t *testing.T) {
	list := samples()
	for _, a := range list {
		for _, b := range list {
			if got, want := squares(a, b), product(a, b); got != want {
				t.Errorf("%v, %v: %v, %v", a, b, got, want)
			}
		}
	}
}

func squares(a, b api.Num) api.Num {
	first, _ := limbs.Mul(a, a)
	second, _ := limbs.Mul(b, b)
	left, _ := limbs.Sub(first, second)
	return left
}

func product(a, b api.Num) api.Num {
	sum, _ := limbs.Add(a, b)
	left, _ := limbs.Sub(a, b)
	low, _ := limbs.Mul(sum, left)
	return low
}

// P2.5: moved up by one is added to itself, and goes round where the highest bit is lost.
func TestMovedUpByOneIsAddedToItself(t *testing.T) {
	for _, a := range samples() {
		if sum, more := limbs.Add(a, a); limbs.Shift(a, 1) != sum || more != uint64(limbs.Bit(a, 255)) {
			t.Errorf("%v: %v, %d, moved %v", a, sum, more, limbs.Shift(a, 1))
		}
	}
}

// R1, R4, R5: at any words and any place nothing panics, what was handed in stays as it is, and all answers hold together.
func FuzzLimbs(f *testing.F) {
	f.Add(uint64(0), uint64(0), uint64(0), uint64(0), uint64(0), uint64(0), uint64(0), uint64(0), 0)
	f.Add(uint64(all), uint64(all), uint64(all), uint64(all), uint64(1), uint64(0), uint64(0), uint64(0), 64)
	f.Add(uint64(all), uint64(all), uint64(all), uint64(all), uint64(all), uint64(all), uint64(all), uint64(all), math.MinInt)
	f.Add(uint64(half), uint64(top), uint64(3), uint64(5), uint64(7), uint64(half-1), uint64(top-1), uint64(9), math.MaxInt)
	f.Fuzz(func(t *testing.T, a0, a1, a2, a3, b0, b1, b2, b3 uint64, n int) {
		a, b := api.Num{a0, a1, a2, a3}, api.Num{b0, b1, b2, b3}
		x, y := number(a), number(b)
		sum, more := limbs.Add(a, b)
		left, less := limbs.Sub(a, b)
		low, high := limbs.Mul(a, b)
		if sum != long(new(big.Int).Add(x, y)) || left != long(new(big.Int).Sub(x, y)) || more > 1 || (less == 1) != (limbs.Cmp(a, b) < 0) {
			t.Errorf("%v, %v: %v, %d; %v, %d", a, b, sum, more, left, less)
		}
		if whole := new(big.Int).Mul(x, y); low != long(whole) || high != long(new(big.Int).Rsh(whole, 256)) {
			t.Errorf("%v times %v: %v, %v", a, b, low, high)
		}
		if limbs.Cmp(a, b) != x.Cmp(y) || limbs.Bits(a) != x.BitLen() {
			t.Errorf("%v, %v: Cmp %d, Bits %d", a, b, limbs.Cmp(a, b), limbs.Bits(a))
		}
		moved := limbs.Shift(a, n)
		for i := range 256 {
			want := uint(0)
			if from := i - n; (n <= i || n < 0) && from >= 0 && from < 256 {
				want = x.Bit(from)
			}
			if limbs.Bit(moved, i) != want {
				t.Errorf("Shift(%v, %d): %v at %d", a, n, moved, i)
			}
		}
		if a != (api.Num{a0, a1, a2, a3}) || b != (api.Num{b0, b1, b2, b3}) {
			t.Error("what was handed in has changed")
		}
	})
}

// The layers above take these again and again for each bit of a number.
func BenchmarkShiftCmpSub(b *testing.B) {
	m := api.Num{all, all, all, top}
	r := most
	for b.Loop() {
		r = limbs.Shift(r, 1)
		if limbs.Cmp(r, m) >= 0 {
			r, _ = limbs.Sub(r, m)
		}
	}
}

func BenchmarkMul(b *testing.B) {
	x := most
	for b.Loop() {
		x, _ = limbs.Mul(x, most)
	}
}
