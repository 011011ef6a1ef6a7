package mods_test

import (
	"math"
	"math/big"
	"testing"

	"burrow/api"
	"burrow/divides"
	"burrow/limbs"
	"burrow/mods"
	"burrow/nums"
)

const (
	all = math.MaxUint64
	top = 1 << 63
)

var (
	none = api.Num{}
	one  = api.Num{1}
	two  = api.Num{2}
	most = api.Num{all, all, all, all}
)

// number answers a by the library's long numbers, which all answers are held against.
func number(a api.Num) *big.Int { return new(big.Int).SetBytes(nums.PutLong(nil, a)) }

// long answers the rest of n by m, at least 0.
func long(n, m *big.Int) api.Num {
	a, _ := nums.GetLong(new(big.Int).Mod(n, m).FillBytes(make([]byte, 32)))
	return a
}

// power answers 2^n; 0, if n is 256.
func power(n int) api.Num { return limbs.Shift(one, n) }

// more answers a and n together.
func more(a api.Num, n uint64) api.Num {
	a, _ = limbs.Add(a, limbs.Of(n))
	return a
}

// less answers a less n.
func less(a api.Num, n uint64) api.Num {
	a, _ = limbs.Sub(a, limbs.Of(n))
	return a
}

// draws answers a function that tells numbers without a pattern, the same ones each time.
func draws() func() api.Num {
	state := uint64(1)
	return func() api.Num {
		var a api.Num
		for i := range a {
			state = state*6364136223846793005 + 1442695040888963407
			a[i] = state ^ state>>29
		}
		return a
	}
}

// primes are prime numbers of all lengths.
func primes() []api.Num {
	return []api.Num{
		two, {3}, {5}, {7}, {23}, {257}, {65537}, less(power(61), 1), less(power(64), 59), more(power(64), 13), less(power(127), 1),
		less(power(128), 159), less(power(192), 237), more(power(193), 65), less(power(255), 19), less(power(256), 189),
	}
}

// rounds are what numbers go round by: primes, powers of two with their neighbours, and others, odd and even, of all lengths.
func rounds() []api.Num {
	list, next := primes(), draws()
	list = append(list, api.Num{4}, api.Num{6}, api.Num{9}, api.Num{15}, api.Num{720720}, api.Num{all - 1}, api.Num{1, 0, 0, top}, less(most, 1), most)
	for _, n := range []int{8, 63, 64, 65, 128, 192, 254, 255} {
		list = append(list, less(power(n), 1), power(n), more(power(n), 1))
	}
	for n := 20; n <= 256; n += 59 {
		list = append(list, limbs.Shift(next(), n-256))
	}
	return list
}

// below are numbers below m: its edges, what goes into it more than once, and others.
func below(m api.Num) []api.Num {
	list, next := []api.Num{none, one, less(m, 1), limbs.Shift(m, -1), limbs.Shift(less(m, 1), -1)}, draws()
	for _, a := range []api.Num{two, {3}, {4}, {6}, {1 << 32}, {all}, {0, 1}, {0, 6}, power(255), next(), next(), next()} {
		_, r, _ := divides.Div(a, m)
		list = append(list, r)
	}
	return append(list, less(m, 2))
}

// exponents are of all lengths, and such as are no number below what goes round.
func exponents() []api.Num {
	list, next := []api.Num{none, one, two, {3}, {7}, {1<<16 - 1}, {1 << 16}, {1<<16 + 1}, {1<<17 - 1}, {all}, {0, 1}, {1, 1}, power(255), less(most, 1), most}, draws()
	for n := 10; n <= 256; n += 82 {
		list = append(list, limbs.Shift(next(), n-256))
	}
	return list
}

// call is one of the calls that take two numbers below m.
type call func(a, b, m api.Num) (api.Num, api.Errno)

// must answers what a call that may not fail answers.
func must(t *testing.T) func(a api.Num, e api.Errno) api.Num {
	return func(a api.Num, e api.Errno) api.Num {
		t.Helper()
		if e != api.OK {
			t.Fatal(e)
		}
		return a
	}
}

// The chapter's table of examples.
func TestExamples(t *testing.T) {
	five, six, seven := api.Num{5}, api.Num{6}, api.Num{7}
	for i, c := range []struct {
		call    call
		a, b, m api.Num
		want    api.Num
		e       api.Errno
	}{
		{mods.Add, five, six, seven, api.Num{4}, api.OK},
		{mods.Sub, two, six, seven, api.Num{3}, api.OK},
		{mods.Mul, five, six, seven, two, api.OK},
		{mods.Exp, api.Num{3}, six, seven, one, api.OK},
		{mods.Add, seven, none, seven, none, api.ErrArg},
		{mods.Mul, none, none, one, none, api.ErrArg},
		{mods.Exp, none, none, api.Num{9}, one, api.OK},
	} {
		if got, e := c.call(c.a, c.b, c.m); got != c.want || e != c.e {
			t.Errorf("%d: %v, %d, want %v, %d", i, got, e, c.want, c.e)
		}
	}
	for _, c := range []struct {
		a, m, want api.Num
		e          api.Errno
	}{{api.Num{3}, seven, five, api.OK}, {two, api.Num{4}, none, api.ErrNone}, {none, five, none, api.ErrNone}} {
		if got, e := mods.Inv(c.a, c.m); got != c.want || e != c.e {
			t.Errorf("Inv(%v, %v) = %v, %d", c.a, c.m, got, e)
		}
	}
}

// P4.1: what the library's long numbers leave by m.
func TestAddSubMul(t *testing.T) {
	for _, m := range rounds() {
		list, by := below(m), number(m)
		for _, a := range list {
			for _, b := range list {
				x, y := number(a), number(b)
				if got, e := mods.Add(a, b, m); got != long(new(big.Int).Add(x, y), by) || e != api.OK {
					t.Errorf("Add(%v, %v, %v) = %v, %d", a, b, m, got, e)
				}
				if got, e := mods.Sub(a, b, m); got != long(new(big.Int).Sub(x, y), by) || e != api.OK {
					t.Errorf("Sub(%v, %v, %v) = %v, %d", a, b, m, got, e)
				}
				if got, e := mods.Mul(a, b, m); got != long(new(big.Int).Mul(x, y), by) || e != api.OK {
					t.Errorf("Mul(%v, %v, %v) = %v, %d", a, b, m, got, e)
				}
			}
		}
	}
}

// P4.1: all numbers below all that are small.
func TestSmall(t *testing.T) {
	for m := uint64(2); m < 20; m++ {
		for a := range m {
			for b := range m {
				x, y, by := limbs.Of(a), limbs.Of(b), limbs.Of(m)
				if got, e := mods.Add(x, y, by); got != limbs.Of((a+b)%m) || e != api.OK {
					t.Errorf("Add(%d, %d, %d) = %v, %d", a, b, m, got, e)
				}
				if got, e := mods.Sub(x, y, by); got != limbs.Of((a+m-b)%m) || e != api.OK {
					t.Errorf("Sub(%d, %d, %d) = %v, %d", a, b, m, got, e)
				}
				if got, e := mods.Mul(x, y, by); got != limbs.Of(a*b%m) || e != api.OK {
					t.Errorf("Mul(%d, %d, %d) = %v, %d", a, b, m, got, e)
				}
			}
		}
	}
}

// P4.1: sums that pass 2^256, sums that are m, differences below 0, at the greatest m.
func TestRoundTheWords(t *testing.T) {
	last, half := less(most, 1), power(255)
	for i, c := range []struct {
		call          call
		a, b, m, want api.Num
	}{
		{mods.Add, last, last, most, less(most, 2)},
		{mods.Add, last, one, most, none},
		{mods.Add, last, none, most, last},
		{mods.Add, half, less(half, 1), most, none},
		{mods.Add, half, half, most, one},
		{mods.Add, half, half, more(half, 1), less(half, 1)},
		{mods.Add, half, one, more(half, 1), none},
		{mods.Add, less(half, 1), less(half, 1), half, less(half, 2)},
		{mods.Sub, none, last, most, one},
		{mods.Sub, none, one, most, last},
		{mods.Sub, last, last, most, none},
		{mods.Sub, last, none, most, last},
		{mods.Mul, last, last, most, one},
		{mods.Mul, half, two, most, one},
		{mods.Mul, half, half, more(half, 1), one},
		{mods.Mul, power(128), power(127), half, none},
		{mods.Mul, last, none, most, none},
	} {
		if got, e := c.call(c.a, c.b, c.m); got != c.want || e != api.OK {
			t.Errorf("%d: %v, %d, want %v", i, got, e, c.want)
		}
	}
}

// P4.1, P4.2, R2: m below 2, and numbers that are m or more; nothing is told beside the error.
func TestRefused(t *testing.T) {
	both := []call{mods.Add, mods.Sub, mods.Mul}
	first := append(both, mods.Exp, func(a, _, m api.Num) (api.Num, api.Errno) { return mods.Inv(a, m) })
	refuse := func(calls []call, a, b, m api.Num) {
		t.Helper()
		for i, c := range calls {
			if got, e := c(a, b, m); got != none || e != api.ErrArg {
				t.Errorf("%d, of %v, %v by %v: %v, %d", i, a, b, m, got, e)
			}
		}
	}
	for _, m := range []api.Num{none, one} {
		for _, a := range []api.Num{none, one, {2}, {5}, most} {
			for _, b := range []api.Num{none, one, {2}, most} {
				refuse(first, a, b, m)
			}
		}
	}
	for _, m := range rounds() {
		for _, over := range []api.Num{m, more(m, 1), most} {
			if limbs.Cmp(over, m) < 0 {
				continue
			}
			for _, a := range []api.Num{none, one, less(m, 1)} {
				refuse(first, over, a, m)
				refuse(both, a, over, m)
			}
			refuse(first, over, over, m)
		}
	}
}

// P4.2: the power of all numbers by all exponents, whether m is odd or even.
func TestExp(t *testing.T) {
	for _, m := range rounds() {
		by := number(m)
		for _, a := range below(m) {
			for _, n := range exponents() {
				want := long(new(big.Int).Exp(number(a), number(n), by), by)
				if got, e := mods.Exp(a, n, m); got != want || e != api.OK {
					t.Errorf("Exp(%v, %v, %v) = %v, %d, want %v", a, n, m, got, e, want)
				}
			}
		}
	}
}

// P4.2: 1, if n is 0, that of 0 too; itself, if n is 1; 0 and 1 stay; n may be m and more.
func TestExpAtTheEdge(t *testing.T) {
	for _, m := range rounds() {
		for _, a := range below(m) {
			if got, e := mods.Exp(a, none, m); got != one || e != api.OK {
				t.Errorf("Exp(%v, 0, %v) = %v, %d", a, m, got, e)
			}
			if got, e := mods.Exp(a, one, m); got != a || e != api.OK {
				t.Errorf("Exp(%v, 1, %v) = %v, %d", a, m, got, e)
			}
		}
		for _, n := range append(exponents(), m, more(m, 1), less(m, 1)) {
			if got, e := mods.Exp(one, n, m); got != one || e != api.OK {
				t.Errorf("Exp(1, %v, %v) = %v, %d", n, m, got, e)
			}
			if got, e := mods.Exp(none, n, m); n != none && (got != none || e != api.OK) {
				t.Errorf("Exp(0, %v, %v) = %v, %d", n, m, got, e)
			}
		}
	}
}

// P4.2: each power is the one before, multiplied once more, from the shortest exponents to those beyond a word's half.
func TestExpCounts(t *testing.T) {
	must := must(t)
	for _, m := range []api.Num{two, {3}, {10}, {1 << 20}, {1<<20 + 7}, less(power(255), 19), power(255), most} {
		for _, from := range []api.Num{none, {1<<16 - 20}, {all - 20}} {
			a := less(m, 1)
			if m != two {
				a = limbs.Shift(m, -1)
			}
			want := must(mods.Exp(a, from, m))
			for i := range uint64(40) {
				if got := must(mods.Exp(a, more(from, i), m)); got != want {
					t.Errorf("Exp(%v, %v, %v) = %v, want %v", a, more(from, i), m, got, want)
				}
				want = must(mods.Mul(want, a, m))
			}
		}
	}
}

// P4.2: the one below m whose product with the number is 1, or ErrNone and nothing.
func TestInv(t *testing.T) {
	for _, m := range rounds() {
		for _, a := range below(m) {
			want := new(big.Int).ModInverse(number(a), number(m))
			got, e := mods.Inv(a, m)
			if want == nil && (got != none || e != api.ErrNone) {
				t.Errorf("Inv(%v, %v) = %v, %d", a, m, got, e)
			}
			if want != nil && (got != long(want, number(m)) || e != api.OK) {
				t.Errorf("Inv(%v, %v) = %v, %d, want %v", a, m, got, e, want)
			}
		}
	}
}

// P4.2: all numbers below all that are small: just those have one that have none but 1 in common with m.
func TestInvSmall(t *testing.T) {
	must := must(t)
	for m := uint64(2); m < 120; m++ {
		for a := range m {
			got, e := mods.Inv(limbs.Of(a), limbs.Of(m))
			if divides.Common(limbs.Of(a), limbs.Of(m)) != one {
				if got != none || e != api.ErrNone {
					t.Errorf("Inv(%d, %d) = %v, %d", a, m, got, e)
				}
				continue
			}
			if e != api.OK || must(mods.Mul(got, limbs.Of(a), limbs.Of(m))) != one {
				t.Errorf("Inv(%d, %d) = %v, %d", a, m, got, e)
			}
		}
	}
}

// P4.2, R2: ErrArg is named first, though nothing has an inverse there either.
func TestInvRefusesFirst(t *testing.T) {
	for _, c := range []struct{ a, m api.Num }{{none, none}, {none, one}, {one, one}, {api.Num{4}, api.Num{4}}, {api.Num{6}, api.Num{4}}, {most, most}} {
		if got, e := mods.Inv(c.a, c.m); got != none || e != api.ErrArg {
			t.Errorf("Inv(%v, %v) = %v, %d", c.a, c.m, got, e)
		}
	}
}

// P4.3: m less one is its own inverse, and turns what it is multiplied with over.
func TestLessOne(t *testing.T) {
	must := must(t)
	for _, m := range rounds() {
		last := less(m, 1)
		if got, e := mods.Inv(last, m); got != last || e != api.OK {
			t.Errorf("Inv(%v, %v) = %v, %d", last, m, got, e)
		}
		for _, a := range below(m) {
			over := must(mods.Sub(none, a, m))
			if must(mods.Mul(last, a, m)) != over || must(mods.Mul(a, last, m)) != over || must(mods.Add(a, over, m)) != none {
				t.Errorf("%v by %v, turned over", a, m)
			}
		}
	}
}

// P4.3: a power one higher is multiplied once more, one twice as high squared.
func TestPowersClimb(t *testing.T) {
	must := must(t)
	for _, m := range rounds() {
		for _, a := range below(m) {
			for _, n := range exponents() {
				low := must(mods.Exp(a, n, m))
				if above := more(n, 1); above != none && must(mods.Exp(a, above, m)) != must(mods.Mul(low, a, m)) {
					t.Errorf("%v to %v and one more, by %v", a, n, m)
				}
				if limbs.Bit(n, 255) == 0 && must(mods.Exp(a, limbs.Shift(n, 1), m)) != must(mods.Mul(low, low, m)) {
					t.Errorf("%v to %v and as much again, by %v", a, n, m)
				}
			}
		}
	}
}

// P4.3: by a prime number the power of that is the number itself, and the power two below it the inverse.
func TestPrimes(t *testing.T) {
	must := must(t)
	for _, p := range primes() {
		if !number(p).ProbablyPrime(20) {
			t.Fatalf("%v is no prime number", p)
		}
		for _, a := range below(p) {
			if got := must(mods.Exp(a, p, p)); got != a {
				t.Errorf("Exp(%v, %v, itself) = %v", a, p, got)
			}
			if a != none && must(mods.Inv(a, p)) != must(mods.Exp(a, less(p, 2), p)) {
				t.Errorf("Inv(%v, %v) = %v", a, p, must(mods.Inv(a, p)))
			}
		}
	}
}

// P4.3: whoever has no inverse has a partner above 0 whose product with it is 0; whoever has one has none.
func TestPartners(t *testing.T) {
	must := must(t)
	for _, m := range rounds() {
		for _, a := range below(m) {
			partner, _, _ := divides.Div(m, divides.Common(a, m))
			_, e := mods.Inv(a, m)
			if e == api.OK {
				if partner != m {
					t.Errorf("%v has an inverse by %v, and a partner", a, m)
				}
				continue
			}
			if e != api.ErrNone || partner == none || must(mods.Mul(a, partner, m)) != none {
				t.Errorf("%v by %v: %d, the partner %v", a, m, e, partner)
			}
		}
	}
}

// check holds one call's answer against what is right: ErrArg and nothing, unless fine.
func check(t *testing.T, name string, got api.Num, e api.Errno, fine bool, want func() api.Num) {
	t.Helper()
	if !fine && (got != none || e != api.ErrArg) {
		t.Errorf("%s: %v, %d, want ErrArg", name, got, e)
	}
	if fine && (got != want() || e != api.OK) {
		t.Errorf("%s: %v, %d, want %v", name, got, e, want())
	}
}

// hold holds all calls' answers against what the library's long numbers leave.
func hold(t *testing.T, a, b, m api.Num) {
	t.Helper()
	x, y, by := number(a), number(b), number(m)
	first := limbs.Cmp(m, one) > 0 && limbs.Cmp(a, m) < 0
	both := first && limbs.Cmp(b, m) < 0
	got, e := mods.Add(a, b, m)
	check(t, "Add", got, e, both, func() api.Num { return long(new(big.Int).Add(x, y), by) })
	got, e = mods.Sub(a, b, m)
	check(t, "Sub", got, e, both, func() api.Num { return long(new(big.Int).Sub(x, y), by) })
	got, e = mods.Mul(a, b, m)
	check(t, "Mul", got, e, both, func() api.Num { return long(new(big.Int).Mul(x, y), by) })
	got, e = mods.Exp(a, b, m)
	check(t, "Exp", got, e, first, func() api.Num { return long(new(big.Int).Exp(x, y, by), by) })
	got, e = mods.Inv(a, m)
	if first && divides.Common(a, m) != one {
		if got != none || e != api.ErrNone {
			t.Errorf("Inv: %v, %d, want ErrNone", got, e)
		}
		return
	}
	check(t, "Inv", got, e, first, func() api.Num { return long(new(big.Int).ModInverse(x, by), by) })
}

// R1, R5: at any words nothing panics, and all answers are right ones, the second time too.
func FuzzMods(f *testing.F) {
	f.Add(uint64(0), uint64(0), uint64(0), uint64(0), uint64(0), uint64(0), uint64(0), uint64(0), uint64(0), uint64(0), uint64(0), uint64(0))
	f.Add(uint64(5), uint64(0), uint64(0), uint64(0), uint64(6), uint64(0), uint64(0), uint64(0), uint64(7), uint64(0), uint64(0), uint64(0))
	f.Add(uint64(2), uint64(0), uint64(0), uint64(0), uint64(1), uint64(0), uint64(0), uint64(0), uint64(4), uint64(0), uint64(0), uint64(0))
	f.Add(uint64(all-1), uint64(all), uint64(all), uint64(all), uint64(all-1), uint64(all), uint64(all), uint64(all), uint64(all), uint64(all), uint64(all), uint64(all))
	f.Add(uint64(all), uint64(1), uint64(2), uint64(3), uint64(all), uint64(all), uint64(all), uint64(all), uint64(0), uint64(0), uint64(0), uint64(top))
	f.Fuzz(func(t *testing.T, a0, a1, a2, a3, b0, b1, b2, b3, m0, m1, m2, m3 uint64) {
		a, b, m := api.Num{a0, a1, a2, a3}, api.Num{b0, b1, b2, b3}, api.Num{m0, m1, m2, m3}
		hold(t, a, b, m)
		hold(t, a, b, m)
		// Few words are below others: these are, so that more than what is refused is looked at.
		if _, r, e := divides.Div(a, m); e == api.OK {
			_, s, _ := divides.Div(b, m)
			hold(t, r, b, m)
			hold(t, r, s, m)
		}
	})
}

// The layers above take powers for each key, and for each signature.
func BenchmarkExp(b *testing.B) {
	for _, c := range []struct {
		name    string
		a, n, m api.Num
	}{
		{"full", api.Num{3, 5, 7, top - 9}, api.Num{all - 4, 1, 9, top | 77}, less(none, 189)},
		{"even", api.Num{3, 5, 7, top - 9}, api.Num{all - 4, 1, 9, top | 77}, less(none, 190)},
		{"word", api.Num{top - 9}, api.Num{top | 77}, less(power(64), 59)},
		{"tiny", api.Num{9}, api.Num{11}, api.Num{23}},
	} {
		b.Run(c.name, func(b *testing.B) {
			for b.Loop() {
				mods.Exp(c.a, c.n, c.m)
			}
		})
	}
}

func BenchmarkMul(b *testing.B) {
	m := less(none, 189)
	x := api.Num{3, 5, 7, top - 9}
	for b.Loop() {
		x, _ = mods.Mul(x, x, m)
	}
}

func BenchmarkInv(b *testing.B) {
	for b.Loop() {
		mods.Inv(api.Num{3, 5, 7, top - 9}, less(none, 189))
	}
}
