package groups_test

import (
	"math"
	"math/big"
	"testing"

	"burrow/api"
	"burrow/divides"
	"burrow/groups"
	"burrow/limbs"
	"burrow/mods"
	"burrow/nums"
)

const (
	all = math.MaxUint64
	top = 1 << 63
)

var (
	none = api.Num{}
	one  = api.Num{1}
	two  = api.Num{2}
	four = api.Num{4}
	most = api.Num{all, all, all, all}
)

// number answers a by the library's long numbers, which all answers are held against.
func number(a api.Num) *big.Int { return new(big.Int).SetBytes(nums.PutLong(nil, a)) }

// long answers n, which has room in a long number.
func long(n *big.Int) api.Num {
	a, _ := nums.GetLong(n.FillBytes(make([]byte, 32)))
	return a
}

// power answers 2^n; 0, if n is 256.
func power(n int) api.Num { return limbs.Shift(one, n) }

// more answers a and n together.
func more(a api.Num, n uint64) api.Num {
	a, _ = limbs.Add(a, limbs.Of(n))
	return a
}

// less answers a less n.
func less(a api.Num, n uint64) api.Num {
	a, _ = limbs.Sub(a, limbs.Of(n))
	return a
}

// product answers a times b, which has room in a long number.
func product(a, b api.Num) api.Num {
	a, _ = limbs.Mul(a, b)
	return a
}

// rest answers what is left by m of a.
func rest(a, m api.Num) api.Num {
	_, a, _ = divides.Div(a, m)
	return a
}

// draws answers a function that tells numbers without a pattern, the same ones each time.
func draws() func() api.Num {
	state := uint64(1)
	return func() api.Num {
		var a api.Num
		for i := range a {
			state = state*6364136223846793005 + 1442695040888963407
			a[i] = state ^ state>>29
		}
		return a
	}
}

// must answers what a call that may not fail answers.
func must(t *testing.T) func(a api.Num, e api.Errno) api.Num {
	return func(a api.Num, e api.Errno) api.Num {
		t.Helper()
		if e != api.OK {
			t.Fatal(e)
		}
		return a
	}
}

// small is the group of the chapter's examples.
func small() api.Group { return api.Group{P: api.Num{23}, Q: api.Num{11}, G: four} }

// safe answers the group of the squares by p, which is one more than twice a prime number.
func safe(p api.Num) api.Group { return api.Group{P: p, Q: limbs.Shift(p, -1), G: four} }

// part answers the group by the prime number p whose order q goes into p less one.
func part(p, q api.Num) api.Group {
	often, _, _ := divides.Div(less(p, 1), q)
	a, _ := mods.Exp(two, often, p)
	return api.Group{P: p, Q: q, G: a}
}

// primeGroups are groups of prime order, by P of all lengths, about a word's and in the middle of one, of orders that are about as long and of shorter ones.
func primeGroups() []api.Group {
	order := less(power(160), 47)
	return []api.Group{
		small(), {P: api.Num{3}, Q: two, G: two}, {P: api.Num{7}, Q: api.Num{3}, G: two}, {P: api.Num{65537}, Q: two, G: api.Num{65536}},
		safe(less(power(16), 269)), safe(less(power(32), 209)), safe(less(power(63), 4569)), safe(less(power(64), 1469)), safe(less(power(65), 3213)),
		safe(less(power(128), 15449)), safe(less(power(129), 12273)), safe(less(power(192), 41213)), safe(less(power(255), 46545)),
		safe(more(power(255), 196479)), safe(less(none, 36113)),
		part(more(product(less(power(33), 76), less(power(31), 1)), 1), less(power(31), 1)),
		part(more(product(less(power(96), 16), order), 1), order),
		part(less(none, 189), api.Num{29}),
	}
}

// moduli are P: those of the groups, and such as are no prime, odd and even, of all lengths.
func moduli() []api.Num {
	list, next := []api.Num{two, four, {6}, {9}, {12}, {15}, {720720}, {all - 1}, {all}, {0, 1}, {1, 1}, {13, 1}, {1, 0, 0, top}, less(most, 1), most}, draws()
	for _, g := range primeGroups() {
		list = append(list, g.P)
	}
	for _, n := range []int{32, 63, 127, 128, 192, 255} {
		list = append(list, less(power(n), 1), power(n), more(power(n), 1))
	}
	for n := 20; n <= 256; n += 59 {
		list = append(list, limbs.Shift(next(), n-256))
	}
	return list
}

// inside are numbers from 1 to P less one: the edges, what goes into P more than once, and others.
func inside(p api.Num) []api.Num {
	list, next := []api.Num{}, draws()
	for _, a := range []api.Num{one, less(p, 1), two, limbs.Shift(p, -1), less(p, 2), {3}, four, {6}, {1 << 32}, {all}, {0, 1}, power(255), next(), next()} {
		if r := rest(a, p); r != none {
			list = append(list, r)
		}
	}
	return list
}

// outside are numbers that may not be multiplied.
func outside(p api.Num) []api.Num {
	list := []api.Num{none}
	for _, a := range []api.Num{p, more(p, 1), product(p, two), {0, 0, 0, 1}, less(most, 1), most} {
		if limbs.Cmp(a, p) >= 0 {
			list = append(list, a)
		}
	}
	return list
}

// exponents are of all lengths, those about q among them.
func exponents(q api.Num) []api.Num {
	return []api.Num{none, one, two, {3}, {1<<16 - 1}, {1 << 16}, {all}, {0, 1}, less(q, 1), q, more(q, 1), product(q, two), {5, all, 0, 77}, power(255), less(most, 1), most}
}

// members are numbers of the group, without a pattern but for the first ones.
func members(t *testing.T, g api.Group) []api.Num {
	must, next := must(t), draws()
	list := []api.Num{one, g.G, must(groups.Inv(g, g.G))}
	for range 4 {
		list = append(list, must(groups.Exp(g, g.G, next())))
	}
	return list
}

// The chapter's table of examples.
func TestExamples(t *testing.T) {
	g := small()
	if !groups.In(g, four) || groups.In(g, api.Num{5}) {
		t.Error("In 4, In 5")
	}
	if got, e := groups.Mul(g, api.Num{9}, api.Num{13}); got != two || e != api.OK {
		t.Error("Mul 9 13:", got, e)
	}
	if got, e := groups.Inv(g, four); got != (api.Num{6}) || e != api.OK {
		t.Error("Inv 4:", got, e)
	}
	if got, e := groups.Exp(g, four, api.Num{11}); got != one || e != api.OK {
		t.Error("Exp 4 11:", got, e)
	}
	if got, e := groups.Exp(g, none, one); got != none || e != api.ErrArg {
		t.Error("Exp 0 1:", got, e)
	}
}

// in answers, by multiplying again and again, whether a is of the group by p and q.
func in(p, q, a uint64) bool {
	if p < 2 || a < 1 || a >= p {
		return false
	}
	left := uint64(1)
	for range q {
		left = left * a % p
	}
	return left == 1
}

// P6.1, P6.2: of all groups and numbers that are small, prime or not.
func TestFineAndInOfSmall(t *testing.T) {
	for p := range uint64(40) {
		for q := range uint64(45) {
			for a := range p + 4 {
				g := api.Group{P: limbs.Of(p), Q: limbs.Of(q), G: limbs.Of(a)}
				want := in(p, q, a)
				if got := groups.In(g, g.G); got != want {
					t.Errorf("In of %d, %d: %d: %v", p, q, a, got)
				}
				if got := groups.Fine(g); got != (want && p > 1 && q > 1 && a != 1) {
					t.Errorf("Fine of %d, %d, %d: %v", p, q, a, got)
				}
			}
		}
	}
}

// P6.1: groups that may be, of prime order and not, and what makes them such that may not.
func TestFine(t *testing.T) {
	for i, g := range primeGroups() {
		if !number(g.P).ProbablyPrime(20) || !number(g.Q).ProbablyPrime(20) || rest(less(g.P, 1), g.Q) != none {
			t.Fatalf("%d is no group of prime order", i)
		}
		if !groups.Fine(g) {
			t.Errorf("%d may not be", i)
		}
		for j, bad := range []api.Group{
			{}, {Q: g.Q, G: g.G}, {P: g.P, G: g.G}, {P: g.P, Q: g.Q}, {P: one, Q: g.Q, G: g.G}, {P: one, Q: g.Q, G: one}, {P: one, Q: g.Q},
			{P: two, Q: g.Q, G: one}, {P: two, Q: g.Q, G: two}, {P: g.P, Q: one, G: g.G}, {P: g.P, Q: g.Q, G: one}, {P: g.P, Q: one, G: one}, {P: g.P, G: one},
			{P: g.P, Q: g.Q, G: g.P}, {P: g.P, Q: g.Q, G: most}, {P: g.G, Q: g.Q, G: g.G}, {P: g.P, Q: more(g.Q, 1), G: g.G}, {P: g.P, Q: less(g.Q, 1), G: g.G},
		} {
			if groups.Fine(bad) {
				t.Errorf("%d, %d: %v may be", i, j, bad)
			}
		}
		// What leaves 1 by P, but is above it, may not be G.
		if above, over := limbs.Add(g.P, g.G); over == 0 && groups.Fine(api.Group{P: g.P, Q: g.Q, G: above}) {
			t.Errorf("%d: G above P may be", i)
		}
	}
}

// P6.1: that P and Q are prime, and that Q goes into P less one, is not asked.
func TestFineAsksForNoPrimes(t *testing.T) {
	for _, g := range []api.Group{
		{P: api.Num{23}, Q: api.Num{22}, G: api.Num{5}}, {P: api.Num{23}, Q: api.Num{33}, G: four}, {P: api.Num{15}, Q: two, G: four}, {P: api.Num{15}, Q: four, G: two},
		{P: api.Num{16}, Q: four, G: api.Num{3}}, {P: four, Q: two, G: api.Num{3}}, {P: power(255), Q: power(253), G: api.Num{3}}, {P: most, Q: two, G: less(most, 1)},
		{P: most, Q: power(255), G: less(most, 1)}, {P: api.Num{0, 1}, Q: two, G: api.Num{all}}, {P: api.Num{all}, Q: api.Num{64}, G: two},
	} {
		if !groups.Fine(g) {
			t.Errorf("%v may not be", g)
		}
	}
}

// P6.2: of all numbers that may be multiplied those whose Q-th power is 1; no other one, whatever Q is.
func TestIn(t *testing.T) {
	for _, p := range moduli() {
		for _, q := range []api.Num{none, one, two, four, {11}, less(p, 1), limbs.Shift(p, -1), p, power(128), most} {
			g := api.Group{P: p, Q: q, G: two}
			for _, a := range inside(p) {
				want := new(big.Int).Exp(number(a), number(q), number(p)).Cmp(big.NewInt(1)) == 0
				if got := groups.In(g, a); got != want {
					t.Errorf("In of %v, %v: %v: %v", p, q, a, got)
				}
			}
			for _, a := range outside(p) {
				if groups.In(g, a) {
					t.Errorf("In of %v, %v: %v", p, q, a)
				}
			}
		}
	}
}

// P6.2: what G is hangs on nothing; of Q 0 are all that may be multiplied, of Q 1 is 1 alone.
func TestInAtTheEdge(t *testing.T) {
	for _, g := range primeGroups() {
		for _, a := range inside(g.P) {
			want := groups.In(g, a)
			for _, base := range []api.Num{none, one, g.P, most} {
				if got := groups.In(api.Group{P: g.P, Q: g.Q, G: base}, a); got != want {
					t.Errorf("In of %v: %v hangs on G", g, a)
				}
			}
			if !groups.In(api.Group{P: g.P, G: g.G}, a) || groups.In(api.Group{P: g.P, Q: one, G: g.G}, a) != (a == one) {
				t.Errorf("by %v, Q 0 and 1: %v", g.P, a)
			}
		}
	}
}

// P6.3: what the library's long numbers leave by P of the product, prime or not: 0 too.
func TestMul(t *testing.T) {
	for _, p := range moduli() {
		g := api.Group{P: p}
		for _, a := range inside(p) {
			for _, b := range inside(p) {
				want := new(big.Int).Mul(number(a), number(b))
				if got, e := groups.Mul(g, a, b); got != long(want.Mod(want, number(p))) || e != api.OK {
					t.Errorf("Mul by %v: %v, %v: %v, %d", p, a, b, got, e)
				}
			}
		}
	}
	if got, e := groups.Mul(api.Group{P: api.Num{12}}, api.Num{8}, api.Num{3}); got != none || e != api.OK {
		t.Error("Mul by 12: 8, 3:", got, e)
	}
}

// P6.3: the inverse, or ErrNone and nothing.
func TestInv(t *testing.T) {
	for _, p := range moduli() {
		g := api.Group{P: p}
		for _, a := range inside(p) {
			want := new(big.Int).ModInverse(number(a), number(p))
			got, e := groups.Inv(g, a)
			if want == nil && (got != none || e != api.ErrNone) {
				t.Errorf("Inv by %v: %v: %v, %d, want ErrNone", p, a, got, e)
			}
			if want != nil && (got != long(want) || e != api.OK) {
				t.Errorf("Inv by %v: %v: %v, %d, want %v", p, a, got, e, want)
			}
		}
	}
}

// P6.3: numbers have an inverse by a small P just if nothing above 1 goes into both.
func TestInvOfSmall(t *testing.T) {
	for p := uint64(2); p < 100; p++ {
		g := api.Group{P: limbs.Of(p)}
		for a := uint64(1); a < p; a++ {
			got, e := groups.Inv(g, limbs.Of(a))
			if divides.Common(limbs.Of(a), g.P) != one {
				if got != none || e != api.ErrNone {
					t.Errorf("Inv by %d: %d: %v, %d", p, a, got, e)
				}
			} else if e != api.OK || limbs.Cmp(got, g.P) >= 0 || got[0]*a%p != 1 {
				t.Errorf("Inv by %d: %d: %v, %d", p, a, got, e)
			}
		}
	}
}

// P6.3: the power of any exponent, by any P: both ways that it goes.
func TestExp(t *testing.T) {
	for _, p := range moduli() {
		g := api.Group{P: p, Q: limbs.Shift(p, -1)}
		for _, a := range inside(p) {
			for _, n := range exponents(g.Q) {
				want := long(new(big.Int).Exp(number(a), number(n), number(p)))
				if got, e := groups.Exp(g, a, n); got != want || e != api.OK {
					t.Errorf("Exp by %v: %v, %v: %v, %d, want %v", p, a, n, got, e, want)
				}
			}
		}
	}
}

// P6.3: each power is the one before, multiplied once more, from 1 on; by a P that is no prime it may be 0 at last.
func TestExpCounts(t *testing.T) {
	must := must(t)
	for _, p := range moduli() {
		g := api.Group{P: p}
		for _, a := range inside(p) {
			want := one
			for n := range uint64(20) {
				if got := must(groups.Exp(g, a, limbs.Of(n))); got != want {
					t.Errorf("Exp by %v: %v, %d: %v, want %v", p, a, n, got, want)
				}
				want = must(mods.Mul(want, a, p))
			}
		}
	}
	for _, n := range []int{4, 63, 64, 255} {
		if got := must(groups.Exp(api.Group{P: power(n)}, two, limbs.Of(uint64(n)))); got != none {
			t.Errorf("Exp by 2^%d: 2, %d: %v", n, n, got)
		}
	}
}

// P6.3: Mul, Inv and Exp ask neither for Q nor for G.
func TestOnlyPCounts(t *testing.T) {
	must := must(t)
	for _, g := range primeGroups() {
		a, n := less(g.P, 1), more(g.Q, 7)
		mul, inv, exp := must(groups.Mul(g, a, a)), must(groups.Inv(g, a)), must(groups.Exp(g, a, n))
		for _, other := range []api.Group{{P: g.P}, {P: g.P, Q: one, G: one}, {P: g.P, Q: most, G: most}, {P: g.P, Q: g.P, G: g.P}} {
			if must(groups.Mul(other, a, a)) != mul || must(groups.Inv(other, a)) != inv || must(groups.Exp(other, a, n)) != exp {
				t.Errorf("%v: other answers by %v", g, other)
			}
		}
	}
}

// refuse holds that nothing is told beside ErrArg, of a number that may not be multiplied, wherever it stands.
func refuse(t *testing.T, g api.Group, bad, other api.Num) {
	t.Helper()
	calls := []func() (api.Num, api.Errno){
		func() (api.Num, api.Errno) { return groups.Mul(g, bad, other) },
		func() (api.Num, api.Errno) { return groups.Mul(g, other, bad) },
		func() (api.Num, api.Errno) { return groups.Mul(g, bad, bad) },
		func() (api.Num, api.Errno) { return groups.Inv(g, bad) },
		func() (api.Num, api.Errno) { return groups.Exp(g, bad, other) },
		func() (api.Num, api.Errno) { return groups.Exp(g, bad, none) },
	}
	for i, call := range calls {
		if got, e := call(); got != none || e != api.ErrArg {
			t.Errorf("%d, of %v, %v by %v: %v, %d", i, bad, other, g, got, e)
		}
	}
	if groups.In(g, bad) {
		t.Errorf("In of %v: %v", g, bad)
	}
}

// P6.3, R2: 0, P and what is above it may not be multiplied; nothing may, where P is 0 or 1. ErrArg stands ahead of ErrNone.
func TestRefused(t *testing.T) {
	for _, p := range moduli() {
		for _, q := range []api.Num{none, one, {11}, most} {
			for _, bad := range outside(p) {
				for _, other := range []api.Num{one, less(p, 1), bad, most} {
					refuse(t, api.Group{P: p, Q: q, G: two}, bad, other)
				}
			}
		}
	}
	for _, p := range []api.Num{none, one} {
		for _, q := range []api.Num{none, one, {11}, most} {
			for _, bad := range []api.Num{none, one, two, {5}, {0, 1}, most} {
				refuse(t, api.Group{P: p, Q: q, G: one}, bad, one)
			}
		}
	}
}

// P6.3: by 2 there is 1 alone, which is of each group, and its own inverse.
func TestByTwo(t *testing.T) {
	must := must(t)
	g := api.Group{P: two, Q: api.Num{11}, G: one}
	if !groups.In(g, one) || groups.Fine(g) || must(groups.Mul(g, one, one)) != one || must(groups.Inv(g, one)) != one || must(groups.Exp(g, one, most)) != one {
		t.Error("1 by 2")
	}
	refuse(t, g, two, one)
}

// P6.3: an exponent may be what no number may: 0, P and above; a power is 1, where it is 0.
func TestExpTakesAnyExponent(t *testing.T) {
	must := must(t)
	for _, g := range primeGroups() {
		last := less(g.P, 1)
		for _, n := range append(exponents(g.Q), g.P, more(g.P, 1), last) {
			want := one
			if limbs.Bit(n, 0) == 1 {
				want = last
			}
			if must(groups.Exp(g, last, n)) != want || must(groups.Exp(g, one, n)) != one {
				t.Errorf("by %v to %v", g.P, n)
			}
		}
		if must(groups.Exp(g, g.G, none)) != one || must(groups.Exp(g, g.G, one)) != g.G || must(groups.Exp(g, g.G, g.Q)) != one {
			t.Errorf("%v: G to 0, 1, Q", g)
		}
	}
}

// P6.4: products, inverses and powers of numbers of the group are of the group.
func TestStaysInTheGroup(t *testing.T) {
	must := must(t)
	for _, g := range primeGroups() {
		list := members(t, g)
		for _, a := range list {
			inverse := must(groups.Inv(g, a))
			if !groups.In(g, a) || !groups.In(g, inverse) || must(groups.Mul(g, a, inverse)) != one || must(groups.Inv(g, inverse)) != a {
				t.Errorf("%v: %v, the inverse %v", g, a, inverse)
			}
			for _, b := range list {
				if c := must(groups.Mul(g, a, b)); !groups.In(g, c) || c != must(groups.Mul(g, b, a)) {
					t.Errorf("%v: %v times %v is %v", g, a, b, c)
				}
			}
			for _, n := range exponents(g.Q) {
				if c := must(groups.Exp(g, a, n)); !groups.In(g, c) {
					t.Errorf("%v: %v to %v is %v", g, a, n, c)
				}
			}
		}
	}
}

// P6.4: likewise of all that are small, whatever P and Q are, if Q is above 0; exponents go round by Q.
func TestSmallGroupsStay(t *testing.T) {
	must := must(t)
	for p := uint64(2); p < 30; p++ {
		for q := uint64(1); q < 12; q++ {
			g := api.Group{P: limbs.Of(p), Q: limbs.Of(q)}
			for a := uint64(1); a < p; a++ {
				if !in(p, q, a) {
					continue
				}
				if !groups.In(g, must(groups.Inv(g, limbs.Of(a)))) {
					t.Errorf("by %d, %d: the inverse of %d", p, q, a)
				}
				for b := uint64(1); b < p; b++ {
					if in(p, q, b) && !groups.In(g, must(groups.Mul(g, limbs.Of(a), limbs.Of(b)))) {
						t.Errorf("by %d, %d: %d times %d", p, q, a, b)
					}
				}
				for n := range 2*q + 3 {
					c := must(groups.Exp(g, limbs.Of(a), limbs.Of(n)))
					if !groups.In(g, c) || c != must(groups.Exp(g, limbs.Of(a), limbs.Of(n%q))) {
						t.Errorf("by %d, %d: %d to %d is %v", p, q, a, n, c)
					}
				}
			}
		}
	}
}

// P6.4: exponents go round by Q: their sums make products, one more than Q makes the number, one less its inverse.
func TestExponentsGoRound(t *testing.T) {
	must := must(t)
	for _, g := range primeGroups() {
		list := append(exponents(g.Q), g.P, less(g.P, 1))
		for _, a := range members(t, g) {
			made := make([]api.Num, len(list))
			for i, n := range list {
				made[i] = must(groups.Exp(g, a, n))
				if made[i] != must(groups.Exp(g, a, rest(n, g.Q))) {
					t.Errorf("%v: %v to %v", g, a, n)
				}
			}
			for i, n := range list {
				k := (5*i + 3) % len(list)
				sum := must(mods.Add(rest(n, g.Q), rest(list[k], g.Q), g.Q))
				if must(groups.Exp(g, a, sum)) != must(groups.Mul(g, made[i], made[k])) {
					t.Errorf("%v: %v to %v and %v", g, a, n, list[k])
				}
			}
			if must(groups.Exp(g, a, less(g.Q, 1))) != must(groups.Inv(g, a)) || must(groups.Exp(g, a, more(g.Q, 1))) != a {
				t.Errorf("%v: %v about Q", g, a)
			}
		}
	}
}

// P6.4: a power of a power is that of the exponents' product, in either order: so two share a power.
func TestTwoShare(t *testing.T) {
	must, next := must(t), draws()
	for _, g := range primeGroups() {
		pairs := [][2]api.Num{{none, one}, {one, one}, {two, four}, {g.Q, two}, {less(g.Q, 1), less(g.Q, 1)}, {most, most}, {next(), next()}, {rest(next(), g.Q), rest(next(), g.Q)}}
		for _, pair := range pairs {
			his, hers := pair[0], pair[1]
			product := must(mods.Mul(rest(his, g.Q), rest(hers, g.Q), g.Q))
			want := must(groups.Exp(g, g.G, product))
			first := must(groups.Exp(g, must(groups.Exp(g, g.G, his)), hers))
			second := must(groups.Exp(g, must(groups.Exp(g, g.G, hers)), his))
			if first != want || second != want {
				t.Errorf("%v by %v, %v: %v and %v, want %v", g, his, hers, first, second, want)
			}
		}
	}
}

// P6.4: of a number that is of no group a power of a power is that of the product too, where that has room.
func TestPowersOfPowers(t *testing.T) {
	must := must(t)
	for _, p := range moduli() {
		g := api.Group{P: p}
		for _, a := range inside(p) {
			for _, n := range []api.Num{one, two, {3}, {all}, {5, 7}} {
				first := must(groups.Exp(g, a, n))
				if first == none {
					continue
				}
				if must(groups.Exp(g, first, api.Num{0, 6})) != must(groups.Exp(g, a, product(n, api.Num{0, 6}))) {
					t.Errorf("by %v: %v to %v", p, a, n)
				}
			}
		}
	}
}

// P6.4: the numbers of a group of prime order are the powers of G, each once.
func TestPowersOfG(t *testing.T) {
	must := must(t)
	for _, g := range []api.Group{small(), {P: api.Num{7}, Q: api.Num{3}, G: two}, safe(api.Num{1019}), part(api.Num{1021}, api.Num{17})} {
		seen := map[api.Num]bool{}
		for n := range g.Q[0] {
			seen[must(groups.Exp(g, g.G, limbs.Of(n)))] = true
		}
		count := uint64(0)
		for a := range g.P[0] {
			if groups.In(g, limbs.Of(a)) != seen[limbs.Of(a)] {
				t.Errorf("%v: %d", g, a)
			}
			if seen[limbs.Of(a)] {
				count++
			}
		}
		if count != g.Q[0] {
			t.Errorf("%v has %d numbers", g, count)
		}
	}
}

// hold holds all calls' answers against what the library's long numbers leave.
func hold(t *testing.T, g api.Group, a, b api.Num) {
	t.Helper()
	x, y, p := number(a), number(b), number(g.P)
	first := limbs.Bits(a) > 0 && limbs.Cmp(a, g.P) < 0
	both := first && limbs.Bits(b) > 0 && limbs.Cmp(b, g.P) < 0
	var mul, inv, exp api.Num
	mulE, invE, expE := api.ErrArg, api.ErrArg, api.ErrArg
	of := false
	if both {
		mul, mulE = long(new(big.Int).Mod(new(big.Int).Mul(x, y), p)), api.OK
	}
	if first {
		exp, expE, invE = long(new(big.Int).Exp(x, y, p)), api.OK, api.ErrNone
		if n := new(big.Int).ModInverse(x, p); n != nil {
			inv, invE = long(n), api.OK
		}
		of = new(big.Int).Exp(x, number(g.Q), p).Cmp(big.NewInt(1)) == 0
	}
	if got, e := groups.Mul(g, a, b); got != mul || e != mulE {
		t.Errorf("Mul: %v, %d, want %v, %d", got, e, mul, mulE)
	}
	if got, e := groups.Inv(g, a); got != inv || e != invE {
		t.Errorf("Inv: %v, %d, want %v, %d", got, e, inv, invE)
	}
	if got, e := groups.Exp(g, a, b); got != exp || e != expE {
		t.Errorf("Exp: %v, %d, want %v, %d", got, e, exp, expE)
	}
	if got := groups.In(g, a); got != of {
		t.Errorf("In: %v", got)
	}
	g.G = a
	if got := groups.Fine(g); got != (of && a != one && limbs.Cmp(g.Q, one) > 0) {
		t.Errorf("Fine: %v", got)
	}
}

// R1, R5: at any words nothing panics, and all answers are right ones, the second time too.
func FuzzGroups(f *testing.F) {
	f.Add(uint64(23), uint64(0), uint64(0), uint64(0), uint64(11), uint64(0), uint64(4), uint64(0), uint64(0), uint64(0), uint64(9), uint64(0))
	f.Add(uint64(0), uint64(0), uint64(0), uint64(0), uint64(0), uint64(0), uint64(0), uint64(0), uint64(0), uint64(0), uint64(0), uint64(0))
	f.Add(uint64(1), uint64(0), uint64(0), uint64(0), uint64(2), uint64(0), uint64(1), uint64(0), uint64(0), uint64(0), uint64(1), uint64(0))
	f.Add(uint64(12), uint64(0), uint64(0), uint64(0), uint64(2), uint64(0), uint64(8), uint64(0), uint64(0), uint64(0), uint64(3), uint64(0))
	f.Add(uint64(all), uint64(0), uint64(0), uint64(0), uint64(all), uint64(all), uint64(all), uint64(1), uint64(2), uint64(3), uint64(4), uint64(5))
	f.Add(uint64(all), uint64(all), uint64(all), uint64(all), uint64(2), uint64(0), uint64(all-1), uint64(all), uint64(all), uint64(all), uint64(all), uint64(all))
	f.Fuzz(func(t *testing.T, p0, p1, p2, p3, q0, q3, a0, a1, a2, a3, b0, b3 uint64) {
		a, b := api.Num{a0, a1, a2, a3}, api.Num{b0, 0, 0, b3}
		for _, p := range []api.Num{{p0, p1, p2, p3}, {p0}} {
			g := api.Group{P: p, Q: api.Num{q0, 0, 0, q3}}
			hold(t, g, a, b)
			hold(t, g, a, b)
			// Few words are below others: these are, so that more than what is refused is looked at.
			hold(t, g, rest(a, p), b)
			hold(t, g, rest(a, p), rest(b, p))
		}
	})
}

// The layers above take powers for each key, each greeting, and each signature.
func BenchmarkExp(b *testing.B) {
	for _, c := range []struct {
		name string
		g    api.Group
		n    api.Num
	}{
		{"full", safe(less(none, 36113)), api.Num{all - 4, 1, 9, top | 77}},
		{"word", safe(less(power(64), 1469)), api.Num{top | 77}},
		{"tiny", small(), api.Num{11}},
	} {
		b.Run(c.name, func(b *testing.B) {
			for b.Loop() {
				groups.Exp(c.g, c.g.G, c.n)
			}
		})
	}
}

func BenchmarkFine(b *testing.B) {
	g := safe(less(none, 36113))
	for b.Loop() {
		groups.Fine(g)
	}
}
