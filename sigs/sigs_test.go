package sigs_test

import (
	"crypto/sha256"
	"encoding/binary"
	"math"
	"math/big"
	"slices"
	"testing"

	"burrow/api"
	"burrow/limbs"
	"burrow/nums"
	"burrow/sigs"
)

const (
	all = math.MaxUint64
	top = 1 << 63
)

var (
	none = api.Num{}
	one  = api.Num{1}
	two  = api.Num{2}
	four = api.Num{4}
	most = api.Num{all, all, all, all}
)

// number answers a by the library's long numbers, which all answers are held against.
func number(a api.Num) *big.Int { return new(big.Int).SetBytes(nums.PutLong(nil, a)) }

// long answers n, which has room in a long number.
func long(n *big.Int) api.Num {
	a, _ := nums.GetLong(n.FillBytes(make([]byte, 32)))
	return a
}

// rest answers what is left by m, which is above 0, of n.
func rest(n *big.Int, m api.Num) api.Num { return long(new(big.Int).Mod(n, number(m))) }

// power answers a to the power of n by p, which is above 0.
func power(a, n, p api.Num) api.Num { return long(new(big.Int).Exp(number(a), number(n), number(p))) }

// times answers what is left by m of a times b.
func times(a, b, m api.Num) api.Num { return rest(new(big.Int).Mul(number(a), number(b)), m) }

// plus answers what is left by m of a and b together.
func plus(a, b, m api.Num) api.Num { return rest(new(big.Int).Add(number(a), number(b)), m) }

// more answers a and n together.
func more(a api.Num, n uint64) api.Num {
	a, _ = limbs.Add(a, limbs.Of(n))
	return a
}

// less answers a less n.
func less(a api.Num, n uint64) api.Num {
	a, _ = limbs.Sub(a, limbs.Of(n))
	return a
}

// flip answers a with one bit turned.
func flip(a api.Num, bit int) api.Num {
	a[bit/64] ^= 1 << (bit % 64)
	return a
}

// told answers the number that the digits of 16 tell.
func told(t *testing.T, digits string) api.Num {
	t.Helper()
	n, ok := new(big.Int).SetString(digits, 16)
	if !ok {
		t.Fatal(digits)
	}
	return long(n)
}

// summed answers, by the library's sums, the parts, as something, as a number below m.
func summed(m api.Num, as string, parts ...[]byte) api.Num {
	var both []byte
	for which := range 2 {
		b := append(binary.BigEndian.AppendUint32(nil, uint32(len(as))), as...)
		b = binary.BigEndian.AppendUint32(b, uint32(len(parts)+1))
		for _, part := range append(slices.Clone(parts), []byte{byte(which)}) {
			b = append(binary.BigEndian.AppendUint32(b, uint32(len(part))), part...)
		}
		sum := sha256.Sum256(b)
		both = append(both, sum[:]...)
	}
	return rest(new(big.Int).SetBytes(both), m)
}

// bytesOf answers the 32 bytes of a, the highest ahead.
func bytesOf(a api.Num) []byte { return number(a).FillBytes(make([]byte, 32)) }

// challenge answers the one of the key, of the number, and of the sum, by what the chapter says of it.
func challenge(g api.Group, key, shown api.Num, s api.Sum) api.Num {
	return summed(g.Q, "sign", bytesOf(key), bytesOf(shown), s[:])
}

// draw answers what the secret and the sum tell ahead of 1 taking the place of 0.
func draw(g api.Group, secret api.Num, s api.Sum) api.Num {
	return summed(g.Q, "draw", bytesOf(secret), s[:])
}

// forge answers the signature that who has the secret makes for any key, by any n in the place of what is drawn.
func forge(g api.Group, key, secret, n api.Num, s api.Sum) api.Signature {
	c := challenge(g, key, power(g.G, n, g.P), s)
	return api.Signature{C: c, S: plus(n, times(secret, c, g.Q), g.Q)}
}

// signed answers the signature that the chapter asks for.
func signed(g api.Group, secret api.Num, s api.Sum) api.Signature {
	n := draw(g, secret, s)
	if n == none {
		n = one
	}
	return forge(g, power(g.G, secret, g.P), secret, n, s)
}

// fine answers whether the group may be.
func fine(g api.Group) bool {
	return limbs.Cmp(g.P, one) > 0 && limbs.Cmp(g.Q, one) > 0 && isKey(g, g.G)
}

// isKey answers whether the number is of the group, and not 1.
func isKey(g api.Group, key api.Num) bool {
	return key != none && key != one && limbs.Cmp(key, g.P) < 0 && power(key, g.Q, g.P) == one
}

// exponent answers whether the number is below Q.
func exponent(g api.Group, n api.Num) bool { return limbs.Cmp(n, g.Q) < 0 }

// meets answers whether C is the challenge that S and the key lead to, whatever they are; P and Q are above 0.
func meets(g api.Group, key api.Num, s api.Sum, sig api.Signature) bool {
	left := rest(new(big.Int).Sub(number(g.Q), number(sig.C)), g.Q)
	if left == none {
		left = g.Q
	}
	shown := times(power(g.G, sig.S, g.P), power(key, left, g.P), g.P)
	return rest(number(sig.C), g.Q) == challenge(g, key, shown, s)
}

// passes answers whether the signature passes, by what the chapter says.
func passes(g api.Group, key api.Num, s api.Sum, sig api.Signature) bool {
	return fine(g) && isKey(g, key) && exponent(g, sig.C) && exponent(g, sig.S) && meets(g, key, s, sig)
}

// small is the group of the chapter's examples.
func small() api.Group { return api.Group{P: api.Num{23}, Q: api.Num{11}, G: four} }

// full is a group by a prime number of 256 bits.
func full() api.Group {
	p := less(none, 36113)
	return api.Group{P: p, Q: limbs.Shift(p, -1), G: four}
}

// short is a group by a prime number of 256 bits, of an order of 160.
func short() api.Group {
	q := less(limbs.Shift(one, 160), 47)
	p, _ := limbs.Mul(less(limbs.Shift(one, 96), 16), q)
	p = more(p, 1)
	return api.Group{P: p, Q: q, G: power(two, long(new(big.Int).Div(number(p), number(q))), p)}
}

// primeGroups are groups of prime order, by P of few bits, of about a word's, and of 256.
func primeGroups() []api.Group {
	p, beyond := less(limbs.Shift(one, 64), 1469), less(limbs.Shift(one, 65), 3213)
	return []api.Group{
		{P: api.Num{3}, Q: two, G: two}, {P: api.Num{5}, Q: two, G: four}, {P: api.Num{7}, Q: api.Num{3}, G: two}, small(), {P: api.Num{1000000007}, Q: api.Num{500000003}, G: four},
		{P: p, Q: limbs.Shift(p, -1), G: four}, {P: beyond, Q: limbs.Shift(beyond, -1), G: four}, short(), full(),
	}
}

// otherGroups may be, but P or Q is no prime number, or Q is more than is asked for; in some of them keys are 1, in some exponents have more bits than numbers.
func otherGroups() []api.Group {
	return []api.Group{
		{P: api.Num{23}, Q: api.Num{22}, G: four}, {P: api.Num{23}, Q: api.Num{22}, G: api.Num{5}}, {P: api.Num{23}, Q: api.Num{33}, G: four}, {P: four, Q: two, G: api.Num{3}},
		{P: api.Num{15}, Q: four, G: two}, {P: api.Num{16}, Q: four, G: api.Num{3}}, {P: api.Num{7}, Q: most, G: two}, {P: api.Num{0, 1}, Q: two, G: api.Num{all}},
		{P: api.Num{all}, Q: api.Num{64}, G: two}, {P: limbs.Shift(one, 255), Q: limbs.Shift(one, 253), G: api.Num{3}}, {P: most, Q: limbs.Shift(one, 255), G: less(most, 1)},
	}
}

// fineGroups are all of these.
func fineGroups() []api.Group { return append(primeGroups(), otherGroups()...) }

// badGroups are made from one that may be, and may not be themselves.
func badGroups(g api.Group) []api.Group {
	return []api.Group{
		{}, {Q: g.Q, G: g.G}, {P: g.P, G: g.G}, {P: g.P, Q: g.Q}, {P: one, Q: g.Q, G: one}, {P: one, Q: g.Q, G: g.G}, {P: g.P, Q: one, G: g.G}, {P: g.P, Q: one, G: one},
		{P: g.P, Q: g.Q, G: one}, {P: g.P, Q: g.Q, G: g.P}, {P: g.P, Q: g.Q, G: more(g.P, 1)}, {P: g.P, Q: g.Q, G: most}, {P: g.G, Q: g.Q, G: g.G}, {P: g.P, Q: more(g.Q, 1), G: g.G},
	}
}

// draws answers a function that tells numbers without a pattern, the same ones each time.
func draws() func() api.Num {
	state := uint64(1)
	return func() api.Num {
		var a api.Num
		for i := range a {
			state = state*6364136223846793005 + 1442695040888963407
			a[i] = state ^ state>>29
		}
		return a
	}
}

// sums are of noughts, of ones, of something, and of some more.
func sums() []api.Sum {
	list := []api.Sum{{}, api.Sum(bytesOf(most)), sha256.Sum256([]byte("abc"))}
	for i := range byte(3) {
		list = append(list, api.Sum{31: i + 1}, api.Sum{i + 1})
	}
	return list
}

// secrets are of the group: the edges, the middle, and others.
func secrets(g api.Group) []api.Num {
	list, next := []api.Num{}, draws()
	for _, a := range []api.Num{one, two, {3}, {11}, limbs.Shift(g.Q, -1), less(g.Q, 2), less(g.Q, 1), next(), next()} {
		if r := rest(number(a), g.Q); r != none && !slices.Contains(list, r) {
			list = append(list, r)
		}
	}
	return list
}

// noSecrets are numbers that may be no secret of the group.
func noSecrets(g api.Group) []api.Num {
	list := []api.Num{none}
	for _, a := range []api.Num{g.Q, more(g.Q, 1), limbs.Shift(g.Q, 1), g.P, {0, 1}, {1, 1}, {0, 0, 0, top}, {1, 0, 0, 1}, less(most, 1), most} {
		if !exponent(g, a) {
			list = append(list, a)
		}
	}
	return list
}

// keyOf answers a secret's key, which must be.
func keyOf(t *testing.T, g api.Group, secret api.Num) api.Num {
	t.Helper()
	key, e := sigs.Key(g, secret)
	if e != api.OK {
		t.Fatalf("Key by %v: %v: %d", g, secret, e)
	}
	return key
}

// sign answers a signature, which must be.
func sign(t *testing.T, g api.Group, secret api.Num, s api.Sum) api.Signature {
	t.Helper()
	sig, e := sigs.Sign(g, secret, s)
	if e != api.OK {
		t.Fatalf("Sign by %v: %v: %d", g, secret, e)
	}
	return sig
}

// refuse holds that no key and no signature is told beside ErrArg.
func refuse(t *testing.T, g api.Group, secret api.Num) {
	t.Helper()
	if key, e := sigs.Key(g, secret); key != none || e != api.ErrArg {
		t.Errorf("Key by %v: %v: %v, %d", g, secret, key, e)
	}
	for _, s := range sums()[:2] {
		if sig, e := sigs.Sign(g, secret, s); sig != (api.Signature{}) || e != api.ErrArg {
			t.Errorf("Sign by %v: %v: %v, %d", g, secret, sig, e)
		}
	}
}

// check holds Check's answer against what the chapter says.
func check(t *testing.T, g api.Group, key api.Num, s api.Sum, sig api.Signature) {
	t.Helper()
	if want := passes(g, key, s, sig); sigs.Check(g, key, s, sig) != want {
		t.Errorf("Check by %v: %v, %v, %v: want %v", g, key, s, sig, want)
	}
}

// The chapter's table of examples.
func TestExamples(t *testing.T) {
	g := small()
	for _, secret := range []api.Num{none, {11}} {
		if key, e := sigs.Key(g, secret); key != none || e != api.ErrArg {
			t.Error("Key by", secret[0], key, e)
		}
	}
	if key, e := sigs.Key(g, one); key != four || e != api.OK {
		t.Error("Key by 1:", key, e)
	}
}

// P7.1 to P7.3: keys and signatures that another program told.
func TestTold(t *testing.T) {
	abc := api.Sum(sha256.Sum256([]byte("abc")))
	for _, c := range []struct {
		g               api.Group
		s               api.Sum
		secret          string
		key, challenges string
		together        string
	}{
		{small(), abc, "7", "8", "9", "6"},
		{api.Group{P: api.Num{1000000007}, Q: api.Num{500000003}, G: four}, api.Sum{}, "3e7", "b2a0ab5", "1160b578", "2c3ca1e"},
		{full(), abc,
			"15dc06a9bd8ed1f1c5e981b0d542ab435ef07566b8b17f7b512ff4bdfa93d12d", "fa54c3d7546647d7bb18b92120c3ac6af1695e56b31bd551a42e67c198fca127",
			"6cf776cdd579287462e13d24ea7b0fa17882b1a115d06a656cfe3429b0e2e8b1", "329030714426d24f98430601e6209f9abe81c8764b7ffa6579864999fa63bb17"},
	} {
		secret, want := told(t, c.secret), api.Signature{C: told(t, c.challenges), S: told(t, c.together)}
		key := keyOf(t, c.g, secret)
		if key != told(t, c.key) {
			t.Errorf("Key by %s: %v", c.secret, key)
		}
		if got := sign(t, c.g, secret, c.s); got != want {
			t.Errorf("Sign by %s: %v", c.secret, got)
		}
		if !sigs.Check(c.g, key, c.s, want) {
			t.Errorf("Check by %s", c.secret)
		}
	}
}

// P7.1: G to the power of the secret, from 1 to Q less one: 1 may be the key, where G's order is less than Q.
func TestKey(t *testing.T) {
	for _, g := range fineGroups() {
		if !fine(g) {
			t.Fatalf("%v may not be", g)
		}
		for _, secret := range secrets(g) {
			if got := keyOf(t, g, secret); got != power(g.G, secret, g.P) {
				t.Errorf("Key by %v: %v: %v", g, secret, got)
			}
		}
		if keyOf(t, g, one) != g.G {
			t.Errorf("Key by %v: 1", g)
		}
	}
}

// P7.1: by small groups, each key is the one before times G, and the secrets end at Q.
func TestKeyCounts(t *testing.T) {
	for _, g := range fineGroups() {
		if limbs.Bits(g.Q) > 8 {
			continue
		}
		want := g.G
		for secret := uint64(1); secret < g.Q[0]; secret++ {
			if got := keyOf(t, g, limbs.Of(secret)); got != want {
				t.Errorf("Key by %v: %d: %v", g, secret, got)
			}
			want = times(want, g.G, g.P)
		}
		for secret := g.Q[0]; secret < 2*g.Q[0]+2; secret++ {
			refuse(t, g, limbs.Of(secret))
		}
	}
}

// P7.1, P7.2, R2: secrets 0, Q and above are none; nothing is told beside the error.
func TestNoSecrets(t *testing.T) {
	for _, g := range fineGroups() {
		for _, secret := range noSecrets(g) {
			refuse(t, g, secret)
		}
	}
}

// P7.1 to P7.3: by a group that may not be there is no key, no signature, and nothing passes.
func TestBadGroups(t *testing.T) {
	for _, g := range primeGroups() {
		for _, bad := range badGroups(g) {
			if fine(bad) {
				t.Fatalf("%v may be", bad)
			}
			for _, secret := range append(secrets(g), noSecrets(g)...) {
				refuse(t, bad, secret)
			}
			for _, s := range sums()[:3] {
				sig := signed(g, one, s)
				for _, key := range []api.Num{none, one, g.G, g.P, bad.G, power(g.G, two, g.P)} {
					for _, forged := range []api.Signature{sig, {}, {C: sig.C}, {S: sig.S}, {C: one, S: one}} {
						if sigs.Check(bad, key, s, forged) {
							t.Errorf("Check by %v: %v, %v", bad, key, forged)
						}
					}
				}
			}
		}
	}
}

// P7.2: what the chapter says of C and S, by all groups, at the edges of secrets and sums.
func TestSign(t *testing.T) {
	for _, g := range fineGroups() {
		for _, secret := range secrets(g) {
			for _, s := range sums() {
				got := sign(t, g, secret, s)
				if got != signed(g, secret, s) {
					t.Errorf("Sign by %v: %v, %v: %v", g, secret, s, got)
				}
				if !exponent(g, got.C) || !exponent(g, got.S) {
					t.Errorf("Sign by %v: %v, %v: %v is no pair of exponents", g, secret, s, got)
				}
			}
		}
	}
}

// P7.2: where 0 would be drawn, 1 is: by small groups that comes often.
func TestNoughtIsDrawn(t *testing.T) {
	for _, g := range primeGroups()[:4] {
		for _, secret := range secrets(g) {
			noughts := 0
			for i := range byte(100) {
				s := api.Sum{5: i}
				if draw(g, secret, s) != none {
					continue
				}
				noughts++
				key := keyOf(t, g, secret)
				got := sign(t, g, secret, s)
				if got.C != challenge(g, key, g.G, s) || got.S != plus(one, times(secret, got.C, g.Q), g.Q) {
					t.Errorf("Sign by %v: %v, %v: %v", g, secret, s, got)
				}
				if !sigs.Check(g, key, s, got) {
					t.Errorf("Check by %v: %v, %v: %v", g, secret, s, got)
				}
			}
			if noughts == 0 {
				t.Errorf("by %v: %v: 0 is never drawn", g, secret)
			}
		}
	}
}

// P7.2, P7.3: by a group whose generator allows it a secret's key is 1: there is a signature, but it does not pass.
func TestKeyOne(t *testing.T) {
	for _, c := range []struct {
		g      api.Group
		secret api.Num
	}{
		{api.Group{P: api.Num{23}, Q: api.Num{22}, G: four}, api.Num{11}}, {api.Group{P: api.Num{23}, Q: api.Num{33}, G: four}, api.Num{22}},
		{api.Group{P: api.Num{7}, Q: most, G: two}, api.Num{0, 0, 0, 3 << 60}}, {api.Group{P: most, Q: limbs.Shift(one, 255), G: less(most, 1)}, limbs.Shift(one, 254)},
	} {
		if key := keyOf(t, c.g, c.secret); key != one {
			t.Fatalf("Key by %v: %v: %v", c.g, c.secret, key)
		}
		for _, s := range sums() {
			sig := sign(t, c.g, c.secret, s)
			if sig != signed(c.g, c.secret, s) || !meets(c.g, one, s, sig) {
				t.Errorf("Sign by %v: %v, %v: %v", c.g, c.secret, s, sig)
			}
			if sigs.Check(c.g, one, s, sig) {
				t.Errorf("Check by %v: 1, %v: %v", c.g, s, sig)
			}
		}
	}
}

// P7.3: by small groups, of all keys, and of all C and S, those pass that the chapter tells, and no other ones.
func TestCheckOfSmall(t *testing.T) {
	for _, pair := range [][2]uint64{{3, 2}, {5, 2}, {7, 3}, {8, 2}, {9, 6}, {11, 5}, {7, 0}, {7, 1}, {2, 3}, {1, 3}, {0, 3}} {
		p, q := pair[0], pair[1]
		for base := range p + 2 {
			g := api.Group{P: limbs.Of(p), Q: limbs.Of(q), G: limbs.Of(base)}
			for key := range p + 3 {
				for c := range q + 2 {
					for together := range q + 2 {
						for _, s := range sums()[:4] {
							check(t, g, limbs.Of(key), s, api.Signature{C: limbs.Of(c), S: limbs.Of(together)})
						}
					}
				}
			}
		}
	}
}

// lie is what may not pass, though whoever made it knew the secret behind it.
type lie struct {
	name string
	g    api.Group
	key  api.Num
	sig  api.Signature
}

// lies are, by the small group, of an exponent in the place of what is drawn: each breaks one condition alone, wherever it meets the equation.
func lies(s api.Sum, secret, n api.Num) []lie {
	g, bad := small(), api.Group{P: api.Num{23}, Q: api.Num{11}, G: api.Num{5}}
	key, badKey := power(g.G, secret, g.P), power(bad.G, plus(secret, secret, g.P), g.P)
	turned, above := less(g.P, key[0]), more(g.P, key[0])
	right := forge(g, key, secret, n, s)
	return []lie{
		{"a group that may not be", bad, badKey, forge(bad, badKey, plus(secret, secret, g.P), n, s)},
		{"a key that is not of the group", g, turned, forge(g, turned, secret, n, s)},
		{"the key 1", g, one, forge(g, one, none, n, s)},
		{"a key above P", g, above, forge(g, above, secret, n, s)},
		{"C above Q", g, key, api.Signature{C: more(right.C, 11), S: right.S}},
		{"S above Q", g, key, api.Signature{C: right.C, S: more(right.S, 11)}},
	}
}

// P7.3: each of the chapter's conditions counts: there is what meets the equation, but for one of them, and it does not pass.
func TestEachConditionCounts(t *testing.T) {
	meet := map[string]int{}
	for _, s := range sums() {
		for secret := uint64(1); secret < 11; secret++ {
			for n := range uint64(11) {
				for _, l := range lies(s, limbs.Of(secret), limbs.Of(n)) {
					if sigs.Check(l.g, l.key, s, l.sig) {
						t.Errorf("%s: Check by %v: %v, %v: %v", l.name, l.g, l.key, s, l.sig)
					}
					if meets(l.g, l.key, s, l.sig) {
						meet[l.name]++
					}
				}
			}
		}
	}
	if len(meet) != len(lies(api.Sum{}, one, one)) {
		t.Error("not each of them meets the equation:", meet)
	}
}

// P7.3: likewise by a group of 256 bits, where nothing meets by chance.
func TestForgedInFull(t *testing.T) {
	next := draws()
	for _, g := range []api.Group{full(), short()} {
		secret, s := rest(number(next()), g.Q), api.Sum{9}
		key := keyOf(t, g, secret)
		turned := long(new(big.Int).Sub(number(g.P), number(key)))
		for range 8 {
			n := rest(number(next()), g.Q)
			if !sigs.Check(g, key, s, forge(g, key, secret, n, s)) {
				t.Error("what is drawn otherwise does not pass")
			}
			for _, c := range []struct{ key, secret api.Num }{{none, secret}, {one, none}, {one, secret}, {turned, secret}, {g.P, secret}, {more(g.P, 1), none}, {most, secret}, {g.Q, secret}} {
				if sigs.Check(g, c.key, s, forge(g, c.key, c.secret, n, s)) {
					t.Errorf("Check by %v: %v", g, c.key)
				}
			}
		}
	}
}

// P7.3: keys, C and S at the edges, in each place of what was signed.
func TestCheckAtTheEdge(t *testing.T) {
	for _, g := range fineGroups() {
		others := []api.Num{none, one, two, less(g.Q, 1), g.Q, more(g.Q, 1), g.P, more(g.P, 1), less(g.P, 1), {0, 1}, {0, 0, 0, top}, most}
		for _, s := range sums()[1:3] {
			secret := less(g.Q, 1)
			key, sig := keyOf(t, g, secret), sign(t, g, secret, s)
			check(t, g, key, s, sig)
			for _, other := range others {
				check(t, g, other, s, sig)
				check(t, g, key, s, api.Signature{C: other, S: sig.S})
				check(t, g, key, s, api.Signature{C: sig.C, S: other})
				check(t, g, key, s, api.Signature{C: other, S: other})
			}
			// Sums that may go round by 2^256 are asked too: they are other numbers then.
			c, _ := limbs.Add(sig.C, g.Q)
			check(t, g, key, s, api.Signature{C: c, S: sig.S})
			together, _ := limbs.Add(sig.S, g.Q)
			check(t, g, key, s, api.Signature{C: sig.C, S: together})
			check(t, g, key, s, api.Signature{C: sig.S, S: sig.C})
		}
	}
}

// P7.3: C and S may be 0, and Q less one: such are made, and pass.
func TestEdgesPass(t *testing.T) {
	g := small()
	edges := map[string]int{}
	for i := range byte(200) {
		s := api.Sum{i}
		for secret := uint64(1); secret < 11; secret++ {
			key, sig := keyOf(t, g, limbs.Of(secret)), sign(t, g, limbs.Of(secret), s)
			if !sigs.Check(g, key, s, sig) {
				t.Errorf("Check of %v, %v: %v", key, s, sig)
			}
			for name, n := range map[string]api.Num{"C": sig.C, "S": sig.S} {
				if n == none {
					edges[name+" 0"]++
				}
				if n == less(g.Q, 1) {
					edges[name+" Q less one"]++
				}
			}
		}
	}
	if len(edges) != 4 {
		t.Error("not all edges came:", edges)
	}
}

// P7.4: what is signed passes, by the secret's key, if that is not 1, by whatever group may be.
func TestSignedPasses(t *testing.T) {
	for _, g := range fineGroups() {
		for _, secret := range secrets(g) {
			key := keyOf(t, g, secret)
			for _, s := range sums()[:4] {
				if sig := sign(t, g, secret, s); sigs.Check(g, key, s, sig) != (key != one) {
					t.Errorf("Check by %v: %v, %v: %v", g, key, s, sig)
				}
			}
		}
	}
}

// P7.3, P7.4: one bit off of the sum, of C, of S, or of the key, and nothing passes.
func TestOneBitOff(t *testing.T) {
	g, s := full(), api.Sum(sha256.Sum256([]byte("abc")))
	secret := less(g.Q, 5)
	key, sig := keyOf(t, g, secret), sign(t, g, secret, s)
	if !sigs.Check(g, key, s, sig) {
		t.Fatal("what is signed does not pass")
	}
	for bit := range 256 {
		turned := s
		turned[bit/8] ^= 1 << (bit % 8)
		if sigs.Check(g, key, turned, sig) {
			t.Errorf("bit %d of the sum", bit)
		}
		if sigs.Check(g, key, s, api.Signature{C: flip(sig.C, bit), S: sig.S}) {
			t.Errorf("bit %d of C", bit)
		}
		if sigs.Check(g, key, s, api.Signature{C: sig.C, S: flip(sig.S, bit)}) {
			t.Errorf("bit %d of S", bit)
		}
		if sigs.Check(g, flip(key, bit), s, sig) {
			t.Errorf("bit %d of the key", bit)
		}
		if got := sign(t, g, secret, turned); got == sig || got.C == sig.C || got.S == sig.S {
			t.Errorf("bit %d of the sum is not signed", bit)
		}
	}
}

// P7.3: what one signed passes by nobody else's key, for no other sum, and by no other group.
func TestOnlyWhoSigned(t *testing.T) {
	g, next := full(), draws()
	var keys []api.Num
	var list []api.Signature
	for i := range 6 {
		secret := rest(number(next()), g.Q)
		keys = append(keys, keyOf(t, g, secret))
		list = append(list, sign(t, g, secret, api.Sum{byte(i)}))
	}
	for i, key := range keys {
		for j, sig := range list {
			for k := range list {
				if got := sigs.Check(g, key, api.Sum{byte(k)}, sig); got != (i == j && j == k) {
					t.Errorf("key %d, signature %d, sum %d: %v", i, j, k, got)
				}
			}
		}
		other := g
		other.G = keys[(i+1)%len(keys)]
		if sigs.Check(other, key, api.Sum{byte(i)}, list[i]) || sigs.Check(short(), key, api.Sum{byte(i)}, list[i]) {
			t.Errorf("key %d passes by another group", i)
		}
	}
}

// P7.4, R5: the same is signed alike, whatever was asked in between.
func TestSignedAlike(t *testing.T) {
	for _, g := range primeGroups() {
		for _, secret := range secrets(g) {
			s := api.Sum{1, 2, 3}
			key, sig := keyOf(t, g, secret), sign(t, g, secret, s)
			sign(t, g, one, api.Sum{})
			sigs.Check(g, key, s, api.Signature{})
			refuse(t, g, g.Q)
			if sign(t, g, secret, s) != sig || keyOf(t, g, secret) != key || sigs.Check(g, key, s, sig) != (key != one) {
				t.Errorf("by %v: %v", g, secret)
			}
		}
	}
}

// hold holds all calls' answers against what the chapter says.
func hold(t *testing.T, g api.Group, secret, key api.Num, s api.Sum, sig api.Signature) {
	t.Helper()
	if !fine(g) || secret == none || !exponent(g, secret) {
		refuse(t, g, secret)
	} else {
		made, got := keyOf(t, g, secret), sign(t, g, secret, s)
		if made != power(g.G, secret, g.P) || got != signed(g, secret, s) || sigs.Check(g, made, s, got) != (made != one) {
			t.Errorf("by %v: %v, %v: %v, %v", g, secret, s, made, got)
		}
		check(t, g, made, s, sig)
		check(t, g, key, s, got)
	}
	check(t, g, key, s, sig)
}

// R1, R5: at any words nothing panics, and all answers are right ones, the second time too.
func FuzzSigs(f *testing.F) {
	f.Add(uint64(23), uint64(0), uint64(11), uint64(0), uint64(4), uint64(0), uint64(7), uint64(0), uint64(8), uint64(0), uint64(9), uint64(6), []byte("abc"))
	f.Add(uint64(0), uint64(0), uint64(0), uint64(0), uint64(0), uint64(0), uint64(0), uint64(0), uint64(0), uint64(0), uint64(0), uint64(0), []byte{})
	f.Add(uint64(1), uint64(0), uint64(2), uint64(0), uint64(1), uint64(0), uint64(1), uint64(0), uint64(1), uint64(0), uint64(1), uint64(1), []byte{1})
	f.Add(uint64(all), uint64(all), uint64(2), uint64(0), uint64(all-1), uint64(all), uint64(1), uint64(0), uint64(all-1), uint64(all), uint64(1), uint64(0), []byte{2})
	f.Add(uint64(7), uint64(0), uint64(all), uint64(all), uint64(2), uint64(0), uint64(all), uint64(all), uint64(4), uint64(0), uint64(all), uint64(all), []byte{3})
	f.Fuzz(func(t *testing.T, p0, p1, q0, q1, g0, g1, x0, x1, k0, k1, c, together uint64, b []byte) {
		wide := func(low, high uint64) api.Num { return api.Num{low, high, high, high} }
		g := api.Group{P: wide(p0, p1), Q: wide(q0, q1), G: wide(g0, g1)}
		secret, key, sig := wide(x0, x1), wide(k0, k1), api.Signature{C: wide(c, x1), S: wide(together, x1)}
		var s api.Sum
		copy(s[:], b)
		hold(t, g, secret, key, s, sig)
		hold(t, g, secret, key, s, sig)
		// Few groups may be: by one that may, more than what is refused is looked at.
		for _, g := range []api.Group{small(), short()} {
			hold(t, g, rest(number(secret), g.Q), rest(number(key), g.P), s, api.Signature{C: rest(number(sig.C), g.Q), S: rest(number(sig.S), g.Q)})
		}
	})
}

// held are the groups that the layers above may well be used by.
func held() map[string]api.Group {
	return map[string]api.Group{"full": full(), "word": primeGroups()[5], "tiny": small()}
}

// The layers above sign, and check, most packets.
func BenchmarkSign(b *testing.B) {
	for name, g := range held() {
		b.Run(name, func(b *testing.B) {
			for b.Loop() {
				sigs.Sign(g, less(g.Q, 5), api.Sum{1})
			}
		})
	}
}

func BenchmarkCheck(b *testing.B) {
	for name, g := range held() {
		key, _ := sigs.Key(g, less(g.Q, 5))
		sig, _ := sigs.Sign(g, less(g.Q, 5), api.Sum{1})
		b.Run(name, func(b *testing.B) {
			for b.Loop() {
				sigs.Check(g, key, api.Sum{1}, sig)
			}
		})
	}
}
