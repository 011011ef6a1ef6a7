package draws_test

import (
	"crypto/hmac"
	"crypto/sha256"
	"encoding/binary"
	"encoding/hex"
	"math"
	"math/big"
	"sync"
	"testing"

	"burrow/api"
	"burrow/draws"
)

const all = math.MaxUint64

// counts of sums that are drawn ahead of what is looked at.
var counts = []uint64{0, 1, 2, 3, 7, 8, 63, 64, 254, 255, 256, 257, 1000}

// orders are Q of all lengths from 3 on, about where a word more begins, with powers of two and with what has many parts, up to the greatest one.
var orders = []api.Num{
	{3}, {4}, {5}, {6}, {7}, {11}, {12}, {255}, {256}, {257}, {65537}, {1<<32 - 5}, {1 << 32}, {1<<63 - 25}, {1 << 63}, {all - 58}, {all - 1}, {all},
	{0, 1}, {1, 1}, {2, 1}, {3, 1}, {all, 1}, {0, 2}, {all - 158, all}, {all, all},
	{0, 0, 1}, {1, 0, 1}, {2, 0, 1}, {0, 5, 7}, {all - 236, all, all}, {all, all, all},
	{0, 0, 0, 1}, {1, 0, 0, 1}, {2, 0, 0, 1}, {4, 3, 2, 1}, {all - 18, all, all, all >> 1}, {0, 0, 0, 1 << 63}, {1, 0, 0, 1 << 63}, {all - 188, all, all, all}, {all - 1, all, all, all}, {all, all, all, all},
}

// wrongOrders are Q below 3.
var wrongOrders = []api.Num{{}, {1}, {2}}

// model is a stream by the chapter's words, of the library's sums.
type model struct {
	seed api.Sum
	n    uint64
}

// sum answers the n-th sum of the seed.
func sum(seed api.Sum, n uint64) api.Sum {
	h := hmac.New(sha256.New, seed[:])
	h.Write(binary.BigEndian.AppendUint64([]byte("draw"), n))
	return api.Sum(h.Sum(nil))
}

// next draws a sum.
func (m *model) next() api.Sum {
	m.n++
	return sum(m.seed, m.n-1)
}

// exponent draws one, of a group of that order, which is 3 or more.
func (m *model) exponent(q api.Num) api.Num { return exponent(q, m.next()) }

// exponent answers 1 and the sum as a number below q less one, as exponent.
func exponent(q api.Num, s api.Sum) api.Num {
	one := big.NewInt(1)
	n := new(big.Int).SetBytes(append(half(s, 0), half(s, 1)...))
	n.Mod(n, new(big.Int).Sub(number(q), one))
	return long(n.Add(n, one))
}

// half answers the sum of s and which half it is, as exponent.
func half(s api.Sum, which byte) []byte {
	b := append(binary.BigEndian.AppendUint32(nil, 8), "exponent"...)
	b = binary.BigEndian.AppendUint32(b, 2)
	b = append(binary.BigEndian.AppendUint32(b, 32), s[:]...)
	b = append(binary.BigEndian.AppendUint32(b, 1), which)
	h := sha256.Sum256(b)
	return h[:]
}

// number answers a by the library's long numbers.
func number(a api.Num) *big.Int {
	n := new(big.Int)
	for i := range a {
		n.Lsh(n, 64).Or(n, new(big.Int).SetUint64(a[len(a)-1-i]))
	}
	return n
}

// long answers n, which has room in a long number.
func long(n *big.Int) api.Num {
	var a api.Num
	for i, x := range n.FillBytes(make([]byte, 32)) {
		a[3-i/8] = a[3-i/8]<<8 | uint64(x)
	}
	return a
}

// told answers the number that the digits of 16 tell.
func told(t *testing.T, digits string) api.Num {
	t.Helper()
	n, ok := new(big.Int).SetString(digits, 16)
	if !ok {
		t.Fatal(digits)
	}
	return long(n)
}

// unhex answers the sum that the digits of 16 tell.
func unhex(t *testing.T, digits string) api.Sum {
	t.Helper()
	b, err := hex.DecodeString(digits)
	if err != nil {
		t.Fatal(err)
	}
	return api.Sum(b)
}

// full answers a seed of the byte alone.
func full(x byte) api.Sum {
	var s api.Sum
	for i := range s {
		s[i] = x
	}
	return s
}

// seed answers one without a pattern, another one for each n.
func seed(n int) api.Sum {
	var s api.Sum
	state := uint64(n) + 1
	for i := range s {
		state = state*6364136223846793005 + 1442695040888963407
		s[i] = byte(state >> 56)
	}
	return s
}

// seeds are some of each kind.
func seeds() []api.Sum {
	return []api.Sum{{}, {1}, {31: 1}, full(255), full(1), seed(1), seed(2)}
}

// group answers one of that order alone: nothing else of a group counts.
func group(q api.Num) api.Group { return api.Group{Q: q} }

// at answers a stream of which so many sums are drawn.
func at(t testing.TB, seed api.Sum, drawn uint64) *draws.Stream {
	t.Helper()
	s := draws.New(seed)
	for range drawn {
		s.Next()
	}
	if got := s.Drawn(); got != drawn {
		t.Fatalf("%d drawn, want %d", got, drawn)
	}
	return s
}

// checkNext draws of both, and holds the one against the other.
func checkNext(t testing.TB, s *draws.Stream, m *model) {
	t.Helper()
	checkDrawn(t, s, m)
	n := m.n
	if got, want := s.Next(), m.next(); got != want {
		t.Fatalf("the sum %d of %x: %x, want %x", n, m.seed, got, want)
	}
	checkDrawn(t, s, m)
}

// checkExponent draws of both, of a group of that order, which may be any, and holds the one against the other.
func checkExponent(t testing.TB, s *draws.Stream, m *model, q api.Num) {
	t.Helper()
	checkDrawn(t, s, m)
	n := m.n
	var want api.Num
	wantE := api.ErrArg
	if number(q).Cmp(big.NewInt(3)) >= 0 {
		want, wantE = m.exponent(q), api.OK
	}
	if got, e := s.Exponent(group(q)); got != want || e != wantE {
		t.Fatalf("below %x by the sum %d of %x: %x, %v, want %x, %v", q, n, m.seed, got, e, want, wantE)
	}
	checkDrawn(t, s, m)
}

// checkDrawn holds how many were drawn against each other.
func checkDrawn(t testing.TB, s *draws.Stream, m *model) {
	t.Helper()
	if got := s.Drawn(); got != m.n {
		t.Fatalf("of %x are drawn %d, want %d", m.seed, got, m.n)
	}
}

// The chapter's table of examples.
func TestExamples(t *testing.T) {
	for _, seed := range seeds() {
		s := draws.New(seed)
		if n := s.Drawn(); n != 0 {
			t.Errorf("of none: %d", n)
		}
		if got := s.Next(); got != sum(seed, 0) {
			t.Errorf("Next: %x", got)
		}
		if n := s.Drawn(); n != 1 {
			t.Errorf("of one: %d", n)
		}
		if n, e := s.Exponent(group(api.Num{2})); n != (api.Num{}) || e != api.ErrArg {
			t.Errorf("Exponent of Q 2: %x, %v", n, e)
		}
		if n := s.Drawn(); n != 1 {
			t.Errorf("behind ErrArg: %d", n)
		}
		if n, e := s.Exponent(group(api.Num{3})); n != (api.Num{1}) && n != (api.Num{2}) || e != api.OK {
			t.Errorf("Exponent of Q 3: %x, %v", n, e)
		}
	}
}

// P11.2: sums and exponents that another program told.
func TestToldNumbers(t *testing.T) {
	order := []string{"3", "4", "b", "10001", "ffffffffffffffff", "10000000000000000", "ffffffffffffffffffffffffffffff61", "ffffffffffffffffffffffffffffffffffffffffffffff13",
		"7fffffffffffffffffffffffffffffffffffffffffffffffffffffffffffffed", "ffffffffffffffffffffffffffffffffffffffffffffffffffffffffffffffff"}
	for _, c := range []struct {
		seed      api.Sum
		sums      map[uint64]string
		exponents []string
	}{
		{api.Sum{}, map[uint64]string{
			0: "f697b88126f95f3efcb6b5a07a770213a19d7b0328bdd6a8144a52bdb1c6b5bf", 1: "50165dde97fcabfc8b78d3480ae58aeb0ec4521869c1afeea97b90c689c0bc23", 2: "e91eab153045d54f23cac739a69cb29f59ae525a6c1c00ae0c3fc36c7b92b126",
			255: "338ae723a9ca15e838c41d94b21447948f506ea69c48c2602e918fb8e3c4141b", 256: "10b246b9d45ea8c64b750078cbbfb6ba87f3e09077a2836bd88c61db98694028", 1000: "c054ddbb8102f332535e7eb54a278232d3a425eba3b04b9ae7c44fb799a71a2e",
		}, []string{"2", "1", "1", "179c", "98e91b8a79c7843e", "5435a349db905a0c", "3489bfd00682f646193c691a19437d93", "d6b5fc8db4741e0de65938529b76894c86ff37ee444c8f86",
			"65333c5446b165c7350e2b0b00c7af961dd82c9d6788964165fa3220da659d3a", "e7194b951b2dd246a2f0c9955f749aeca4572157fa8871e6d69d173bd024d572"}},
		{full(255), map[uint64]string{
			0: "ae5545446d4d12a1a1042da4bc67f0a99d56441b99710379a527607f87f0b38e", 1: "da6120204be798418864f020700d6cdaf0a341cf53803e43e3d3485039d98ee3", 2: "5d5afe509f48fd37cfa0cd37a11d660ad960d1f8e0807db66fd327b456ac7e7c",
			255: "2d6f501ee5ce27d8d4c9df6d47876621f2ce60f45ff9bd1749aadc915090bb90", 256: "5f1fd940a71b2851dad6c90e565af0810c3d65747a9c3eb4c72b2ca361229a35", 1000: "d4fb20877d0e15e119e22cde9db2dec7d0df9475af2ac8e3b5affe6db0ab7f65",
		}, []string{"2", "1", "a", "edb7", "409f96fff7fb9bc6", "cb06425d4fb441c8", "1ad4c491dcf7675a62e8c2cd6875d2c", "d99a4ba18da680566fc44081788d463cadfbca8ce838d8b4",
			"2e1756f2a1fbe5d18afc0344f858db0a05035d9484746c0d91212dd1cff1ab22", "bb9a7ab011d2bc040995b7606f9cef3f5c6025adb9b3f67290cc9a194702dfff"}},
		{unhex(t, "000102030405060708090a0b0c0d0e0f101112131415161718191a1b1c1d1e1f"), map[uint64]string{
			0: "68f100b4d015085c061810d7c4c7cf3d4995f73b240bc4e4baf2aae5902a5763", 1: "1a11fa0335bbc46f43ef54706e0e335cee4c6f83999b5d4a30ac24e487e47b05", 2: "2779a3330da4025830cfd996347133d54a631890b2564ff3f50138bb09e0743c",
			255: "2be5664cfa87d753477ad41ab4a4c679e0e5c055cfcd1f116e7d9b478fc0fd06", 256: "900260e4edee618f874d81a2947f47499014d3131de1c9b976a27faac6cdb53e", 1000: "c38029208b6dfcddfe6bc8e4bbf87cfdcbfe5b0e8f05fd6cf92f8a21da4f5de7",
		}, []string{"2", "3", "2", "7b14", "bce52e14d75ede91", "98f568b75a48c816", "67ea0b0c98965d6966b345aa3e64269c", "410f3be265e19b3ae2a4a5d5de9ee2110d0a5e6a1228d3bb",
			"7db6fb6921305e2209cf1be388565f290bd1edb9f18faa299a75b2ade76ed5a1", "21898ef78cac5e5f7dc84940a1846c6b2f4f15c57ed38ebfaa7e977bf51659"}},
	} {
		for n, want := range c.sums {
			if got := at(t, c.seed, n).Next(); got != unhex(t, want) {
				t.Errorf("the sum %d of %x: %x", n, c.seed, got)
			}
		}
		s := draws.New(c.seed)
		for n, want := range c.exponents {
			if got, e := s.Exponent(group(told(t, order[n]))); got != told(t, want) || e != api.OK {
				t.Errorf("below %s of %x: %x, %v", order[n], c.seed, got, e)
			}
		}
	}
}

// P11.1, P11.2, P11.3: the n-th sum is what the chapter says, from 0 on, where the number has two bytes too, and three; as many are drawn.
func TestEachSum(t *testing.T) {
	for _, seed := range seeds() {
		s, m := draws.New(seed), &model{seed: seed}
		for range 1100 {
			checkNext(t, s, m)
		}
	}
	s, m := at(t, seed(3), 65530), &model{seed: seed(3), n: 65530}
	for range 20 {
		checkNext(t, s, m)
		checkExponent(t, s, m, api.Num{11})
	}
}

// P11.1: seeds that differ in one bit have other sums; each bit of the seed counts.
func TestEachBitOfTheSeed(t *testing.T) {
	had := map[api.Sum]bool{}
	count := 0
	for _, base := range []api.Sum{{}, full(255), seed(4)} {
		for n := range 256 {
			s := base
			s[n/8] ^= 1 << (n % 8)
			m := &model{seed: s}
			stream := draws.New(s)
			had[sum(s, 0)], had[sum(s, 1)] = true, true
			checkNext(t, stream, m)
			checkExponent(t, stream, m, orders[len(orders)-1])
			count += 2
		}
	}
	if len(had) != count {
		t.Errorf("of %d sums %d", count, len(had))
	}
}

// P11.2: no two sums of a stream are the same, whichever call drew them.
func TestNoTwoAlike(t *testing.T) {
	had := map[api.Sum]int{}
	for _, seed := range seeds() {
		s := draws.New(seed)
		for n := range 500 {
			got := s.Next()
			if other, there := had[got]; there || got == (api.Sum{}) {
				t.Fatalf("the sum %d of %x was there, %d", n, seed, other)
			}
			had[got] = n
		}
	}
}

// P11.2: of groups of every length of Q, at the first sums and behind others.
func TestExponents(t *testing.T) {
	for _, seed := range seeds() {
		for _, q := range orders {
			for _, n := range []uint64{0, 1, 2, 255, 256} {
				checkExponent(t, at(t, seed, n), &model{seed: seed, n: n}, q)
			}
		}
		s, m := draws.New(seed), &model{seed: seed}
		for range 5 {
			for _, q := range orders {
				checkExponent(t, s, m, q)
			}
		}
	}
}

// P11.2: of each Q from 0 on, the least of which are none.
func TestEachSmallOrder(t *testing.T) {
	s, m := draws.New(seed(5)), &model{seed: seed(5)}
	for q := range uint64(600) {
		for range 3 {
			checkExponent(t, s, m, api.Num{q})
		}
	}
	if m.n != 597*3 {
		t.Error(m.n)
	}
}

// P11.2: Q of which the lowest word alone is below 3 is not below 3.
func TestOrdersOfFewBits(t *testing.T) {
	s, m := draws.New(seed(6)), &model{seed: seed(6)}
	for low := range uint64(4) {
		for word := 1; word < 4; word++ {
			for bit := range 64 {
				q := api.Num{low}
				q[word] = 1 << bit
				checkExponent(t, s, m, q)
			}
		}
	}
	if m.n != 4*3*64 {
		t.Error(m.n)
	}
}

// P11.2, P11.3: where it is ErrArg nothing is drawn: what comes next is what would have come.
func TestNothingDrawnBesideErrArg(t *testing.T) {
	for _, seed := range seeds() {
		for _, n := range counts {
			for _, q := range wrongOrders {
				s, m := at(t, seed, n), &model{seed: seed, n: n}
				for range 3 {
					checkExponent(t, s, m, q)
				}
				checkNext(t, s, m)
				checkExponent(t, s, m, q)
				checkExponent(t, s, m, api.Num{all, all})
				checkExponent(t, s, m, q)
				checkNext(t, s, m)
			}
		}
	}
}

// P11.2: of a group Q alone counts, whatever its P and G are, and whether it may be or not.
func TestOrderAlone(t *testing.T) {
	for _, q := range append([]api.Num{{11}}, append(orders, wrongOrders...)...) {
		want, wantE := draws.New(seed(7)).Exponent(group(q))
		for _, other := range []api.Num{{}, {1}, {2}, {4}, {23}, {all}, {all, all, all, all}, q} {
			for _, g := range []api.Group{{P: other, Q: q}, {Q: q, G: other}, {P: other, Q: q, G: other}, {P: api.Num{23}, Q: q, G: api.Num{4}}} {
				if got, e := draws.New(seed(7)).Exponent(g); got != want || e != wantE {
					t.Errorf("of %x: %x, %v, want %x, %v", g, got, e, want, wantE)
				}
			}
		}
	}
}

// P11.2, P11.3: sums and exponents one behind the other, in any turn of seven, with how many were drawn asked ahead of each and behind it, once and twice.
func TestInAnyTurn(t *testing.T) {
	for turn := range 1 << 7 {
		for _, q := range []api.Num{{3}, {11}, {0, 0, 0, 1}, {all, all, all, all}} {
			s, m := draws.New(seed(turn)), &model{seed: seed(turn)}
			for place := range 7 {
				checkDrawn(t, s, m)
				if turn>>place&1 == 1 {
					checkExponent(t, s, m, q)
				} else {
					checkNext(t, s, m)
				}
				checkDrawn(t, s, m)
			}
			if m.n != 7 {
				t.Error(m.n)
			}
		}
	}
}

// P11.3: to be asked draws nothing, however often.
func TestAskedDrawsNothing(t *testing.T) {
	for _, n := range counts {
		s, m := at(t, seed(8), n), &model{seed: seed(8), n: n}
		for range 300 {
			checkDrawn(t, s, m)
		}
		checkNext(t, s, m)
	}
}

// P11.4: two streams of one seed, drawn from in turn, and streams of other seeds between them, each draw as if they were alone.
func TestEachAsIfAlone(t *testing.T) {
	kinds := append(seeds(), seeds()...)
	kinds = append(kinds, seed(9), seed(9))
	streams := make([]*draws.Stream, len(kinds))
	models := make([]*model, len(kinds))
	for i, s := range kinds {
		streams[i], models[i] = draws.New(s), &model{seed: s}
	}
	for step := range 3000 {
		i := (step*step + step/7) % len(kinds)
		switch step % 5 {
		case 0, 3:
			checkExponent(t, streams[i], models[i], orders[step%len(orders)])
		case 4:
			checkExponent(t, streams[i], models[i], wrongOrders[step/5%len(wrongOrders)])
		default:
			checkNext(t, streams[i], models[i])
		}
	}
	for i := range kinds {
		checkNext(t, streams[i], models[i])
	}
}

// P11.4: streams of one seed draw the same one behind the other, and each in the other's turn; New makes another one each time.
func TestStreamsOfOneSeed(t *testing.T) {
	for _, seed := range seeds() {
		a, b := draws.New(seed), draws.New(seed)
		if a == b {
			t.Fatal("one stream")
		}
		var first [20]api.Sum
		for i := range first {
			first[i] = a.Next()
		}
		if a.Drawn() != 20 || b.Drawn() != 0 {
			t.Error(a.Drawn(), b.Drawn())
		}
		for i := range first {
			if got := b.Next(); got != first[i] {
				t.Errorf("the sum %d of %x: %x, want %x", i, seed, got, first[i])
			}
		}
		x, _ := a.Exponent(group(api.Num{0, 1}))
		if y, _ := b.Exponent(group(api.Num{0, 1})); x != y {
			t.Errorf("of %x: %x, %x", seed, x, y)
		}
	}
}

// P11.4: an exponent is from 1 to Q less one, both of which come where Q is small, and all between them.
func TestExponentsWithin(t *testing.T) {
	s := draws.New(seed(10))
	for _, q := range orders {
		for range 50 {
			n, e := s.Exponent(group(q))
			if e != api.OK || number(n).Sign() <= 0 || number(n).Cmp(number(q)) >= 0 {
				t.Fatalf("below %x: %x, %v", q, n, e)
			}
		}
	}
	for q := uint64(3); q <= 40; q++ {
		had := map[uint64]int{}
		for range 40 * q {
			n, e := s.Exponent(group(api.Num{q}))
			if e != api.OK || n[0] < 1 || n[0] >= q || n != (api.Num{n[0]}) {
				t.Fatalf("below %d: %x, %v", q, n, e)
			}
			had[n[0]]++
		}
		for n := uint64(1); n < q; n++ {
			// Each comes some 40 times.
			if had[n] < 10 || had[n] > 100 {
				t.Errorf("below %d: %d came %d times", q, n, had[n])
			}
		}
	}
}

// R3: a stream that is not there, and one that New did not make, answer ErrNil of whatever group, or zero values, and do nothing.
func TestNotThere(t *testing.T) {
	zero := draws.Stream{}
	for name, s := range map[string]*draws.Stream{"nil": nil, "zero": {}, "var": &zero, "new": new(draws.Stream)} {
		for range 3 {
			for _, q := range append(append([]api.Num{}, orders...), wrongOrders...) {
				for _, g := range []api.Group{group(q), {P: api.Num{23}, Q: q, G: api.Num{4}}} {
					if n, e := s.Exponent(g); n != (api.Num{}) || e != api.ErrNil {
						t.Errorf("%s: Exponent: %x, %v", name, n, e)
					}
				}
			}
			if got := s.Next(); got != (api.Sum{}) {
				t.Errorf("%s: Next: %x", name, got)
			}
			if got := s.Drawn(); got != 0 {
				t.Errorf("%s: Drawn: %d", name, got)
			}
		}
	}
	if zero != (draws.Stream{}) {
		t.Error("something was done")
	}
}

// R4: what is handed in is not kept but by its content, and what is answered is the caller's own.
func TestHandedInIsNotKept(t *testing.T) {
	mine := seed(11)
	s, m := draws.New(mine), &model{seed: seed(11)}
	clear(mine[:])
	checkNext(t, s, m)
	g := group(api.Num{11, 12, 13, 14})
	was := g
	n, e := s.Exponent(g)
	if n != m.exponent(was.Q) || e != api.OK || g != was {
		t.Errorf("%x, %v, %x", n, e, g)
	}
	got := s.Next()
	m.next()
	clear(got[:])
	clear(n[:])
	clear(g.Q[:])
	checkNext(t, s, m)
	checkExponent(t, s, m, was.Q)
}

// R5: streams that are drawn from at the same time, each by one, draw each as if it were alone.
func TestDrawnAtOnce(t *testing.T) {
	var wait sync.WaitGroup
	for i := range 8 {
		wait.Go(func() {
			s, m := draws.New(seed(i/2)), &model{seed: seed(i / 2)}
			for step := range 200 {
				q := orders[step%len(orders)]
				if got, e := s.Exponent(group(q)); got != m.exponent(q) || e != api.OK {
					t.Errorf("below %x: %x, %v", q, got, e)
				}
				if got := s.Next(); got != m.next() {
					t.Errorf("the sum %d: %x", m.n-1, got)
				}
			}
			if s.Drawn() != 400 {
				t.Error(s.Drawn())
			}
		})
	}
	wait.Wait()
}

// R1, R5: in any turn, of any groups, nothing panics, and all answers are right ones.
func FuzzDraws(f *testing.F) {
	f.Add([]byte(nil), []byte(nil))
	f.Add([]byte{1, 2, 3}, []byte{0, 1, 2, 3, 4, 5})
	f.Add(make([]byte, 32), []byte{1, 2, 1, 1, 1, 0, 1, 3, 255, 7, 7, 7})
	f.Add([]byte{255}, []byte{33, 255, 255, 255, 255, 255, 255, 255, 255, 255, 2, 0})
	f.Fuzz(func(t *testing.T, a, b []byte) {
		var seed api.Sum
		copy(seed[:], a)
		one, other := draws.New(seed), draws.New(seed)
		mOne, mOther := &model{seed: seed}, &model{seed: seed}
		for len(b) > 0 {
			kind := b[0]
			b = b[1:]
			if kind%2 == 0 {
				checkNext(t, one, mOne)
				continue
			}
			var q api.Num
			took := min(len(b), int(kind)/2%33)
			for i, x := range b[:took] {
				q[i/8] |= uint64(x) << (i % 8 * 8)
			}
			b = b[took:]
			checkExponent(t, one, mOne, q)
			checkExponent(t, other, mOther, q)
		}
	})
}

func BenchmarkNext(b *testing.B) {
	s := draws.New(seed(12))
	for b.Loop() {
		s.Next()
	}
}

func BenchmarkExponent(b *testing.B) {
	for name, q := range map[string]api.Num{"word": {all - 58}, "most": {all, all, all, all}} {
		b.Run(name, func(b *testing.B) {
			s := draws.New(seed(13))
			for b.Loop() {
				s.Exponent(group(q))
			}
		})
	}
}
