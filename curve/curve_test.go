package curve_test

import (
	"bytes"
	"crypto/ed25519"
	"crypto/sha512"
	"encoding/hex"
	"math/big"
	"math/rand"
	"slices"
	"strings"
	"sync"
	"testing"

	"brevet/api"
	"brevet/curve"
)

var one = big.NewInt(1)

// power is 2^n, and k more.
func power(n uint, k int64) *big.Int { return plus(new(big.Int).Lsh(one, n), k) }

func plus(n *big.Int, k int64) *big.Int { return new(big.Int).Add(n, big.NewInt(k)) }

func times(k int64, n *big.Int) *big.Int { return new(big.Int).Mul(big.NewInt(k), n) }

var prime = power(255, -19)

func decimal(text string) *big.Int {
	n, _ := new(big.Int).SetString(text, 10)
	return n
}

// order is L, as chapter 4 has it.
var order = new(big.Int).Add(power(252, 0), decimal("27742317777372353535851937790883648493"))

func modulo(n *big.Int) *big.Int { return new(big.Int).Mod(n, prime) }

func product(all ...*big.Int) *big.Int {
	n := one
	for _, a := range all {
		n = modulo(new(big.Int).Mul(n, a))
	}
	return n
}

func quotient(a, b *big.Int) *big.Int {
	return product(a, new(big.Int).ModInverse(modulo(b), prime))
}

// lowestFirst is a number of at most so many bytes as bytes.
func lowestFirst(n *big.Int, size int) []byte {
	b := n.FillBytes(make([]byte, size))
	slices.Reverse(b)
	return b
}

func number(b []byte) *big.Int {
	b = bytes.Clone(b)
	slices.Reverse(b)
	return new(big.Int).SetBytes(b)
}

// pair is a point as the document has it, which the answers are held against.
type pair struct{ x, y *big.Int }

var (
	d       = quotient(big.NewInt(-121665), big.NewInt(121666))
	neutral = pair{new(big.Int), one}
	base    = evenWith(quotient(big.NewInt(4), big.NewInt(5)))
)

// square is that of an x that goes with y.
func square(y *big.Int) *big.Int {
	return quotient(plus(product(y, y), -1), plus(product(d, y, y), 1))
}

// evenWith is a y, and the even x that goes with it, or nil.
func evenWith(y *big.Int) pair {
	x := new(big.Int).ModSqrt(square(y), prime)
	if x != nil && x.Bit(0) == 1 {
		x = new(big.Int).Sub(prime, x)
	}
	return pair{x, y}
}

func (p pair) add(q pair) pair {
	k := product(d, p.x, q.x, p.y, q.y)
	top := new(big.Int).Add(product(p.x, q.y), product(p.y, q.x))
	otherTop := new(big.Int).Add(product(p.y, q.y), product(p.x, q.x))
	return pair{quotient(top, plus(k, 1)), quotient(otherTop, new(big.Int).Sub(one, k))}
}

func (p pair) neg() pair { return pair{modulo(new(big.Int).Neg(p.x)), p.y} }

func (p pair) mul(n *big.Int) pair {
	sum := neutral
	for i := n.BitLen() - 1; i >= 0; i-- {
		sum = sum.add(sum)
		if n.Bit(i) == 1 {
			sum = sum.add(p)
		}
	}
	return sum
}

func (p pair) bytes() []byte {
	b := lowestFirst(p.y, 32)
	b[31] |= byte(p.x.Bit(0)) << 7
	return b
}

func (p pair) is(q pair) bool { return p.x.Cmp(q.x) == 0 && p.y.Cmp(q.y) == 0 }

// point is the pair's point, got by Read.
func (p pair) point(t *testing.T) curve.Point {
	t.Helper()
	q, err := curve.Read(p.bytes())
	if err != api.OK {
		t.Fatalf("Read of %x: %v", p.bytes(), err)
	}
	return q
}

func check(t *testing.T, what string, p curve.Point, want pair) {
	t.Helper()
	if got := p.Bytes(); !bytes.Equal(got, want.bytes()) {
		t.Fatalf("%s: %x, want %x", what, got, want.bytes())
	}
}

func unhex(t *testing.T, text string) []byte {
	t.Helper()
	b, err := hex.DecodeString(text)
	if err != nil {
		t.Fatal(err)
	}
	return b
}

func fullBytes(n int) []byte { return bytes.Repeat([]byte{255}, n) }

// ofSmallOrder are the eight points of which eight come to the neutral one.
func ofSmallOrder() []pair {
	y, _ := hex.DecodeString("26e8958fc2b227b045c3f489f2ef98f0d5dfac05d3c63339b13802886d53fc05")
	eighth := evenWith(number(y))
	all := []pair{neutral}
	for range 7 {
		all = append(all, all[len(all)-1].add(eighth))
	}
	return all
}

// sample are points of all orders that there are, of even and odd x, and with y next to 0 and p.
func sample() []pair {
	all := ofSmallOrder()
	p := base
	for range 4 {
		all = append(all, p, p.neg())
		p = p.add(base)
	}
	all = append(all, base.mul(power(251, 12345)), base.add(all[1]), base.add(all[2]), base.neg().add(all[4]))
	for k := int64(3); k < 12; k++ {
		for _, y := range []*big.Int{big.NewInt(k), plus(prime, -k)} {
			if p := evenWith(y); p.x != nil {
				all = append(all, p, p.neg())
			}
		}
	}
	return all
}

// P5.1
func TestZeroIsNeutral(t *testing.T) {
	want := append([]byte{1}, make([]byte, 31)...)
	if got := curve.Zero().Bytes(); !bytes.Equal(got, want) {
		t.Errorf("%x", got)
	}
}

// P5.1
func TestBaseIsKnown(t *testing.T) {
	want := unhex(t, "58"+strings.Repeat("66", 31))
	if got := curve.Base().Bytes(); !bytes.Equal(got, want) {
		t.Errorf("%x", got)
	}
	check(t, "the even x with 4/5", curve.Base(), base)
	if !curve.Base().Equal(base.point(t)) {
		t.Error("the base is not what its bytes are")
	}
}

// P5.1
func TestReadIsBytes(t *testing.T) {
	for _, p := range sample() {
		q := p.point(t)
		check(t, "Read", q, p)
		check(t, "its double", q.Add(q), p.add(p))
	}
}

func refused(t *testing.T, b []byte) {
	t.Helper()
	if p, err := curve.Read(b); err != api.ErrBytes || p != (curve.Point{}) {
		t.Errorf("Read of %x: %v, %v", b, p, err)
	}
}

// checkRead holds Read against the document, for bytes of a y and either highest bit.
func checkRead(t *testing.T, y *big.Int) {
	t.Helper()
	p := evenWith(y)
	if p.x == nil {
		refused(t, lowestFirst(y, 32))
		refused(t, lowestFirst(new(big.Int).Add(y, power(255, 0)), 32))
		return
	}
	check(t, "Read of an even x", p.point(t), p)
	if p.x.Sign() == 0 {
		refused(t, lowestFirst(new(big.Int).Add(y, power(255, 0)), 32))
		return
	}
	check(t, "Read of an odd x", p.neg().point(t), p.neg())
	if !p.neg().point(t).Equal(p.point(t).Neg()) {
		t.Errorf("of the same y %x the two x are not each other's negative", y)
	}
}

// P5.1: y next to 0 and to p, of single bits, and by chance; about half of them go with an x.
func TestReadOfAnyY(t *testing.T) {
	for k := int64(0); k < 200; k++ {
		checkRead(t, big.NewInt(k))
		checkRead(t, plus(prime, -1-k))
	}
	for n := range uint(255) {
		checkRead(t, power(n, 0))
	}
	source := rand.New(rand.NewSource(5))
	for range 300 {
		checkRead(t, new(big.Int).Rand(source, prime))
	}
}

// P5.1
func TestReadOfNoX(t *testing.T) {
	b := append([]byte{2}, make([]byte, 31)...)
	refused(t, b)
	b[31] = 0x80
	refused(t, b)
	minusTwo := lowestFirst(plus(prime, -2), 32)
	refused(t, minusTwo)
	minusTwo[31] |= 0x80
	refused(t, minusTwo)
}

// P5.1
func TestReadOfXNought(t *testing.T) {
	for _, y := range []*big.Int{one, plus(prime, -1)} {
		b := lowestFirst(y, 32)
		p, err := curve.Read(b)
		if err != api.OK || !bytes.Equal(p.Bytes(), b) {
			t.Errorf("Read of %x: %x, %v", b, p.Bytes(), err)
		}
		if p.Equal(curve.Zero()) != (y == one) {
			t.Errorf("Read of %x: neutral, or not", b)
		}
		if !p.Add(p).Equal(curve.Zero()) {
			t.Errorf("Read of %x: twice it is not neutral", b)
		}
		b[31] |= 0x80
		refused(t, b)
	}
}

// P5.1: y = 0, 1, 3 and others stand for points, but written with p more they are none's bytes.
func TestReadOfPrimeAndMore(t *testing.T) {
	for k := int64(0); k < 19; k++ {
		b := lowestFirst(plus(prime, k), 32)
		refused(t, b)
		b[31] |= 0x80
		refused(t, b)
	}
}

// P5.1
func TestReadOfEvenAndOdd(t *testing.T) {
	even, odd := base.bytes(), base.bytes()
	odd[31] |= 0x80
	p, _ := curve.Read(even)
	q, err := curve.Read(odd)
	if err != api.OK || !p.Equal(curve.Base()) || !q.Equal(curve.Base().Neg()) || q.Equal(p) {
		t.Errorf("%x, %x, %v", p.Bytes(), q.Bytes(), err)
	}
	if !bytes.Equal(p.Bytes(), even) || !bytes.Equal(q.Bytes(), odd) {
		t.Errorf("%x, %x", p.Bytes(), q.Bytes())
	}
}

// P5.1
func TestReadOfOtherLengths(t *testing.T) {
	refused(t, nil)
	refused(t, []byte{})
	for n := range 100 {
		if n == 32 {
			continue
		}
		refused(t, make([]byte, n))
		refused(t, bytes.Repeat([]byte{0x66}, n))
		refused(t, fullBytes(n))
		whole := append(base.bytes(), make([]byte, 68)...)
		refused(t, whole[:n])
		refused(t, whole[:n:n])
	}
}

// P5.1: what is read has just the bytes that it was read of, so no two are read as one point.
func TestReadOfChangedBytes(t *testing.T) {
	want := base.mul(big.NewInt(7))
	for bit := range 256 {
		b := want.bytes()
		b[bit/8] ^= 1 << (bit % 8)
		p, err := curve.Read(b)
		if err == api.OK && (!bytes.Equal(p.Bytes(), b) || p.Equal(want.point(t))) {
			t.Errorf("Read of %x: %x", b, p.Bytes())
		}
		if err != api.OK && (err != api.ErrBytes || p != (curve.Point{})) {
			t.Errorf("Read of %x: %v, %v", b, p, err)
		}
	}
}

// P5.2
func TestAddOfPairs(t *testing.T) {
	all := sample()
	for _, p := range all {
		for _, q := range all {
			sum := p.point(t).Add(q.point(t))
			check(t, "Add", sum, p.add(q))
			if p.add(q).is(neutral) != sum.Equal(curve.Zero()) {
				t.Fatalf("%x and %x: neutral, or not", p.bytes(), q.bytes())
			}
		}
	}
}

// P5.2: also of points that come of sums.
func TestAddOfEdges(t *testing.T) {
	zero := curve.Zero()
	for _, p := range sample() {
		q := p.point(t)
		for _, same := range []curve.Point{q, q.Add(zero), zero.Add(q), q.Mul([]byte{1}), q.Add(q).Add(q.Neg())} {
			check(t, "with the neutral one", same.Add(zero), p)
			check(t, "with the neutral one", zero.Add(same), p)
			check(t, "with its negative", same.Add(q.Neg()), neutral)
			check(t, "with its negative", q.Neg().Add(same), neutral)
			check(t, "with its negative", same.Neg().Add(same), neutral)
			check(t, "with itself", same.Add(same), p.add(p))
			check(t, "with itself", same.Add(q), p.add(p))
			check(t, "with itself", q.Add(same), p.add(p))
		}
	}
	check(t, "neutral", zero.Add(zero), neutral)
}

// P5.2: what was answered is reckoned with on and on.
func TestChains(t *testing.T) {
	for _, first := range []pair{base, ofSmallOrder()[1], evenWith(big.NewInt(3))} {
		p, want := first.point(t), first
		step := p
		for range 40 {
			p, want = p.Add(p), want.add(want)
			check(t, "double", p, want)
			p, want = step.Add(p.Neg()), first.add(want.neg())
			check(t, "difference", p, want)
			p, want = p.Mul([]byte{3}), want.add(want).add(want)
			check(t, "three times", p, want)
		}
	}
}

// P5.2
func TestNeg(t *testing.T) {
	check(t, "of the neutral one", curve.Zero().Neg(), neutral)
	if !curve.Zero().Neg().Equal(curve.Zero()) {
		t.Error("the neutral one's negative is another one")
	}
	for _, p := range sample() {
		q := p.point(t)
		check(t, "Neg", q.Neg(), p.neg())
		check(t, "Neg twice", q.Neg().Neg(), p)
		check(t, "Neg of a sum", q.Add(curve.Base()).Neg(), p.add(base).neg())
		check(t, "Neg, and a sum", q.Neg().Add(curve.Base()), p.neg().add(base))
		if q.Neg().Equal(q) != (p.x.Sign() == 0) {
			t.Errorf("%x is its negative, or is not", p.bytes())
		}
	}
}

// P5.2: another program, that sums up pairs as the document says, knows these.
var multiples = map[string]string{
	"":       "0100000000000000000000000000000000000000000000000000000000000000",
	"00":     "0100000000000000000000000000000000000000000000000000000000000000",
	"01":     "5866666666666666666666666666666666666666666666666666666666666666",
	"02":     "c9a3f86aae465f0e56513864510f3997561fa2c9e85ea21dc2292309f3cd6022",
	"03":     "d4b4f5784868c3020403246717ec169ff79e26608ea126a1ab69ee77d1b16712",
	"04":     "2f1132ca61ab38dff00f2fea3228f24c6c71d58085b80e47e19515cb27e8d047",
	"05":     "edc876d6831fd2105d0b4389ca2e283166469289146e2ce06faefe98b22548df",
	"06":     "f47e49f9d07ad2c1606b4d94067c41f9777d4ffda709b71da1d88628fce34d85",
	"07":     "b862409fb5c4c4123df2abf7462b88f041ad36dd6864ce872fd5472be363c5b1",
	"08":     "b4b937fca95b2f1e93e41e62fc3c78818ff38a66096fad6e7973e5c90006d321",
	"10":     "eb2767c137ab7ad8279c078eff116ab0786ead3a2e0f989f72c37f82f2969670",
	"ff":     "cc613540cd8c99fa4647e6e83e969761b17515dbe1896fd0a3e4358ebca65c31",
	"0001":   "c7f66c563120140ea8d927c19a3d1b7d0e26d381aaebf56b7902f1515c75550f",
	"000100": "c7f66c563120140ea8d927c19a3d1b7d0e26d381aaebf56b7902f1515c75550f",

	"000000000000000001": "1353e48257fa1e8f062b90ba08b610544f7c1b26edda6bdd25d04eea42bb2503",

	"0000000000000000000000000000000000000000000000000000000000000010": "b8421c03ad2c038eacd7982913c60229b5d4e7cfcc8b83ec35c79c74b7ad855f",
	"ffffffffffffffffffffffffffffffffffffffffffffffffffffffffffffff7f": "af9b6a948d400c38197f1d0675ec3d6630780c67ad4dfc7e5fe6e6a39cc90fd3",
	"ffffffffffffffffffffffffffffffffffffffffffffffffffffffffffffffff": "db27fe4b7a4beb8c1b8c38a21e943a852304c9bb3035a5f36626b51162a68f9c",
	"ecd3f55c1a631258d69cf7a2def9de1400000000000000000000000000000010": "58666666666666666666666666666666666666666666666666666666666666e6",
	"edd3f55c1a631258d69cf7a2def9de1400000000000000000000000000000010": "0100000000000000000000000000000000000000000000000000000000000000",
	"eed3f55c1a631258d69cf7a2def9de1400000000000000000000000000000010": "5866666666666666666666666666666666666666666666666666666666666666",
}

// P5.2
func TestMulOfKnown(t *testing.T) {
	for k, want := range multiples {
		if got := hex.EncodeToString(curve.Base().Mul(unhex(t, k)).Bytes()); got != want {
			t.Errorf("Mul by %s: %s, want %s", k, got, want)
		}
	}
}

// P5.2: public keys of the library's Ed25519 are multiples of the base.
func TestMulOfSecrets(t *testing.T) {
	for n := range 100 {
		seed := sha512.Sum512([]byte{byte(n)})
		key := ed25519.NewKeyFromSeed(seed[:32])
		digest := sha512.Sum512(seed[:32])
		secret := digest[:32]
		secret[0] &= 248
		secret[31] = secret[31]&127 | 64
		if got := curve.Base().Mul(secret).Bytes(); !bytes.Equal(got, key[32:]) {
			t.Errorf("Mul by %x: %x, want %x", secret, got, key[32:])
		}
	}
}

// P5.2: by all small numbers, of points of all orders.
func TestMulOfSmall(t *testing.T) {
	for _, p := range sample() {
		q, want := p.point(t), neutral
		for n := range 20 {
			check(t, "Mul", q.Mul([]byte{byte(n)}), want)
			check(t, "Mul", q.Mul([]byte{byte(n), 0, 0}), want)
			want = want.add(p)
		}
	}
	want := neutral
	for n := range 520 {
		check(t, "Mul", curve.Base().Mul([]byte{byte(n), byte(n >> 8)}), want)
		want = want.add(base)
	}
}

// P5.2
func TestMulOfGreat(t *testing.T) {
	source := rand.New(rand.NewSource(32))
	for _, p := range []pair{base, ofSmallOrder()[1], base.add(ofSmallOrder()[3]), evenWith(big.NewInt(3)).neg()} {
		q := p.point(t)
		check(t, "Mul by 255 32 times", q.Mul(fullBytes(32)), p.mul(power(256, -1)))
		for n := 2; n <= 32; n += 5 {
			k := make([]byte, n)
			source.Read(k)
			check(t, "Mul", q.Mul(k), p.mul(number(k)))
			// Of a point with z other than 1 as well.
			check(t, "Mul of a sum", q.Add(q).Mul(k), p.add(p).mul(number(k)))
		}
	}
}

// P5.2: each bit counts as often as it stands for.
func TestMulOfSingleBits(t *testing.T) {
	want := base
	for bit := range 256 {
		k := make([]byte, 32)
		k[bit/8] = 1 << (bit % 8)
		check(t, "Mul", curve.Base().Mul(k), want)
		check(t, "Mul", curve.Base().Mul(k[:bit/8+1]), want)
		want = want.add(want)
	}
}

// P5.2
func TestMulByNought(t *testing.T) {
	for _, p := range sample() {
		q := p.point(t)
		check(t, "Mul by nil", q.Mul(nil), neutral)
		check(t, "Mul by no bytes", q.Mul([]byte{}), neutral)
		check(t, "Mul by 0", q.Mul([]byte{0}), neutral)
		check(t, "Mul by noughts", q.Mul(make([]byte, 32)), neutral)
		if !q.Mul(nil).Equal(curve.Zero()) {
			t.Errorf("no %x are not the neutral one", p.bytes())
		}
	}
}

// P5.2: at most the first 32 bytes count.
func TestMulByLong(t *testing.T) {
	p := curve.Base()
	for _, n := range []int{33, 34, 64, 65, 100000} {
		k := make([]byte, n)
		k[32], k[n-1] = 1, 255
		check(t, "Mul", p.Mul(k), neutral)
		k[0] = 5
		check(t, "Mul", p.Mul(k), base.mul(big.NewInt(5)))
		k[31] = 255
		check(t, "Mul", p.Mul(k), base.mul(number(k[:32])))
		check(t, "Mul", p.Mul(fullBytes(n)), base.mul(power(256, -1)))
	}
}

// P5.2
func TestEqual(t *testing.T) {
	all := sample()
	for _, p := range all {
		for _, q := range all {
			a, b := p.point(t), q.point(t)
			if got := a.Equal(b); got != p.is(q) {
				t.Fatalf("Equal of %x and %x: %v", p.bytes(), q.bytes(), got)
			}
			if got := a.Mul([]byte{1}).Equal(b); got != p.is(q) {
				t.Fatalf("Equal of %x and %x: %v", p.bytes(), q.bytes(), got)
			}
			if got := a.Equal(b.Mul([]byte{1})); got != p.is(q) {
				t.Fatalf("Equal of %x and %x: %v", p.bytes(), q.bytes(), got)
			}
		}
	}
}

// P5.2: the same point in forms that are unlike.
func TestEqualInTwoWays(t *testing.T) {
	for _, p := range sample() {
		q := p.point(t)
		for _, same := range []curve.Point{
			q.Add(curve.Zero()),
			q.Neg().Neg(),
			q.Mul([]byte{1}),
			q.Mul([]byte{9}).Add(q.Mul([]byte{8}).Neg()),
			q.Add(curve.Base()).Add(curve.Base().Neg()),
			q.Add(q).Mul(lowestFirst(plus(times(4, order), 1), 32)).Add(q.Neg()),
		} {
			if !q.Equal(same) || !same.Equal(q) || !same.Add(q).Equal(q.Add(same)) {
				t.Fatalf("%x is not %x", q.Bytes(), same.Bytes())
			}
			if !bytes.Equal(q.Bytes(), same.Bytes()) {
				t.Fatalf("%x has the bytes %x", q.Bytes(), same.Bytes())
			}
			if q.Equal(same.Add(curve.Base())) || same.Add(curve.Base().Neg()).Equal(q) {
				t.Fatalf("%x is the base more or less", q.Bytes())
			}
		}
	}
}

// P5.2: of these four no two are the same, but each is with two others in the size of its x or y.
func TestEqualOfOneOfBoth(t *testing.T) {
	half := ofSmallOrder()[4].point(t) // 0, -1
	p := curve.Base()
	all := []curve.Point{p, p.Neg(), p.Add(half), p.Neg().Add(half)}
	for i, a := range all {
		for j, b := range all {
			if a.Equal(b) != (i == j) {
				t.Errorf("%x and %x: %v", a.Bytes(), b.Bytes(), a.Equal(b))
			}
		}
	}
}

// P5.2, R1: what comes of the zero Point is not told, but it comes.
func TestZeroPointEnds(t *testing.T) {
	var none curve.Point
	for _, p := range []curve.Point{none, curve.Zero(), curve.Base(), none.Neg(), none.Add(none)} {
		for _, q := range []curve.Point{p.Add(none), none.Add(p), p.Neg(), none.Mul(fullBytes(40)), p.Mul(nil)} {
			if n := len(q.Bytes()); n != 32 {
				t.Errorf("%d bytes", n)
			}
			q.Equal(none)
			none.Equal(q)
		}
	}
}

// P5.3
func TestGroup(t *testing.T) {
	var all []curve.Point
	for _, p := range sample() {
		all = append(all, p.point(t))
	}
	all = append(all, curve.Base().Mul([]byte{1, 2, 3}), curve.Base().Neg().Mul([]byte{200}))
	for i, a := range all {
		if !a.Add(curve.Zero()).Equal(a) || !a.Add(a.Neg()).Equal(curve.Zero()) {
			t.Fatalf("%x: neutral, negative", a.Bytes())
		}
		for j, b := range all {
			if !a.Add(b).Equal(b.Add(a)) {
				t.Fatalf("%x, %x: order", a.Bytes(), b.Bytes())
			}
			if !a.Add(b).Neg().Equal(a.Neg().Add(b.Neg())) {
				t.Fatalf("%x, %x: negative of a sum", a.Bytes(), b.Bytes())
			}
			for k, c := range all {
				if (i+j+k)%3 == 0 && !a.Add(b).Add(c).Equal(a.Add(b.Add(c))) {
					t.Fatalf("%x, %x, %x: brackets", a.Bytes(), b.Bytes(), c.Bytes())
				}
			}
		}
	}
}

// P5.3: multiples go together as numbers do.
func TestGroupMultiples(t *testing.T) {
	source := rand.New(rand.NewSource(7))
	for _, p := range sample() {
		q := p.point(t)
		a := new(big.Int).Rand(source, power(120, 0))
		b := new(big.Int).Rand(source, power(130, 0))
		first, second := q.Mul(lowestFirst(a, 32)), q.Mul(lowestFirst(b, 32))
		sum, both := new(big.Int).Add(a, b), new(big.Int).Mul(a, b)
		if !first.Add(second).Equal(q.Mul(lowestFirst(sum, 32))) {
			t.Errorf("%x: %x and %x of it", p.bytes(), a, b)
		}
		if !first.Mul(lowestFirst(b, 32)).Equal(q.Mul(lowestFirst(both, 32))) {
			t.Errorf("%x: %x times %x of it", p.bytes(), b, a)
		}
		if !q.Neg().Mul(lowestFirst(a, 32)).Equal(first.Neg()) {
			t.Errorf("%x: %x of its negative", p.bytes(), a)
		}
		if !q.Add(curve.Base()).Mul(lowestFirst(a, 32)).Equal(first.Add(curve.Base().Mul(lowestFirst(a, 32)))) {
			t.Errorf("%x: %x of its sum with the base", p.bytes(), a)
		}
	}
}

// P5.4
func TestOrder(t *testing.T) {
	p := curve.Base()
	for k := int64(0); k < 16; k++ {
		many := times(k, order)
		check(t, "as often as L", p.Mul(lowestFirst(many, 32)), neutral)
		check(t, "one more", p.Mul(lowestFirst(plus(many, 1), 32)), base)
		if k > 0 {
			check(t, "one less", p.Mul(lowestFirst(plus(many, -1), 32)), base.neg())
			check(t, "two less", p.Mul(lowestFirst(plus(many, -2), 32)), base.neg().add(base.neg()))
		}
	}
	check(t, "L less one, and one", p.Mul(lowestFirst(plus(order, -1), 32)).Add(p), neutral)
}

// P5.4: L is a prime, so that of fewer none may be neutral but 0; some are asked.
func TestNotAheadOfOrder(t *testing.T) {
	if !order.ProbablyPrime(20) {
		t.Error("L is no prime")
	}
	zero, sum := curve.Zero(), curve.Base()
	for n := range 2000 {
		if sum.Equal(zero) {
			t.Fatalf("%d are neutral", n+1)
		}
		sum = sum.Add(curve.Base())
	}
	fewer := []*big.Int{new(big.Int).Rsh(order, 1), new(big.Int).Rsh(plus(order, 1), 1)}
	for k := int64(2); k < 40; k++ {
		fewer = append(fewer, new(big.Int).Div(order, big.NewInt(k)), plus(order, -k))
	}
	for n := range uint(253) {
		fewer = append(fewer, power(n, 0))
	}
	for _, n := range fewer {
		if curve.Base().Mul(lowestFirst(n, 32)).Equal(zero) {
			t.Errorf("%x are neutral", n)
		}
	}
}

// P5.3: of the points of small order, as many as the order says are neutral, and not fewer.
func TestSmallOrders(t *testing.T) {
	for i, want := range []int{1, 8, 4, 8, 2, 8, 4, 8} {
		p := ofSmallOrder()[i].point(t)
		n, sum := 1, p
		for !sum.Equal(curve.Zero()) && n < 20 {
			n, sum = n+1, sum.Add(p)
		}
		if n != want {
			t.Errorf("%x: %d, want %d", p.Bytes(), n, want)
		}
		if !p.Mul([]byte{8}).Equal(curve.Zero()) {
			t.Errorf("8 of %x are not neutral", p.Bytes())
		}
	}
}

// R4
func TestNilIsEmpty(t *testing.T) {
	p, first := curve.Read(nil)
	q, second := curve.Read([]byte{})
	if first != second || p != q {
		t.Error("Read: nil and empty are unlike")
	}
	if curve.Base().Mul(nil) != curve.Base().Mul([]byte{}) {
		t.Error("Mul: nil and empty are unlike")
	}
}

// R4: bytes, their spare room, and points.
func TestHandedInStays(t *testing.T) {
	for n := range 70 {
		memory := make([]byte, 200)
		rand.New(rand.NewSource(int64(n))).Read(memory)
		odd := base.neg().mul(big.NewInt(int64(n) + 1))
		copy(memory[120:], odd.bytes())
		want := bytes.Clone(memory)
		curve.Read(memory[50 : 50+n])
		curve.Read(memory[120:152])
		curve.Read(memory[120 : 120+n])
		curve.Base().Mul(memory[50 : 50+n])
		if !bytes.Equal(memory, want) {
			t.Fatalf("of %d bytes handed in some, or their spare room, were changed", n)
		}
	}
	for _, x := range sample() {
		p, q := x.point(t).Mul([]byte{3}), curve.Base().Add(x.point(t))
		oldP, oldQ := p, q
		p.Bytes()
		p.Add(q)
		p.Neg()
		p.Mul([]byte{9, 9})
		p.Equal(q)
		if p != oldP || q != oldQ {
			t.Fatalf("a point was changed: %x, %x", p.Bytes(), q.Bytes())
		}
	}
}

// R4: also the room behind an answer.
func TestAnsweredIsNew(t *testing.T) {
	p := curve.Base().Neg()
	first, second := p.Bytes(), p.Bytes()
	clear(first[:cap(first)])
	check(t, "the point", p, base.neg())
	check(t, "the base", curve.Base(), base)
	if !bytes.Equal(second, base.neg().bytes()) {
		t.Error("Bytes: two answers share memory")
	}
	read, _ := curve.Read(second)
	clear(second[:cap(second)])
	check(t, "what was read", read, base.neg())
	k := []byte{3}
	three := curve.Base().Mul(k)
	k[0] = 0
	check(t, "what was multiplied", three, base.mul(big.NewInt(3)))
}

// R5: not on the place, the spare room, or what was asked ahead.
func TestHangsOnBytesAlone(t *testing.T) {
	p := base.mul(big.NewInt(77)).neg()
	want := base.mul(number(p.bytes()))
	for shift := range 9 {
		memory := bytes.Repeat([]byte{0xa5}, shift+100)
		copy(memory[shift:], p.bytes())
		for _, handed := range [][]byte{memory[shift : shift+32], memory[shift : shift+32 : shift+32]} {
			curve.Read(memory)
			q, err := curve.Read(handed)
			if err != api.OK {
				t.Fatalf("Read at %d: %v", shift, err)
			}
			check(t, "Read", q, p)
			check(t, "Mul", curve.Base().Mul(handed), want)
		}
	}
}

// R5: nothing is kept between calls by which two at once could meet.
func TestAtOnce(t *testing.T) {
	var wait sync.WaitGroup
	less := lowestFirst(plus(order, -1), 32)
	for n := range 8 {
		wait.Go(func() {
			for range 5 {
				p, err := curve.Read(curve.Base().Mul([]byte{byte(n + 1)}).Bytes())
				if err != api.OK || !p.Mul(less).Add(p).Equal(curve.Zero()) {
					t.Errorf("%d bases, and L less one of them, are not neutral", n+1)
				}
			}
		})
	}
	wait.Wait()
}
