package field_test

import (
	"bytes"
	"encoding/hex"
	"math"
	"math/big"
	"math/rand"
	"slices"
	"sync"
	"testing"

	"brevet/api"
	"brevet/field"
)

var one = big.NewInt(1)

// power is 2^n, and k more.
func power(n uint, k int64) *big.Int {
	return new(big.Int).Add(new(big.Int).Lsh(one, n), big.NewInt(k))
}

var prime = power(255, -19)

// lowestFirst is a number of at most so many bytes as bytes.
func lowestFirst(n *big.Int, size int) []byte {
	b := n.FillBytes(make([]byte, size))
	slices.Reverse(b)
	return b
}

func number(b []byte) *big.Int {
	b = bytes.Clone(b)
	slices.Reverse(b)
	return new(big.Int).SetBytes(b)
}

func modulo(n *big.Int) *big.Int { return new(big.Int).Mod(n, prime) }

// elem is a number's element, got by Read.
func elem(t *testing.T, n *big.Int) field.Elem {
	t.Helper()
	e, err := field.Read(lowestFirst(modulo(n), 32))
	if err != api.OK {
		t.Fatalf("Read of %x: %v", n, err)
	}
	return e
}

// check holds an answer against a number that need not be below p.
func check(t *testing.T, what string, e field.Elem, want *big.Int) {
	t.Helper()
	if got := e.Bytes(); !bytes.Equal(got, lowestFirst(modulo(want), 32)) {
		t.Fatalf("%s: %x, want %x", what, got, lowestFirst(modulo(want), 32))
	}
}

// edges are numbers next to 0, to p, to its half, and to where a limb or a word ends.
func edges() []*big.Int {
	var all []*big.Int
	for k := int64(0); k < 21; k++ {
		all = append(all, big.NewInt(k), power(255, -20-k))
	}
	half := new(big.Int).Rsh(prime, 1)
	all = append(all, half, new(big.Int).Add(half, one))
	for _, n := range []uint{8, 51, 64, 102, 128, 153, 192, 204, 248, 254} {
		all = append(all, power(n, -1), power(n, 0), power(n, 1), modulo(power(n+1, -19)))
	}
	return all
}

// byChance are numbers of all lengths, the same ones each time.
func byChance(count int) []*big.Int {
	source := rand.New(rand.NewSource(255))
	var all []*big.Int
	for range count {
		n := new(big.Int).Rand(source, prime)
		all = append(all, n.Rsh(n, uint(source.Intn(3)*source.Intn(120))))
	}
	return all
}

func sample() []*big.Int { return append(edges(), byChance(40)...) }

func sampleBut0() []*big.Int {
	return slices.DeleteFunc(sample(), func(n *big.Int) bool { return n.Sign() == 0 })
}

// P3.1
func TestIntOfKnown(t *testing.T) {
	const noughts = "000000000000000000000000000000000000000000000000"
	const full = "ffffffffffffffffffffffffffffffffffffffffffffff7f"
	for n, want := range map[int]string{
		0:             "0000000000000000" + noughts,
		1:             "0100000000000000" + noughts,
		-1:            "ecffffffffffffff" + full,
		-2:            "ebffffffffffffff" + full,
		-18:           "dbffffffffffffff" + full,
		-237:          "00ffffffffffffff" + full,
		-238:          "fffeffffffffffff" + full,
		256:           "0001000000000000" + noughts,
		1<<51 - 1:     "ffffffffffff0700" + noughts,
		1 << 51:       "0000000000000800" + noughts,
		1 << 52:       "0000000000001000" + noughts,
		math.MaxInt:   "ffffffffffffff7f" + noughts,
		math.MinInt:   "edffffffffffff7f" + full,
		-math.MaxInt:  "eeffffffffffff7f" + full,
		math.MaxInt32: "ffffff7f00000000" + noughts,
		math.MinInt32: "edffff7fffffffff" + full,
	} {
		if got := hex.EncodeToString(field.Int(n).Bytes()); got != want {
			t.Errorf("Int(%d): %s, want %s", n, got, want)
		}
	}
}

// P3.1
func TestIntOfAll(t *testing.T) {
	source := rand.New(rand.NewSource(1))
	for range 2000 {
		n := int(source.Uint64()) >> source.Intn(64)
		check(t, "Int", field.Int(n), big.NewInt(int64(n)))
		check(t, "Int", field.Int(-n), big.NewInt(int64(-n)))
	}
	for shift := range 64 {
		for k := -2; k < 3; k++ {
			n := 1<<shift + k
			check(t, "Int", field.Int(n), big.NewInt(int64(n)))
		}
	}
}

// P3.1
func TestReadIsBytes(t *testing.T) {
	for _, n := range append(edges(), byChance(500)...) {
		b := lowestFirst(n, 32)
		e, err := field.Read(b)
		if err != api.OK || !bytes.Equal(e.Bytes(), b) {
			t.Errorf("Read of %x: %x, %v", b, e.Bytes(), err)
		}
	}
}

// P3.1: each bit that an element may have stands where it belongs.
func TestReadOfSingleBits(t *testing.T) {
	for n := range uint(255) {
		e, err := field.Read(lowestFirst(power(n, 0), 32))
		if err != api.OK || !e.Equal(field.Int(2).Pow([]byte{byte(n)})) {
			t.Errorf("Read of 2^%d: %x, %v", n, e.Bytes(), err)
		}
	}
}

func refused(t *testing.T, b []byte) {
	t.Helper()
	if e, err := field.Read(b); err != api.ErrBytes || e != (field.Elem{}) {
		t.Errorf("Read of %x: %x, %v", b, e.Bytes(), err)
	}
}

// P3.1
func TestReadOfNoElement(t *testing.T) {
	for k := int64(0); k < 60; k++ {
		refused(t, lowestFirst(new(big.Int).Add(prime, big.NewInt(k)), 32))
		refused(t, lowestFirst(power(256, -1-k), 32))
	}
	for _, n := range sample() {
		refused(t, lowestFirst(new(big.Int).Add(n, power(255, 0)), 32))
	}
	for n := range uint(255) {
		above := new(big.Int).Add(prime, power(n, 0))
		refused(t, lowestFirst(above, 32))
	}
	refused(t, lowestFirst(new(big.Int).Lsh(prime, 1), 32))
}

// P3.1: p's bytes, of which one is less, are an element's.
func TestReadNextToPrime(t *testing.T) {
	for i := range 32 {
		b := lowestFirst(prime, 32)
		b[i]--
		if e, err := field.Read(b); err != api.OK || !bytes.Equal(e.Bytes(), b) {
			t.Errorf("Read of %x: %x, %v", b, e.Bytes(), err)
		}
	}
}

// P3.1
func TestReadOfOtherLengths(t *testing.T) {
	refused(t, nil)
	for n := range 100 {
		if n != 32 {
			refused(t, make([]byte, n))
			refused(t, append([]byte{1}, make([]byte, n)...)[:n])
			refused(t, bytes.Repeat([]byte{255}, n))
		}
	}
	memory := make([]byte, 64)
	refused(t, memory[:31])
	refused(t, memory[:33])
}

// P3.2
func TestPairs(t *testing.T) {
	all := sample()
	for _, x := range all {
		for _, y := range all {
			a, b := elem(t, x), elem(t, y)
			check(t, "Add", a.Add(b), new(big.Int).Add(x, y))
			check(t, "Sub", a.Sub(b), new(big.Int).Sub(x, y))
			check(t, "Mul", a.Mul(b), new(big.Int).Mul(x, y))
		}
	}
}

// P3.2: p is reached, passed by one, and missed by one.
func TestNextToPrime(t *testing.T) {
	less, i := field.Int(-1), field.Int
	check(t, "p - 1 and 0", less.Add(i(0)), power(255, -20))
	check(t, "p - 1 and 1", less.Add(i(1)), big.NewInt(0))
	check(t, "p - 1 and 2", less.Add(i(2)), big.NewInt(1))
	check(t, "p - 1 twice", less.Add(less), power(255, -21))
	check(t, "0 less 1", i(0).Sub(i(1)), power(255, -20))
	check(t, "0 less p - 1", i(0).Sub(less), big.NewInt(1))
	check(t, "1 less p - 1", i(1).Sub(less), big.NewInt(2))
	check(t, "p - 1 less itself", less.Sub(less), big.NewInt(0))
	check(t, "p - 1 times itself", less.Mul(less), big.NewInt(1))
	check(t, "p - 1 times 2", less.Mul(i(2)), power(255, -21))
	check(t, "p - 1 times 0", less.Mul(i(0)), big.NewInt(0))
	check(t, "2^254 twice", elem(t, power(254, 0)).Add(elem(t, power(254, 0))), big.NewInt(19))
	check(t, "2^254 times 2^254", elem(t, power(254, 0)).Mul(elem(t, power(254, 0))), power(508, 0))
}

// P3.2: what was answered is reckoned with on and on, in no least form between.
func TestChains(t *testing.T) {
	for _, x := range []*big.Int{one, power(255, -20), power(254, 12345), byChance(9)[8]} {
		a := elem(t, x)
		e, want := a, x
		for range 400 {
			e, want = e.Add(e), modulo(new(big.Int).Add(want, want))
			e, want = e.Sub(a), modulo(new(big.Int).Sub(want, x))
			e, want = a.Sub(e), modulo(new(big.Int).Sub(x, want))
			check(t, "sums", e, want)
			e, want = e.Mul(e), modulo(new(big.Int).Mul(want, want))
			e, want = e.Add(e.Add(e)), modulo(new(big.Int).Mul(want, big.NewInt(3)))
			e, want = e.Mul(a), modulo(new(big.Int).Mul(want, x))
			check(t, "products", e, want)
		}
	}
}

// P3.2: outside programs know these.
func TestKnownElements(t *testing.T) {
	i := field.Int
	exp := append([]byte{0xfb}, bytes.Repeat([]byte{255}, 30)...)
	root := i(2).Pow(append(exp, 31)) // of -1
	for want, e := range map[string]field.Elem{
		"f7ffffffffffffffffffffffffffffffffffffffffffffffffffffffffffff3f": i(2).Inv(),
		"a3785913ca4deb75abd841414d0a700098e879777940c78c73fe6f2bee6c0352": i(-121665).Mul(i(121666).Inv()),
		"5866666666666666666666666666666666666666666666666666666666666666": i(4).Mul(i(5).Inv()),
		"b0a00e4a271beec478e42fad0618432fa7d7fb3d99004d2b0bdfc14f8024832b": root,
		"ecffffffffffffffffffffffffffffffffffffffffffffffffffffffffffff7f": root.Mul(root),
	} {
		if got := hex.EncodeToString(e.Bytes()); got != want {
			t.Errorf("%s, want %s", got, want)
		}
	}
}

func checkPow(t *testing.T, x *big.Int, exp []byte) {
	t.Helper()
	counts := exp[:min(len(exp), 64)]
	check(t, "Pow", elem(t, x).Pow(exp), new(big.Int).Exp(x, number(counts), prime))
}

// P3.2: 0 to the power of 0 is 1 too.
func TestPowOfNought(t *testing.T) {
	for _, x := range sample() {
		check(t, "Pow of nil", elem(t, x).Pow(nil), one)
		check(t, "Pow of none", elem(t, x).Pow([]byte{}), one)
		for _, n := range []int{1, 2, 31, 32, 63, 64, 65, 100} {
			check(t, "Pow of noughts", elem(t, x).Pow(make([]byte, n)), one)
		}
	}
	check(t, "Pow of the zero Elem", field.Elem{}.Pow(nil), one)
	check(t, "Pow of the zero Elem", field.Elem{}.Pow([]byte{1}), big.NewInt(0))
	check(t, "Pow of the zero Elem", field.Elem{}.Pow([]byte{0, 1}), big.NewInt(0))
}

// P3.2
func TestPowOfSmall(t *testing.T) {
	for _, x := range []*big.Int{big.NewInt(0), one, big.NewInt(2), big.NewInt(3), power(255, -20), byChance(7)[6]} {
		for n := range 520 {
			checkPow(t, x, []byte{byte(n), byte(n >> 8)})
			checkPow(t, x, []byte{byte(n), byte(n >> 8), 0, 0, 0})
			if n < 256 {
				checkPow(t, x, []byte{byte(n)})
			}
		}
	}
}

// P3.2: exponents of all lengths, at and beyond where bytes no longer count.
func TestPowOfLengths(t *testing.T) {
	source := rand.New(rand.NewSource(64))
	for _, x := range append(byChance(4), big.NewInt(2), power(255, -21)) {
		for n := range 80 {
			exp := make([]byte, n)
			source.Read(exp)
			checkPow(t, x, exp)
			checkPow(t, x, bytes.Repeat([]byte{255}, n))
			last := append(make([]byte, n), 1)
			checkPow(t, x, last)
		}
	}
}

// P3.2
func TestPowOfLong(t *testing.T) {
	a := field.Int(2)
	for _, n := range []int{65, 66, 128, 100000} {
		exp := make([]byte, n)
		exp[64], exp[n-1] = 1, 255
		check(t, "Pow", a.Pow(exp), one)
		exp[0] = 5
		check(t, "Pow", a.Pow(exp), big.NewInt(32))
		exp[63] = 128
		check(t, "Pow", a.Pow(exp), new(big.Int).Exp(big.NewInt(2), power(511, 5), prime))
	}
}

// P3.2: of an element but 0, p - 1 of it have the product 1, and p have itself.
func TestPowOfPrime(t *testing.T) {
	for _, x := range sampleBut0() {
		check(t, "Pow of p - 1", elem(t, x).Pow(lowestFirst(power(255, -20), 32)), one)
		check(t, "Pow of p", elem(t, x).Pow(lowestFirst(prime, 32)), x)
	}
}

// P3.2
func TestInv(t *testing.T) {
	check(t, "Inv of 0", field.Int(0).Inv(), big.NewInt(0))
	check(t, "Inv of the zero Elem", field.Elem{}.Inv(), big.NewInt(0))
	check(t, "Inv of a difference that is 0", field.Int(7).Sub(field.Int(7)).Inv(), big.NewInt(0))
	check(t, "Inv of a sum that is p", field.Int(-7).Add(field.Int(7)).Inv(), big.NewInt(0))
	check(t, "2 by its Inv", field.Int(2).Inv().Mul(field.Int(2)), one)
	for _, x := range sampleBut0() {
		e := elem(t, x)
		check(t, "Inv", e.Inv(), new(big.Int).ModInverse(x, prime))
		check(t, "by its Inv", e.Mul(e.Inv()), one)
		check(t, "Inv of Inv", e.Inv().Inv(), x)
	}
}

// P3.3
func TestOdd(t *testing.T) {
	for _, x := range append(sample(), byChance(300)...) {
		odd := x.Bit(0) == 1
		if elem(t, x).Odd() != odd {
			t.Errorf("Odd of %x: %v", x, !odd)
		}
		// p is odd, so what is taken away turns what the lowest bit was.
		for k := 1; k < 40; k++ {
			sum := new(big.Int).Add(x, big.NewInt(int64(k)))
			if got := elem(t, x).Add(field.Int(k)).Odd(); got != (modulo(sum).Bit(0) == 1) {
				t.Errorf("Odd of %x and %d: %v", x, k, got)
			}
		}
	}
	for n, want := range map[int]bool{0: false, 1: true, 2: false, -1: false, -2: true, math.MaxInt: true, math.MinInt: true} {
		if field.Int(n).Odd() != want {
			t.Errorf("Odd of %d: %v", n, !want)
		}
	}
	if (field.Elem{}).Odd() {
		t.Error("the zero Elem is odd")
	}
}

// P3.3
func TestEqual(t *testing.T) {
	all := sample()
	for _, x := range all {
		for _, y := range all {
			if got := elem(t, x).Equal(elem(t, y)); got != (x.Cmp(y) == 0) {
				t.Fatalf("Equal of %x and %x: %v", x, y, got)
			}
		}
	}
}

// P3.3
func TestEqualInTwoWays(t *testing.T) {
	i := field.Int
	for _, x := range sample() {
		e := elem(t, x)
		for _, same := range []field.Elem{
			e.Add(i(0)),
			e.Sub(i(0)),
			e.Mul(i(1)),
			e.Add(i(-1)).Add(i(1)),
			e.Sub(i(-20)).Sub(i(20)),
			i(0).Sub(i(0).Sub(e)),
			e.Mul(i(-1)).Mul(i(-1)),
			e.Add(e).Mul(i(2).Inv()),
			e.Add(e).Sub(e),
			e.Pow([]byte{1, 0, 0}),
		} {
			if !e.Equal(same) || !same.Equal(e) || e.Odd() != same.Odd() {
				t.Fatalf("%x is not %x", e.Bytes(), same.Bytes())
			}
			if e.Equal(same.Add(i(1))) || same.Sub(i(1)).Equal(e) {
				t.Fatalf("%x is one more or less", e.Bytes())
			}
		}
	}
}

// P3.3
func TestZeroElem(t *testing.T) {
	var zero field.Elem
	i := field.Int
	for _, other := range []field.Elem{i(0), i(5).Sub(i(5)), i(-5).Add(i(5)), i(0).Mul(i(-1)), zero.Sub(zero), zero.Inv()} {
		if !zero.Equal(other) || !other.Equal(zero) || other.Odd() {
			t.Errorf("%x is not the zero Elem", other.Bytes())
		}
		check(t, "0", other, big.NewInt(0))
	}
	if zero.Equal(i(1)) || zero.Equal(i(-1)) || i(-19).Equal(zero) {
		t.Error("the zero Elem is another one")
	}
	check(t, "0 and 3", zero.Add(i(3)), big.NewInt(3))
	check(t, "3 less 0", i(3).Sub(zero), big.NewInt(3))
	check(t, "0 less 3", zero.Sub(i(3)), big.NewInt(-3))
	check(t, "0 times 3", zero.Mul(i(3)), big.NewInt(0))
}

// P3.4
func TestFieldLaws(t *testing.T) {
	is := func(law string, a, b field.Elem) {
		t.Helper()
		if !a.Equal(b) || !bytes.Equal(a.Bytes(), b.Bytes()) {
			t.Fatalf("%s: %x, %x", law, a.Bytes(), b.Bytes())
		}
	}
	var all []field.Elem
	for k, n := range sample() {
		if k%3 == 0 {
			all = append(all, elem(t, n))
		}
	}
	for _, a := range all {
		is("neutral", a.Add(field.Int(0)), a)
		is("neutral", a.Mul(field.Int(1)), a)
		is("opposite", a.Add(field.Int(0).Sub(a)), field.Int(0))
		for _, b := range all {
			is("order", a.Add(b), b.Add(a))
			is("order", a.Mul(b), b.Mul(a))
			is("back", a.Sub(b).Add(b), a)
			is("opposite", a.Sub(b), field.Int(0).Sub(b.Sub(a)))
			for _, c := range all {
				is("brackets", a.Add(b).Add(c), a.Add(b.Add(c)))
				is("brackets", a.Mul(b).Mul(c), a.Mul(b.Mul(c)))
				is("spread", a.Mul(b.Add(c)), a.Mul(b).Add(a.Mul(c)))
				is("spread", a.Mul(b.Sub(c)), a.Mul(b).Sub(a.Mul(c)))
			}
		}
	}
}

// P3.4: a product is 0 just if one of both is; what is divided by comes back.
func TestFieldDivides(t *testing.T) {
	zero := field.Int(0)
	for _, x := range byChance(60) {
		for _, y := range []*big.Int{big.NewInt(0), one, big.NewInt(2), power(255, -20), byChance(3)[2]} {
			a, b := elem(t, x), elem(t, y)
			if a.Mul(b).Equal(zero) != (a.Equal(zero) || b.Equal(zero)) {
				t.Errorf("%x by %x is 0, or is not", x, y)
			}
			if !b.Equal(zero) && !a.Mul(b).Mul(b.Inv()).Equal(a) {
				t.Errorf("%x by %x, divided by that, is another one", x, y)
			}
			if !a.Mul(b).Inv().Equal(a.Inv().Mul(b.Inv())) {
				t.Errorf("%x by %x: the Inv is another one", x, y)
			}
		}
	}
}

// P3.4: powers, added up and multiplied.
func TestFieldPowers(t *testing.T) {
	for _, x := range byChance(20) {
		a := elem(t, x)
		for m := range 15 {
			for n := range 15 {
				first, second := a.Pow([]byte{byte(m)}), a.Pow([]byte{byte(n)})
				if !first.Mul(second).Equal(a.Pow([]byte{byte(m + n)})) {
					t.Fatalf("%x: powers %d and %d", x, m, n)
				}
				if !first.Pow([]byte{byte(n)}).Equal(a.Pow([]byte{byte(m * n)})) {
					t.Fatalf("%x: power %d of power %d", x, n, m)
				}
			}
		}
	}
}

// R4
func TestNilIsEmpty(t *testing.T) {
	_, first := field.Read(nil)
	_, second := field.Read([]byte{})
	if first != second {
		t.Error("Read: nil and empty are unlike")
	}
	if !field.Int(3).Pow(nil).Equal(field.Int(3).Pow([]byte{})) {
		t.Error("Pow: nil and empty are unlike")
	}
}

// R4: bytes, their spare room, and elements.
func TestHandedInStays(t *testing.T) {
	for n := range 70 {
		memory := make([]byte, 200)
		rand.New(rand.NewSource(int64(n))).Read(memory)
		memory[81] = 7
		want := bytes.Clone(memory)
		field.Read(memory[50 : 50+n])
		field.Read(memory[50:82])
		field.Int(-3).Pow(memory[50 : 50+n])
		if !bytes.Equal(memory, want) {
			t.Fatalf("of %d bytes handed in some, or their spare room, were changed", n)
		}
	}
	for _, x := range sample() {
		a, b := elem(t, x).Mul(field.Int(3)), field.Int(-5).Sub(elem(t, x))
		oldA, oldB := a, b
		a.Bytes()
		a.Add(b)
		a.Sub(b)
		a.Mul(b)
		a.Pow([]byte{9})
		a.Inv()
		a.Odd()
		a.Equal(b)
		if a != oldA || b != oldB {
			t.Fatalf("an element was changed: %x, %x", a.Bytes(), b.Bytes())
		}
	}
}

// R4: also the room behind an answer.
func TestAnsweredIsNew(t *testing.T) {
	e := field.Int(-1)
	first, second := e.Bytes(), e.Bytes()
	clear(first[:cap(first)])
	check(t, "the element", e, big.NewInt(-1))
	if !bytes.Equal(second, lowestFirst(power(255, -20), 32)) {
		t.Error("Bytes: two answers share memory")
	}
	read, _ := field.Read(second)
	clear(second[:cap(second)])
	check(t, "what was read", read, big.NewInt(-1))
	exp := []byte{3}
	cube := field.Int(2).Pow(exp)
	exp[0] = 0
	check(t, "what was raised", cube, big.NewInt(8))
}

// R5: not on the place, the spare room, or what was asked ahead.
func TestHangsOnBytesAlone(t *testing.T) {
	b := lowestFirst(power(254, 77), 32)
	want := new(big.Int).Exp(big.NewInt(2), power(254, 77), prime)
	for shift := range 9 {
		memory := bytes.Repeat([]byte{0xa5}, shift+100)
		copy(memory[shift:], b)
		for _, handed := range [][]byte{memory[shift : shift+32], memory[shift : shift+32 : shift+32]} {
			field.Read(memory)
			e, err := field.Read(handed)
			if err != api.OK {
				t.Fatalf("Read at %d: %v", shift, err)
			}
			check(t, "Read", e, power(254, 77))
			check(t, "Pow", field.Int(2).Pow(handed), want)
		}
	}
}

// R5: nothing is kept between calls by which two at once could meet.
func TestAtOnce(t *testing.T) {
	var wait sync.WaitGroup
	for n := range 8 {
		wait.Go(func() {
			for range 50 {
				e := field.Int(n + 2)
				if !e.Inv().Mul(e).Equal(field.Int(1)) {
					t.Errorf("%d by its Inv is not 1", n+2)
				}
			}
		})
	}
	wait.Wait()
}
