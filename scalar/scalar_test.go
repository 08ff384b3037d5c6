package scalar_test

import (
	"bytes"
	"encoding/hex"
	"math/big"
	"math/rand"
	"slices"
	"sync"
	"testing"

	"brevet/scalar"
)

var (
	zero = big.NewInt(0)
	one  = big.NewInt(1)
)

// power is 2^n, and k more.
func power(n uint, k int64) *big.Int {
	return plus(new(big.Int).Lsh(one, n), k)
}

func plus(n *big.Int, k int64) *big.Int { return new(big.Int).Add(n, big.NewInt(k)) }

func sum(a, b *big.Int) *big.Int { return new(big.Int).Add(a, b) }

func product(a, b *big.Int) *big.Int { return new(big.Int).Mul(a, b) }

// order is L, as the document has it.
var order = func() *big.Int {
	tail, _ := new(big.Int).SetString("27742317777372353535851937790883648493", 10)
	return tail.Add(tail, power(252, 0))
}()

func modulo(n *big.Int) *big.Int { return new(big.Int).Mod(n, order) }

// multiple is k L, and d more.
func multiple(k *big.Int, d int64) *big.Int { return plus(product(k, order), d) }

// lowestFirst is a number of at most so many bytes as bytes.
func lowestFirst(n *big.Int, size int) []byte {
	b := n.FillBytes(make([]byte, size))
	slices.Reverse(b)
	return b
}

func number(b []byte) *big.Int {
	b = bytes.Clone(b)
	slices.Reverse(b)
	return new(big.Int).SetBytes(b)
}

func unhex(t *testing.T, text string) []byte {
	t.Helper()
	b, err := hex.DecodeString(text)
	if err != nil {
		t.Fatal(err)
	}
	return b
}

// narrow is a number of at most 32 bytes as 32 bytes.
func narrow(n *big.Int) []byte { return lowestFirst(n, 32) }

func full(n int) []byte { return bytes.Repeat([]byte{255}, n) }

// first is what counts of bytes.
func first(b []byte, n int) []byte { return b[:min(len(b), n)] }

// check holds an answer against a number that need not be below L; that it is 32 bytes of one below L, it holds by that.
func check(t *testing.T, what string, got []byte, want *big.Int) {
	t.Helper()
	if !bytes.Equal(got, narrow(modulo(want))) {
		t.Fatalf("%s: %x, want %x", what, got, narrow(modulo(want)))
	}
}

func checkReduce(t *testing.T, b []byte) {
	t.Helper()
	check(t, "Reduce of "+hex.EncodeToString(b), scalar.Reduce(b), number(first(b, 64)))
}

func checkMulAdd(t *testing.T, a, b, c []byte) {
	t.Helper()
	x, y, z := number(first(a, 32)), number(first(b, 32)), number(first(c, 32))
	what := "MulAdd of " + hex.EncodeToString(a) + ", " + hex.EncodeToString(b) + ", " + hex.EncodeToString(c)
	check(t, what, scalar.MulAdd(a, b, c), sum(product(x, y), z))
}

// edges are numbers of at most 32 bytes next to 0, to multiples of L, to its half, and to powers of 2.
func edges() []*big.Int {
	var all []*big.Int
	for k := int64(0); k < 4; k++ {
		all = append(all, big.NewInt(k), power(256, -1-k))
	}
	for k := int64(1); k < 16; k++ {
		all = append(all, multiple(big.NewInt(k), -1), multiple(big.NewInt(k), 0), multiple(big.NewInt(k), 1))
	}
	half := new(big.Int).Rsh(order, 1)
	all = append(all, half, plus(half, 1), power(252, 12345678))
	for _, n := range []uint{8, 28, 56, 64, 84, 112, 124, 125, 128, 140, 168, 192, 196, 224, 248, 251, 252, 253, 254, 255} {
		all = append(all, power(n, -1), power(n, 0), power(n, 1))
	}
	return all
}

// byChance are bytes, the same ones each time.
func byChance(count, size int) [][]byte {
	source := rand.New(rand.NewSource(252))
	var all [][]byte
	for range count {
		b := make([]byte, size)
		source.Read(b)
		all = append(all, b)
	}
	return all
}

// sample are numbers of at most 32 bytes.
func sample() []*big.Int {
	all := edges()
	for _, b := range byChance(30, 32) {
		all = append(all, number(b), modulo(number(b)))
	}
	return all
}

// P4.1: an outside program knows these.
func TestReduceOfKnown(t *testing.T) {
	for text, want := range map[string]string{
		"": "0000000000000000000000000000000000000000000000000000000000000000",
		"edd3f55c1a631258d69cf7a2def9de1400000000000000000000000000000010":                                                                 "0000000000000000000000000000000000000000000000000000000000000000",
		"ecd3f55c1a631258d69cf7a2def9de1400000000000000000000000000000010":                                                                 "ecd3f55c1a631258d69cf7a2def9de1400000000000000000000000000000010",
		"eed3f55c1a631258d69cf7a2def9de1400000000000000000000000000000010":                                                                 "0100000000000000000000000000000000000000000000000000000000000000",
		"0000000000000000000000000000000000000000000000000000000000000010":                                                                 "0000000000000000000000000000000000000000000000000000000000000010",
		"0000000000000000000000000000000000000000000000000000000000000020":                                                                 "132c0aa3e59ceda72963085d210621ebffffffffffffffffffffffffffffff0f",
		"000000000000000000000000000000000000000000000000000000000000000001":                                                               "1d95988d7431ecd670cf7d73f45befc6feffffffffffffffffffffffffffff0f",
		"000102030405060708090a0b0c0d0e0f101112131415161718191a1b1c1d1e1f202122232425262728292a2b2c2d2e2f303132333435363738393a3b3c3d3e3f": "7a3c6282f02d37a05023b60d5428e6cc5961d4c31221937adae0b574e4d07205",
		"d3ed2599eb78018fb16df36634c8cc5c5925536d258f8d676a750a5f62bf0ce396d4e16dc701d63e8b001bcb902f27b75bca8583c34deaf31a373cdf12d0714f": "8fbfff709903dbcc23af59ab09657ea6697185a1b5072a52c83a5d9edb2e3308",
	} {
		if got := hex.EncodeToString(scalar.Reduce(unhex(t, text))); got != want {
			t.Errorf("Reduce of %s: %s, want %s", text, got, want)
		}
	}
	if got := hex.EncodeToString(scalar.Reduce(full(32))); got != "1c95988d7431ecd670cf7d73f45befc6feffffffffffffffffffffffffffff0f" {
		t.Errorf("Reduce of 32 bytes that are all 255: %s", got)
	}
	if got := hex.EncodeToString(scalar.Reduce(full(64))); got != "000f9c44e31106a447938568a71b0ed065bef517d273ecce3d9a307c1b419903" {
		t.Errorf("Reduce of 64 bytes that are all 255: %s", got)
	}
}

// P4.1: from no bytes on, as many as there are up to 64, and what stands behind those counts for nothing.
func TestReduceOfLengths(t *testing.T) {
	checkReduce(t, nil)
	for n := range 140 {
		checkReduce(t, make([]byte, n))
		checkReduce(t, full(n))
		checkReduce(t, append(make([]byte, n), 1))
		checkReduce(t, append([]byte{1}, make([]byte, n)...))
		for _, b := range byChance(20, n) {
			checkReduce(t, b)
		}
	}
}

// P4.1
func TestReduceOfLong(t *testing.T) {
	for _, b := range append(byChance(5, 64), make([]byte, 64), full(64), lowestFirst(order, 64)) {
		want := scalar.Reduce(b)
		for _, n := range []int{1, 2, 64, 1000, 100000} {
			for _, behind := range [][]byte{make([]byte, n), full(n), append(make([]byte, n-1), 1)} {
				if got := scalar.Reduce(slices.Concat(b, behind)); !bytes.Equal(got, want) {
					t.Errorf("Reduce of %x and %d more: %x, want %x", b, n, got, want)
				}
			}
		}
	}
}

// P4.1
func TestReduceOfSingleBits(t *testing.T) {
	for n := range uint(512) {
		for k := int64(-1); k < 2; k++ {
			checkReduce(t, lowestFirst(power(n, k), 64))
			below := new(big.Int).Sub(power(512, 0), power(n, k))
			checkReduce(t, first(lowestFirst(below, 65), 64))
		}
	}
}

// P4.1: noughts, and what is next to them.
func TestReduceOfMultiples(t *testing.T) {
	most := new(big.Int).Div(power(512, -1), order)
	var times []*big.Int
	for k := int64(1); k < 300; k++ {
		times = append(times, big.NewInt(k), plus(most, 1-k))
	}
	for n := uint(0); n < 260; n++ {
		times = append(times, power(n, -1), power(n, 0), power(n, 1))
	}
	for _, b := range byChance(100, 32) {
		times = append(times, number(b))
	}
	for _, k := range times {
		for d := int64(-3); d < 4; d++ {
			n := multiple(k, d)
			if n.Sign() < 0 || n.BitLen() > 512 {
				continue
			}
			check(t, "Reduce next to a multiple", scalar.Reduce(lowestFirst(n, 64)), big.NewInt(d))
		}
	}
}

// P4.1, P4.2: what is left lies between 2^252 and L, which hardly any number by chance does.
func TestReduceToGreatest(t *testing.T) {
	excess := new(big.Int).Sub(order, power(252, 0))
	for i, b := range byChance(2000, 64) {
		left := sum(power(252, 0), new(big.Int).Mod(number(b[:32]), excess))
		k := new(big.Int).Rsh(number(b[32:]), uint(i%256))
		got := scalar.Reduce(lowestFirst(sum(product(k, order), left), 64))
		if !bytes.Equal(got, narrow(left)) {
			t.Fatalf("Reduce of %x L and %x: %x", k, left, got)
		}
		if !scalar.Is(narrow(left)) {
			t.Fatalf("%x is none", left)
		}
	}
}

// P4.1
func TestReduceOfLess(t *testing.T) {
	for _, n := range sample() {
		if n.Cmp(order) < 0 {
			if got := scalar.Reduce(narrow(n)); !bytes.Equal(got, narrow(n)) {
				t.Errorf("Reduce of %x: %x", narrow(n), got)
			}
		}
		check(t, "Reduce", scalar.Reduce(narrow(n)), n)
		check(t, "Reduce of wide bytes", scalar.Reduce(lowestFirst(n, 64)), n)
		check(t, "Reduce of it, moved", scalar.Reduce(append(make([]byte, 32), narrow(n)...)), product(n, power(256, 0)))
	}
}

// P4.1
func TestReduceByChance(t *testing.T) {
	for _, b := range byChance(20000, 64) {
		checkReduce(t, b)
	}
}

// P4.1: an outside program knows these; one is the signature of RFC 8032's second test.
func TestMulAddOfKnown(t *testing.T) {
	const noughts = "00000000000000000000000000000000000000000000000000000000000000"
	for _, c := range []struct{ a, b, c, want string }{
		{"03", "04", "05", "11" + noughts},
		{"03" + noughts, "04" + noughts, "05" + noughts, "11" + noughts},
		{"", "", "", "00" + noughts},
		{
			"b376577bd8d2f8126988cfeb185170fb810eafc8a14e0b11104552f607e35c03",
			"68bd9ed75882d52815a97585caf4790a7f6c6b3b7f821c5e259a24b02e502e51",
			"8fbfff709903dbcc23af59ab09657ea6697185a1b5072a52c83a5d9edb2e3308",
			"085ac1e43e15996e458f3613d0f11d8c387b2eaeb4302aeeb00d291612bb0c00",
		},
		{
			"68bd9ed75882d52815a97585caf4790a7f6c6b3b7f821c5e259a24b02e502e51",
			"b376577bd8d2f8126988cfeb185170fb810eafc8a14e0b11104552f607e35c03",
			"8fbfff709903dbcc23af59ab09657ea6697185a1b5072a52c83a5d9edb2e3308",
			"085ac1e43e15996e458f3613d0f11d8c387b2eaeb4302aeeb00d291612bb0c00",
		},
	} {
		if got := hex.EncodeToString(scalar.MulAdd(unhex(t, c.a), unhex(t, c.b), unhex(t, c.c))); got != c.want {
			t.Errorf("MulAdd of %s, %s, %s: %s, want %s", c.a, c.b, c.c, got, c.want)
		}
	}
	if got := hex.EncodeToString(scalar.MulAdd(full(32), full(32), full(32))); got != "d14df91389432c25ad60ff9791b9fd1d67bef517d273ecce3d9a307c1b419903" {
		t.Errorf("MulAdd of bytes that are all 255: %s", got)
	}
}

// P4.1: each of the three of each length.
func TestMulAddOfLengths(t *testing.T) {
	a, b, c := byChance(3, 32)[0], byChance(3, 32)[1], byChance(3, 32)[2]
	for n := range 70 {
		for _, other := range [][]byte{make([]byte, n), full(n), byChance(7, n)[6], append(make([]byte, n), 1)} {
			checkMulAdd(t, other, b, c)
			checkMulAdd(t, a, other, c)
			checkMulAdd(t, a, b, other)
			checkMulAdd(t, other, other, c)
			checkMulAdd(t, other, other, other)
		}
	}
	for _, none := range [][]byte{nil, {}} {
		check(t, "a product with none", scalar.MulAdd(none, b, c), number(c))
		check(t, "a product with none", scalar.MulAdd(a, none, c), number(c))
		check(t, "a product alone", scalar.MulAdd(a, b, none), product(number(a), number(b)))
		check(t, "none", scalar.MulAdd(none, none, none), zero)
	}
}

// P4.1: of each the first 32 count.
func TestMulAddOfLong(t *testing.T) {
	for _, x := range byChance(4, 32) {
		a, b, c := x, narrow(order), full(32)
		want := scalar.MulAdd(a, b, c)
		for _, n := range []int{1, 2, 32, 1000, 100000} {
			for _, behind := range [][]byte{make([]byte, n), full(n), append(make([]byte, n-1), 1)} {
				longA, longB, longC := slices.Concat(a, behind), slices.Concat(b, behind), slices.Concat(c, behind)
				for _, got := range [][]byte{
					scalar.MulAdd(longA, b, c),
					scalar.MulAdd(a, longB, c),
					scalar.MulAdd(a, b, longC),
					scalar.MulAdd(longA, longB, longC),
				} {
					if !bytes.Equal(got, want) {
						t.Fatalf("MulAdd with %d more: %x, want %x", n, got, want)
					}
				}
			}
		}
	}
}

// P4.1: numbers of L and more among them.
func TestMulAddOfEdges(t *testing.T) {
	all := sample()
	added := []*big.Int{zero, one, plus(order, -1), order, plus(order, 1), power(256, -1), number(byChance(5, 32)[4])}
	for _, x := range all {
		for _, y := range all {
			for _, z := range added {
				check(t, "MulAdd", scalar.MulAdd(narrow(x), narrow(y), narrow(z)), sum(product(x, y), z))
			}
		}
	}
	for _, z := range all {
		check(t, "a sum", scalar.MulAdd(narrow(one), narrow(zero), narrow(z)), z)
		check(t, "a sum", scalar.MulAdd(full(32), full(32), narrow(z)), sum(product(power(256, -1), power(256, -1)), z))
	}
}

// P4.1: the product, or it and the third, is just a multiple of L, or next to it.
func TestMulAddNextToMultiples(t *testing.T) {
	less := plus(order, -1)
	for k := int64(0); k < 8; k++ {
		check(t, "1 by L", scalar.MulAdd(narrow(one), narrow(order), narrow(big.NewInt(k))), big.NewInt(k))
		check(t, "L by L", scalar.MulAdd(narrow(order), narrow(order), narrow(big.NewInt(k))), big.NewInt(k))
		check(t, "1 by L - 1", scalar.MulAdd(narrow(one), narrow(less), narrow(big.NewInt(k))), big.NewInt(k-1))
		check(t, "L - 1 by L - 1", scalar.MulAdd(narrow(less), narrow(less), narrow(big.NewInt(k))), big.NewInt(k+1))
		check(t, "k by L", scalar.MulAdd(narrow(big.NewInt(k)), narrow(order), narrow(order)), zero)
	}
	for _, x := range sample() {
		for _, y := range sample() {
			rest := modulo(product(x, y))
			for d := int64(-1); d < 2; d++ {
				third := plus(new(big.Int).Sub(order, rest), d)
				check(t, "MulAdd next to a multiple", scalar.MulAdd(narrow(x), narrow(y), narrow(third)), big.NewInt(d))
			}
		}
	}
}

// P4.1: the sum is just L, or next to it, with no multiple of L between.
func TestMulAddNextToOrder(t *testing.T) {
	for _, b := range byChance(300, 32) {
		x, y := number(b[:15]), number(b[16:])
		z := new(big.Int).Sub(order, product(x, y))
		for d := int64(-1); d < 2; d++ {
			if got := scalar.MulAdd(narrow(x), narrow(y), narrow(plus(z, d))); !bytes.Equal(got, narrow(modulo(big.NewInt(d)))) {
				t.Fatalf("MulAdd next to L: %x", got)
			}
		}
	}
}

// P4.1: a product by what it is divided by is 1.
func TestMulAddOfInverses(t *testing.T) {
	for _, x := range sample() {
		if modulo(x).Sign() != 0 {
			y := new(big.Int).ModInverse(x, order)
			check(t, "a product that is 1", scalar.MulAdd(narrow(x), narrow(y), nil), one)
			check(t, "one that L - 1 is added to", scalar.MulAdd(narrow(x), narrow(y), narrow(plus(order, -1))), zero)
		}
	}
}

// P4.1
func TestMulAddByChance(t *testing.T) {
	for _, b := range byChance(20000, 96) {
		checkMulAdd(t, b[:32], b[32:64], b[64:])
	}
}

// P4.2
func TestIs(t *testing.T) {
	for _, n := range sample() {
		if got := scalar.Is(narrow(n)); got != (n.Cmp(order) < 0) {
			t.Errorf("Is of %x: %v", narrow(n), got)
		}
	}
	for _, n := range []*big.Int{zero, one, plus(order, -2), plus(order, -1), power(252, -1), power(252, 0)} {
		if !scalar.Is(narrow(n)) {
			t.Errorf("%x is none", narrow(n))
		}
	}
	for _, n := range []*big.Int{order, plus(order, 1), product(order, big.NewInt(2)), power(253, 0), power(255, 0), power(255, 1), power(256, -1)} {
		if scalar.Is(narrow(n)) {
			t.Errorf("%x is one", narrow(n))
		}
	}
}

// P4.2: L with one byte less or more.
func TestIsNextToOrder(t *testing.T) {
	for i := range 32 {
		for turned := range 256 {
			b := narrow(order)
			b[i] = byte(turned)
			if got := scalar.Is(b); got != (number(b).Cmp(order) < 0) {
				t.Errorf("Is of %x: %v", b, got)
			}
		}
	}
	for n := range uint(256) {
		if got := scalar.Is(narrow(power(n, 0))); got != (n <= 252) {
			t.Errorf("Is of 2^%d: %v", n, got)
		}
	}
}

// P4.2: only 32 bytes are some, whatever room is behind them.
func TestIsOfLengths(t *testing.T) {
	if scalar.Is(nil) || scalar.Is([]byte{}) {
		t.Error("no bytes are a number's")
	}
	for n := range 140 {
		memory := make([]byte, 200)
		if got := scalar.Is(memory[:n]); got != (n == 32) {
			t.Errorf("Is of %d noughts: %v", n, got)
		}
		if n > 0 {
			memory[0] = 7
			if got := scalar.Is(memory[:n]); got != (n == 32) {
				t.Errorf("Is of 7 in %d bytes: %v", n, got)
			}
		}
		if scalar.Is(full(n)) {
			t.Errorf("Is of %d bytes that are all 255", n)
		}
	}
}

// P4.2: whatever is answered is a number that is left.
func TestIsOfAnswers(t *testing.T) {
	for n := range 100 {
		for _, b := range append(byChance(50, n), full(n)) {
			left, mixed := scalar.Reduce(b), scalar.MulAdd(b, full(n), b)
			if !scalar.Is(left) || !scalar.Is(mixed) || !bytes.Equal(scalar.Reduce(left), left) {
				t.Fatalf("of %x: %x, %x", b, left, mixed)
			}
			if len(left) != 32 || len(mixed) != 32 {
				t.Fatalf("of %x: %d and %d bytes", b, len(left), len(mixed))
			}
		}
	}
}

func add(a, b []byte) []byte { return scalar.MulAdd(a, []byte{1}, b) }

func mul(a, b []byte) []byte { return scalar.MulAdd(a, b, nil) }

// P4.3: what a number leaves is as good as the number.
func TestReducedAhead(t *testing.T) {
	all := sample()
	for _, x := range all {
		for _, y := range all {
			wideSum := scalar.Reduce(lowestFirst(sum(x, y), 64))
			wideProduct := scalar.Reduce(lowestFirst(product(x, y), 64))
			a, b := scalar.Reduce(narrow(x)), scalar.Reduce(narrow(y))
			if !bytes.Equal(wideSum, add(a, b)) || !bytes.Equal(wideSum, add(narrow(x), narrow(y))) {
				t.Fatalf("%x and %x: sums do not go together", x, y)
			}
			if !bytes.Equal(wideProduct, mul(a, b)) || !bytes.Equal(wideProduct, mul(narrow(x), narrow(y))) {
				t.Fatalf("%x by %x: products do not go together", x, y)
			}
		}
	}
	for _, b := range byChance(500, 64) {
		moved := narrow(modulo(power(256, 0)))
		if !bytes.Equal(scalar.Reduce(b), scalar.MulAdd(b[32:], moved, b[:32])) {
			t.Fatalf("%x is not its halves", b)
		}
	}
}

// P4.3
func TestLaws(t *testing.T) {
	is := func(law string, a, b []byte) {
		t.Helper()
		if !bytes.Equal(a, b) {
			t.Fatalf("%s: %x, %x", law, a, b)
		}
	}
	var all [][]byte
	for k, n := range sample() {
		if k%7 == 0 {
			all = append(all, narrow(n))
		}
	}
	less := narrow(plus(order, -1))
	for _, a := range all {
		is("neutral", add(a, nil), scalar.Reduce(a))
		is("neutral", mul(a, []byte{1}), scalar.Reduce(a))
		is("opposite", scalar.MulAdd(a, less, a), make([]byte, 32))
		for _, b := range all {
			is("order", add(a, b), add(b, a))
			is("order", mul(a, b), mul(b, a))
			for _, c := range all {
				is("at once", scalar.MulAdd(a, b, c), add(mul(a, b), c))
				is("brackets", add(add(a, b), c), add(a, add(b, c)))
				is("brackets", mul(mul(a, b), c), mul(a, mul(b, c)))
				is("spread", mul(a, add(b, c)), add(mul(a, b), mul(a, c)))
			}
		}
	}
}

// R4
func TestNilIsEmpty(t *testing.T) {
	if !bytes.Equal(scalar.Reduce(nil), scalar.Reduce([]byte{})) || scalar.Is(nil) != scalar.Is([]byte{}) {
		t.Error("nil and empty are unlike")
	}
	if !bytes.Equal(scalar.MulAdd(nil, nil, nil), scalar.MulAdd([]byte{}, []byte{}, []byte{})) {
		t.Error("MulAdd: nil and empty are unlike")
	}
}

// R4: bytes, and their spare room.
func TestHandedInStays(t *testing.T) {
	for n := range 100 {
		memory := byChance(1, 500)[0]
		want := bytes.Clone(memory)
		a, b, c := memory[10:10+n], memory[150:150+n], memory[300:300+n]
		scalar.Reduce(a)
		scalar.MulAdd(a, b, c)
		scalar.MulAdd(a, a, a)
		scalar.MulAdd(a, memory[10+n/2:], c)
		scalar.Is(a)
		if !bytes.Equal(memory, want) {
			t.Fatalf("of %d bytes handed in some, or their spare room, were changed", n)
		}
	}
}

// R4: numbers that stay as they are, too, and the room behind an answer.
func TestAnsweredIsNew(t *testing.T) {
	handed := narrow(plus(order, -1))
	want := bytes.Clone(handed)
	for _, ask := range []func() []byte{
		func() []byte { return scalar.Reduce(handed) },
		func() []byte { return scalar.MulAdd(handed, []byte{1}, nil) },
		func() []byte { return scalar.MulAdd(nil, nil, handed) },
	} {
		one, two := ask(), ask()
		if !bytes.Equal(one, want) || !bytes.Equal(two, want) {
			t.Fatalf("%x, %x, want %x", one, two, want)
		}
		clear(one[:cap(one)])
		if !bytes.Equal(two, want) || !bytes.Equal(handed, want) || !bytes.Equal(ask(), want) {
			t.Error("an answer shares memory")
		}
		clear(handed)
		if !bytes.Equal(two, want) {
			t.Error("what was handed in is kept in an answer")
		}
		copy(handed, want)
	}
}

// R5: not on the place, the spare room, or what was asked ahead.
func TestHangsOnBytesAlone(t *testing.T) {
	b := narrow(power(251, 77))
	for shift := range 9 {
		memory := bytes.Repeat([]byte{0xa5}, shift+100)
		copy(memory[shift:], b)
		for _, handed := range [][]byte{memory[shift : shift+32], memory[shift : shift+32 : shift+32]} {
			scalar.Reduce(memory)
			check(t, "Reduce", scalar.Reduce(handed), power(251, 77))
			scalar.MulAdd(memory, memory, memory)
			check(t, "MulAdd", scalar.MulAdd(handed, handed, handed), sum(product(power(251, 77), power(251, 77)), power(251, 77)))
			if !scalar.Is(handed) {
				t.Errorf("at %d it is none", shift)
			}
		}
	}
}

// R5: nothing is kept between calls by which two at once could meet.
func TestAtOnce(t *testing.T) {
	var wait sync.WaitGroup
	for _, b := range byChance(8, 64) {
		left, mixed := scalar.Reduce(b), scalar.MulAdd(b, b[32:], b)
		wait.Go(func() {
			for range 200 {
				if !bytes.Equal(scalar.Reduce(b), left) || !bytes.Equal(scalar.MulAdd(b, b[32:], b), mixed) || !scalar.Is(left) {
					t.Errorf("of %x there is another one beside others", b)
				}
			}
		})
	}
	wait.Wait()
}
