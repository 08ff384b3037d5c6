package field

import (
	"math/big"
	"math/rand"
	"testing"
)

var prime = new(big.Int).Sub(new(big.Int).Lsh(big.NewInt(1), 255), big.NewInt(19))

// value is the number of the limbs as they stand, p or more as it may be.
func value(limbs [limbCount]uint64) *big.Int {
	n := new(big.Int)
	for i := limbCount - 1; i >= 0; i-- {
		n.Lsh(n, limbBits)
		n.Add(n, new(big.Int).SetUint64(limbs[i]))
	}
	return n
}

func modulo(n *big.Int) *big.Int { return new(big.Int).Mod(n, prime) }

// forms are all elements whose limbs are of these.
func forms(words ...uint64) []Elem {
	all := []Elem{{}}
	for i := range limbCount {
		var next []Elem
		for _, e := range all {
			for _, w := range words {
				e.limbs[i] = w
				next = append(next, e)
			}
		}
		all = next
	}
	return all
}

func checkLimbs(t *testing.T, what string, e Elem, want *big.Int) {
	t.Helper()
	for _, limb := range e.limbs {
		if limb >= 1<<52 {
			t.Fatalf("%s: a limb of %x", what, e.limbs)
		}
	}
	if modulo(value(e.limbs)).Cmp(modulo(want)) != 0 {
		t.Fatalf("%s: %x, want %x", what, e.limbs, modulo(want))
	}
}

// P3.1: of each form there is but one least one, next to p and to 2 p too.
func TestLeast(t *testing.T) {
	const full = 1<<51 - 1
	for _, e := range forms(0, 1, full-19, full-18, full-17, full, full+1, 1<<52-1) {
		if got, want := value(e.least().limbs), modulo(value(e.limbs)); got.Cmp(want) != 0 {
			t.Fatalf("least of %x: %x, want %x", e.limbs, got, want)
		}
		for _, limb := range e.least().limbs {
			if limb > full {
				t.Fatalf("least of %x: a limb of %x", e.limbs, e.least().limbs)
			}
		}
	}
}

// P3.3: p and the 18 numbers behind it, which the limbs hold too.
func TestFormsOfOneNumber(t *testing.T) {
	for k := range uint64(19) {
		great := Elem{[limbCount]uint64{limbMask - 18 + k, limbMask, limbMask, limbMask, limbMask}}
		if !great.Equal(Int(int(k))) || !Int(int(k)).Equal(great) || great.Odd() != (k%2 == 1) {
			t.Errorf("p and %d is not %d", k, k)
		}
		if great.Equal(Int(int(k) + 1)) {
			t.Errorf("p and %d is %d", k, k+1)
		}
		if string(great.Bytes()) != string(Int(int(k)).Bytes()) {
			t.Errorf("p and %d: bytes %x", k, great.Bytes())
		}
	}
}

// P3.2: the carries of the greatest words fit.
func TestCarried(t *testing.T) {
	for _, e := range forms(0, 1<<51-1, 1<<51, 1<<63, 1<<64-1) {
		l := e.limbs
		checkLimbs(t, "carried", carried(l[0], l[1], l[2], l[3], l[4]), value(l))
	}
}

func checkPair(t *testing.T, a, b Elem) {
	t.Helper()
	x, y := value(a.limbs), value(b.limbs)
	checkLimbs(t, "Add", a.Add(b), new(big.Int).Add(x, y))
	checkLimbs(t, "Sub", a.Sub(b), new(big.Int).Sub(x, y))
	checkLimbs(t, "Mul", a.Mul(b), new(big.Int).Mul(x, y))
}

// P3.2: with the greatest and the least limbs, no word runs over.
func TestPairsOfForms(t *testing.T) {
	all := forms(0, 1<<52-1)
	all = append(all, forms(1<<51-19, 1<<51)...)
	for _, a := range all {
		for _, b := range all {
			checkPair(t, a, b)
		}
	}
}

// P3.2
func TestPairsByChance(t *testing.T) {
	source := rand.New(rand.NewSource(3))
	some := func() (e Elem) {
		for i := range e.limbs {
			e.limbs[i] = source.Uint64() >> (12 + source.Intn(3))
		}
		return e
	}
	for range 20000 {
		checkPair(t, some(), some())
	}
}

// P3.1: nothing that is answered has limbs that are too great to be reckoned with.
func TestLimbsOfNew(t *testing.T) {
	for _, n := range []int{0, 1, -1, 1<<51 - 1, 1 << 51, 1<<63 - 1, -1 << 63} {
		checkLimbs(t, "Int", Int(n), big.NewInt(int64(n)))
	}
	b := make([]byte, size)
	for i := range b {
		b[i] = 255
		e, _ := Read(b)
		want := new(big.Int).Lsh(big.NewInt(1), uint(8*i+8))
		if i == size-1 {
			want.SetInt64(1) // all bits are no element's bytes
		}
		checkLimbs(t, "Read", e, want.Sub(want, big.NewInt(1)))
	}
}
