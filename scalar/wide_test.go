package scalar

import (
	"math/big"
	"math/rand"
	"testing"
)

// value is the number of the digits as they stand, whatever size they are.
func value(n *wide) *big.Int {
	v := new(big.Int)
	for i := wideDigits - 1; i >= 0; i-- {
		v.Lsh(v, digitBits)
		v.Add(v, big.NewInt(n[i]))
	}
	return v
}

func order() *big.Int {
	tail, _ := new(big.Int).SetString("27742317777372353535851937790883648493", 10)
	return tail.Add(tail, new(big.Int).Lsh(big.NewInt(1), 252))
}

// P4.1: the table is what the document says L is.
func TestExcess(t *testing.T) {
	var n wide
	copy(n[:], excess[:])
	n[digits] = 1
	if value(&n).Cmp(order()) != 0 {
		t.Errorf("L is %x, want %x", value(&n), order())
	}
	for _, digit := range excess {
		if digit < 0 || digit > digitMask {
			t.Errorf("a digit of %x", digit)
		}
	}
}

// P4.1: a number stays the same one, with digits that are as small as can be but the one at top.
func TestSettle(t *testing.T) {
	source := rand.New(rand.NewSource(4))
	for range 5000 {
		var n wide
		for i := range n {
			n[i] = int64(source.Uint64()) >> (4 + source.Intn(60))
		}
		want, old := value(&n), n
		top := source.Intn(wideDigits)
		n.settle(top)
		if value(&n).Cmp(want) != 0 {
			t.Fatalf("%x became %x", old, n)
		}
		for i := range wideDigits {
			if i < top && (n[i] < 0 || n[i] > digitMask) || i > top && n[i] != old[i] {
				t.Fatalf("settled below %d: %x became %x", top, old, n)
			}
		}
	}
}

func checkReduced(t *testing.T, n wide) {
	t.Helper()
	old := n
	want := new(big.Int).Mod(value(&n), order())
	n.reduce()
	if value(&n).Cmp(want) != 0 {
		t.Fatalf("%x became %x, want %x", old, value(&n), want)
	}
	for i, digit := range n {
		if digit < 0 || i < digits-1 && digit > digitMask || i >= digits && digit != 0 {
			t.Fatalf("%x has become %x", old, n)
		}
	}
}

// P4.1: runs of the greatest and of the least digits, by which each digit at the top is too great or below 0 in turn.
func TestReduceOfRuns(t *testing.T) {
	words := []int64{0, 1, 2, digitMask - 1, digitMask}
	for from := range wideDigits + 1 {
		for to := from; to <= wideDigits; to++ {
			for _, inner := range words {
				for _, outer := range words {
					var n wide
					for i := range n {
						n[i] = outer
						if from <= i && i < to {
							n[i] = inner
						}
					}
					checkReduced(t, n)
				}
			}
		}
	}
}

// P4.1
func TestReduceOfDigitsByChance(t *testing.T) {
	source := rand.New(rand.NewSource(5))
	words := []int64{0, 0, 1, digitMask, digitMask}
	for range 30000 {
		var n wide
		for i := range n {
			n[i] = source.Int63() & digitMask
			if source.Intn(2) == 0 {
				n[i] = words[source.Intn(len(words))]
			}
		}
		checkReduced(t, n)
	}
}

// P4.1: the greatest digits that 32 bytes have: no word runs over.
func TestGreatestProduct(t *testing.T) {
	var x, n wide
	for i := range digits {
		x[i] = digitMask
	}
	x[digits] = 1<<4 - 1
	n = x
	want := value(&x)
	want.Add(new(big.Int).Mul(want, want), want)
	n.addProduct(&x, &x)
	if value(&n).Cmp(want) != 0 {
		t.Errorf("%x, want %x", value(&n), want)
	}
	for _, digit := range n {
		if digit < 0 || digit > digitMask {
			t.Errorf("a digit of %x", digit)
		}
	}
}
