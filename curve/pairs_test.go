package curve

import (
	"bytes"
	"math/big"
	"testing"

	"brevet/field"
)

// P5.1: the known numbers are what they are said to be.
func TestKnown(t *testing.T) {
	i := field.Int
	if !known(curveD).Mul(i(121666)).Equal(i(-121665)) {
		t.Error("d")
	}
	if d := known(curveD); !twiceD().Equal(d.Add(d)) {
		t.Error("2 d")
	}
	if !known(baseY).Mul(i(5)).Equal(i(4)) {
		t.Error("the base's y")
	}
	if known(baseX).Odd() || !onCurve(Base()) {
		t.Error("the base's x")
	}
	if r := known(rootOfMinusOne); !r.Mul(r).Equal(i(-1)) {
		t.Error("the root of -1")
	}
	power := new(big.Int).SetBytes(rootPower[:])
	prime := new(big.Int).Sub(new(big.Int).Lsh(big.NewInt(1), 255), big.NewInt(19))
	if power.Lsh(power, 3); power.Cmp(prime.Add(prime, big.NewInt(3))) != 0 {
		t.Error("the power")
	}
}

// R4, R5: a table is read, and stays.
func TestTurnedIsCopy(t *testing.T) {
	before := curveD
	first, second := turned(curveD), turned(curveD)
	clear(first)
	if curveD != before || second[0] != before[31] || second[31] != before[0] {
		t.Errorf("%x, %x", curveD, second)
	}
}

// onCurve tells whether a point's four elements go together, and are those of a point.
func onCurve(p Point) bool {
	xx, yy, zz, tt := p.x.Mul(p.x), p.y.Mul(p.y), p.z.Mul(p.z), p.t.Mul(p.t)
	return !p.z.Equal(field.Int(0)) &&
		p.x.Mul(p.y).Equal(p.z.Mul(p.t)) &&
		yy.Sub(xx).Equal(zz.Add(known(curveD).Mul(tt)))
}

// P5.2: whatever is answered is a point.
func TestStaysOnCurve(t *testing.T) {
	half, _ := Read(append([]byte{0xec}, append(bytes.Repeat([]byte{255}, 30), 0x7f)...))
	quarter, _ := Read(make([]byte, 32))
	other, _ := Read(append([]byte{3}, make([]byte, 31)...))
	all := []Point{Zero(), Base(), half, quarter, other}
	for _, p := range all {
		for _, q := range all {
			sum := p.Add(q)
			for i, r := range []Point{p, sum, sum.Neg(), p.Neg().Add(q), sum.Add(sum), sum.Mul([]byte{11, 200}), sum.Mul(nil)} {
				if !onCurve(r) {
					t.Errorf("%x, %x: %d is no point", p.Bytes(), q.Bytes(), i)
				}
			}
		}
	}
}

// P5.1: of a square there is a root, of another number none; 0 is its own.
func TestRoot(t *testing.T) {
	prime := new(big.Int).Sub(new(big.Int).Lsh(big.NewInt(1), 255), big.NewInt(19))
	for n := -300; n <= 300; n++ {
		a := field.Int(n)
		r, found := root(a)
		residue := new(big.Int).Mod(big.NewInt(int64(n)), prime)
		if found != (big.Jacobi(residue, prime) >= 0) {
			t.Errorf("%d: %v", n, found)
		}
		if found && !r.Mul(r).Equal(a) {
			t.Errorf("%d: %x", n, r.Bytes())
		}
	}
}
