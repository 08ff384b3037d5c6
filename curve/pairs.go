package curve

import "brevet/field"

const (
	// size is how many bytes a point has, and how many count of how many points are summed up.
	size = 32

	// oddBit tells, in the last byte, whether x is odd.
	oddBit = 0x80
)

func ofPair(x, y field.Elem) Point {
	return Point{x, y, field.Int(1), x.Mul(y)}
}

func negative(a field.Elem) field.Elem {
	return field.Int(0).Sub(a)
}

// plus is the sum, with 2 d handed over, as it is read but once for many sums.
func (p Point) plus(q Point, d2 field.Elem) Point {
	// This holds for every two points, a point and itself or its negative too: d is no square, so no divisor is 0.
	a := p.y.Sub(p.x).Mul(q.y.Sub(q.x))
	b := p.y.Add(p.x).Mul(q.y.Add(q.x))
	c := p.t.Mul(d2).Mul(q.t)
	z := p.z.Mul(q.z)
	d := z.Add(z)
	// These are twice the parts of the document's fractions: b - a is twice x1 y2 + y1 x2, b + a twice y1 y2 + x1 x2.
	top, under := b.Sub(a), d.Add(c)
	otherTop, otherUnder := b.Add(a), d.Sub(c)
	return Point{
		x: top.Mul(otherUnder),
		y: otherTop.Mul(under),
		z: under.Mul(otherUnder),
		t: top.Mul(otherTop),
	}
}

// xWith is one of the two x that go with y, if there are any.
func xWith(y field.Elem) (field.Elem, bool) {
	one, square := field.Int(1), y.Mul(y)
	// The divisor is never 0, for -1 is a square and d is none.
	divisor := known(curveD).Mul(square).Add(one)
	return root(square.Sub(one).Mul(divisor.Inv()))
}

// root is one of the two elements of which a is the square, if there are any.
func root(a field.Elem) (field.Elem, bool) {
	// If a is a square, the power's square is a or -a, as p is 5 modulo 8.
	r := a.Pow(turned(rootPower))
	if !r.Mul(r).Equal(a) {
		r = r.Mul(known(rootOfMinusOne))
	}
	return r, r.Mul(r).Equal(a)
}
