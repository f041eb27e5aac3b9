package span

import (
	"math/big"
	"math/rand"
	"slices"
	"testing"

	"sallyport/api"
)

const top = 1<<64 - 1

func to(a, b uint64) api.Span { return api.Span{Min: a, Max: b} }

func one(n uint64) api.Span { return to(n, n) }

// edges are numbers at which operations change their ways.
func edges() []uint64 {
	return []uint64{0, 1, 2, 7, 8, 1<<32 - 1, 1 << 32, 1<<63 - 1, 1 << 63, 1<<63 + 1, top - 1, top}
}

// ends are all numbers near 0 and near the greatest one.
func ends() []uint64 { return []uint64{0, 1, 2, 3, 4, top - 4, top - 3, top - 2, top - 1, top} }

// spansOf are all spans from one of the numbers to one of them. The numbers rise.
func spansOf(numbers []uint64) []api.Span {
	var l []api.Span
	for i, n := range numbers {
		for _, m := range numbers[i:] {
			l = append(l, to(n, m))
		}
	}
	return l
}

// wrong are spans that may not be.
func wrong() []api.Span {
	return []api.Span{to(1, 0), to(5, 4), to(top, 0), to(top, top-1), to(1<<63, 1<<63-1)}
}

// operations are those of the table; shifts those of them that take b as a number.
func operations() []uint8 {
	return []uint8{api.OpAddI, api.OpAdd, api.OpSub, api.OpMulI, api.OpMul, api.OpAndI, api.OpAnd, api.OpOr, api.OpXor, api.OpShlI, api.OpShrI}
}

func shifts() []uint8 { return []uint8{api.OpShlI, api.OpShrI} }

func comparisons() []uint8 {
	return []uint8{api.OpJeqI, api.OpJneI, api.OpJltI, api.OpJgeI, api.OpJeq, api.OpJne, api.OpJlt, api.OpJle, api.OpJgt, api.OpJge}
}

// someNumber is short or long, and often near 0, near the greatest number, or near one of one bit.
func someNumber(r *rand.Rand) uint64 {
	n := r.Uint64() >> r.Intn(64)
	switch r.Intn(4) {
	case 0:
		n = uint64(r.Intn(6))
	case 1:
		n = top - uint64(r.Intn(6))
	case 2:
		n = 1<<r.Intn(64) + uint64(r.Intn(3)) - 1
	}
	return n
}

func someSpan(r *rand.Rand) api.Span {
	a, b := someNumber(r), someNumber(r)
	if r.Intn(4) == 0 {
		b = a
	}
	return to(min(a, b), max(a, b))
}

// someOf is a number that the span has.
func someOf(r *rand.Rand, s api.Span) uint64 {
	switch n := r.Uint64(); {
	case r.Intn(4) == 0:
		return s.Min
	case r.Intn(4) == 0:
		return s.Max
	case s == to(0, top):
		return n
	default:
		return s.Min + n%(s.Max-s.Min+1)
	}
}

// someUnder is a span under another one.
func someUnder(r *rand.Rand, s api.Span) api.Span {
	a, b := someOf(r, s), someOf(r, s)
	return to(min(a, b), max(a, b))
}

// The chapter's words, by numbers without an end.

func num(n uint64) *big.Int { return new(big.Int).SetUint64(n) }

func fits(n *big.Int) bool { return n.Cmp(num(top)) <= 0 }

// wrapped is of numbers below 0 too.
func wrapped(n *big.Int) uint64 { return new(big.Int).And(n, num(top)).Uint64() }

// slowLength is the greatest of a length about n.
func slowLength(n uint64) uint64 {
	var l uint64
	for l < n {
		l = 2*l + 1
	}
	return l
}

// slowDo is of the operations of the table, and of spans that may be.
func slowDo(op uint8, a, b api.Span) api.Span {
	low, high := new(big.Int), new(big.Int)
	oneEach := a.Min == a.Max && b.Min == b.Max
	all := false
	switch op {
	case api.OpAddI, api.OpAdd:
		low.Add(num(a.Min), num(b.Min))
		high.Add(num(a.Max), num(b.Max))
		all = fits(low) && !fits(high)
	case api.OpSub:
		low.Sub(num(a.Min), num(b.Max))
		high.Sub(num(a.Max), num(b.Min))
		all = !(low.Sign() >= 0 || high.Sign() < 0 || oneEach)
	case api.OpMulI, api.OpMul:
		low.Mul(num(a.Min), num(b.Min))
		high.Mul(num(a.Max), num(b.Max))
		all = !fits(high) && !oneEach
	case api.OpShlI:
		low.Lsh(num(a.Min), uint(b.Min))
		high.Lsh(num(a.Max), uint(b.Min))
		all = !fits(high) && a.Min != a.Max
	case api.OpShrI:
		low.Rsh(num(a.Min), uint(b.Min))
		high.Rsh(num(a.Max), uint(b.Min))
	default:
		return slowBits(op, a, b, oneEach)
	}
	if all {
		return to(0, top)
	}
	return to(wrapped(low), wrapped(high))
}

func slowBits(op uint8, a, b api.Span, oneEach bool) api.Span {
	switch {
	case oneEach:
		return one(numbersDo(op, a.Min, b.Min))
	case op == api.OpAndI || op == api.OpAnd:
		return to(0, min(a.Max, b.Max))
	case op == api.OpOr:
		return to(max(a.Min, b.Min), slowLength(max(a.Max, b.Max)))
	}
	return to(0, slowLength(max(a.Max, b.Max)))
}

// numbersDo is what the operation makes of numbers, as chapter 22 has it.
func numbersDo(op uint8, x, y uint64) uint64 {
	switch op {
	case api.OpAddI, api.OpAdd:
		return x + y
	case api.OpSub:
		return x - y
	case api.OpMulI, api.OpMul:
		return x * y
	case api.OpAndI, api.OpAnd:
		return x & y
	case api.OpOr:
		return x | y
	case api.OpXor:
		return x ^ y
	case api.OpShlI:
		return x << y
	}
	return x >> y
}

// slowCompare is of the comparisons.
func slowCompare(op uint8, x, y uint64) bool {
	switch op {
	case api.OpJeqI, api.OpJeq:
		return x == y
	case api.OpJneI, api.OpJne:
		return x != y
	case api.OpJltI, api.OpJlt:
		return x < y
	case api.OpJle:
		return x <= y
	case api.OpJgt:
		return x > y
	}
	return x >= y
}

// contrary is the comparison that is so just where the other one is not.
func contrary(op uint8) uint8 {
	switch op {
	case api.OpJeqI:
		return api.OpJneI
	case api.OpJneI:
		return api.OpJeqI
	case api.OpJltI:
		return api.OpJgeI
	case api.OpJgeI:
		return api.OpJltI
	case api.OpJeq:
		return api.OpJne
	case api.OpJne:
		return api.OpJeq
	case api.OpJlt:
		return api.OpJge
	case api.OpJle:
		return api.OpJgt
	case api.OpJgt:
		return api.OpJle
	}
	return api.OpJlt
}

// near are the numbers of a span at which what is left of it can begin or end: its own ends and the other one's, and those beside them.
func near(s, other api.Span) []uint64 {
	var l []uint64
	for _, n := range []uint64{s.Min, s.Max, other.Min, other.Max} {
		for _, m := range []uint64{n - 1, n, n + 1} {
			if s.Min <= m && m <= s.Max {
				l = append(l, m)
			}
		}
	}
	slices.Sort(l)
	return slices.Compact(l)
}

// slowCut is the least spans about the numbers of a for which there are some of b with which it is as yes says, and the other way round.
func slowCut(op uint8, yes bool, a, b api.Span) (api.Span, api.Span, bool) {
	x, y, can := api.Span{}, api.Span{}, false
	theirs := near(b, a)
	for _, n := range near(a, b) {
		for _, m := range theirs {
			if slowCompare(op, n, m) != yes {
				continue
			}
			if !can {
				x, y, can = one(n), one(m), true
			}
			x = to(min(x.Min, n), max(x.Max, n))
			y = to(min(y.Min, m), max(y.Max, m))
		}
	}
	return x, y, can
}

func wantDo(t *testing.T, op uint8, a, b, want api.Span) {
	t.Helper()
	if s, e := Do(op, a, b); s != want || e != api.OK {
		t.Fatalf("Do(%d, %v, %v): %v, %d; not %v", op, a, b, s, e, want)
	}
}

func wantNotDone(t *testing.T, op uint8, a, b api.Span, want api.Errno) {
	t.Helper()
	if s, e := Do(op, a, b); s != (api.Span{}) || e != want {
		t.Fatalf("Do(%d, %v, %v): %v, %d; not %d", op, a, b, s, e, want)
	}
}

// left is what there is of two spans; can is false, if it can't be.
type left struct {
	x, y api.Span
	can  bool
}

func leave(x, y api.Span) left { return left{x, y, true} }

func wantCut(t *testing.T, op uint8, yes bool, a, b api.Span, want left) {
	t.Helper()
	if x, y, can, e := Cut(op, yes, a, b); (left{x, y, can}) != want || e != api.OK {
		t.Fatalf("Cut(%d, %v, %v, %v): %v, %v, %v, %d; not %v", op, yes, a, b, x, y, can, e, want)
	}
}

func wantNotCut(t *testing.T, op uint8, a, b api.Span, want api.Errno) {
	t.Helper()
	for _, yes := range []bool{true, false} {
		if x, y, can, e := Cut(op, yes, a, b); (left{x, y, can}) != (left{}) || e != want {
			t.Fatalf("Cut(%d, %v, %v, %v): %v, %v, %v, %d; not %d", op, yes, a, b, x, y, can, e, want)
		}
	}
}

// The chapter's examples, and the numbers of api that they stand on.
func TestExamplesOfDo(t *testing.T) {
	wantDo(t, api.OpAdd, to(1, 5), to(10, 20), to(11, 25))
	wantDo(t, api.OpAddI, to(1, 5), one(top), to(0, 4))
	wantDo(t, api.OpAddI, to(0, 5), one(top), to(0, top))
	wantDo(t, api.OpSub, to(10, 20), to(1, 5), to(5, 19))
	wantDo(t, api.OpSub, to(1, 5), to(10, 20), to(18446744073709551597, 18446744073709551611))
	wantDo(t, api.OpSub, to(1, 5), to(5, 6), to(0, top))
	wantDo(t, api.OpMul, to(2, 3), to(4, 5), to(8, 15))
	wantDo(t, api.OpMul, one(1<<63), one(2), one(0))
	wantDo(t, api.OpMul, to(1<<63, 1<<63+1), one(2), to(0, top))
	wantDo(t, api.OpAnd, to(0, 300), one(255), to(0, 255))
	wantDo(t, api.OpOr, to(4, 9), to(1, 2), to(4, 15))
	wantDo(t, api.OpXor, to(4, 9), to(1, 2), to(0, 15))
	wantDo(t, api.OpOr, one(5), one(2), one(7))
	wantDo(t, api.OpShlI, to(1, 3), one(4), to(16, 48))
	wantDo(t, api.OpShlI, to(1, 2), one(63), to(0, top))
	wantDo(t, api.OpShrI, to(5, 17), one(2), to(1, 4))
	wantNotDone(t, api.OpShrI, one(5), one(64), 2)
	wantNotDone(t, api.OpMov, one(5), one(1), 2)
	if api.ErrArg != 2 || api.ErrSpan != 150 || api.OpAddI != 3 || api.OpShrI != 13 || api.OpJeqI != 23 || api.OpJge != 32 {
		t.Errorf("the chapter has other numbers than api")
	}
}

func TestExamplesOfCut(t *testing.T) {
	wantCut(t, api.OpJlt, true, to(0, 9), one(5), leave(to(0, 4), one(5)))
	wantCut(t, api.OpJlt, false, to(0, 9), one(5), leave(to(5, 9), one(5)))
	wantCut(t, api.OpJlt, true, to(7, 9), one(5), left{})
	wantCut(t, api.OpJeq, true, to(0, 9), to(5, 20), leave(to(5, 9), to(5, 9)))
	wantCut(t, api.OpJne, true, to(0, 9), one(9), leave(to(0, 8), one(9)))
	wantCut(t, api.OpJne, true, one(3), one(3), left{})
	wantCut(t, api.OpJeq, false, to(0, 9), one(0), leave(to(1, 9), one(0)))
}

// P15.1
func TestCheck(t *testing.T) {
	for _, s := range append(spansOf(edges()), spansOf(ends())...) {
		if e := Check(s); e != api.OK {
			t.Errorf("Check(%v): %d", s, e)
		}
	}
	for _, s := range wrong() {
		if e := Check(s); e != api.ErrSpan {
			t.Errorf("Check(%v): %d", s, e)
		}
	}
	if e := Check(api.Span{}); e != api.OK {
		t.Errorf("Check of the zero span: %d", e)
	}
}

func TestHas(t *testing.T) {
	for _, c := range []struct {
		s        api.Span
		in, none []uint64
	}{
		{to(3, 7), []uint64{3, 4, 6, 7}, []uint64{0, 2, 8, top}},
		{one(5), []uint64{5}, []uint64{0, 4, 6, top}},
		{one(0), []uint64{0}, []uint64{1, 2, top}},
		{one(top), []uint64{top}, []uint64{0, top - 1}},
		{to(0, 1), []uint64{0, 1}, []uint64{2, top}},
		{to(top-1, top), []uint64{top - 1, top}, []uint64{0, top - 2}},
		{to(1, top-1), []uint64{1, 2, 1 << 63, top - 1}, []uint64{0, top}},
		{to(0, top), edges(), nil},
		{to(5, 4), nil, []uint64{0, 3, 4, 5, 6, top}},
		{to(top, 0), nil, edges()},
		{to(1, 0), nil, edges()},
	} {
		for _, n := range c.in {
			if !Has(c.s, n) {
				t.Errorf("%v has not %d", c.s, n)
			}
		}
		for _, n := range c.none {
			if Has(c.s, n) {
				t.Errorf("%v has %d", c.s, n)
			}
		}
	}
}

func TestAllAndOne(t *testing.T) {
	if All() != to(0, 18446744073709551615) {
		t.Errorf("All: %v", All())
	}
	for _, n := range append(edges(), ends()...) {
		if One(n) != to(n, n) {
			t.Errorf("One(%d): %v", n, One(n))
		}
	}
}

// P15.2: of spans that may not be, too.
func TestJoin(t *testing.T) {
	for _, c := range []struct{ a, b, want api.Span }{
		{to(1, 2), to(9, 9), to(1, 9)},
		{to(1, 5), to(3, 9), to(1, 9)},
		{to(1, 9), to(3, 5), to(1, 9)},
		{to(3, 5), to(3, 5), to(3, 5)},
		{one(0), one(top), to(0, top)},
		{one(4), one(4), one(4)},
		{to(5, 4), to(7, 8), to(5, 8)},
		{to(5, 4), to(1, 2), to(1, 4)},
		{to(5, 4), to(9, 3), to(5, 4)},
		{to(top, 0), to(top, 0), to(top, 0)},
		{to(top, 0), one(6), one(6)},
		{to(5, 4), to(4, 3), to(4, 4)},
	} {
		if s := Join(c.a, c.b); s != c.want {
			t.Errorf("Join(%v, %v): %v, not %v", c.a, c.b, s, c.want)
		}
		if s := Join(c.b, c.a); s != c.want {
			t.Errorf("Join(%v, %v): %v, not %v", c.b, c.a, s, c.want)
		}
	}
}

func TestUnder(t *testing.T) {
	for _, c := range []struct {
		a, b api.Span
		want bool
	}{
		{to(2, 3), to(2, 4), true},
		{to(1, 3), to(2, 4), false},
		{to(3, 5), to(2, 4), false},
		{to(2, 4), to(2, 4), true},
		{to(2, 4), to(2, 3), false},
		{to(2, 4), to(3, 4), false},
		{one(3), to(2, 4), true},
		{one(2), to(2, 4), true},
		{one(4), to(2, 4), true},
		{one(5), to(2, 4), false},
		{one(1), to(2, 4), false},
		{to(2, 4), one(3), false},
		{to(0, top), to(0, top), true},
		{to(0, top), to(1, top), false},
		{to(0, top), to(0, top-1), false},
		{to(5, 4), to(5, 4), true},
		{to(5, 4), one(6), false},
		{to(5, 4), to(4, 5), true},
		{to(top, 0), to(5, 4), true},
		{to(5, 4), to(top, 0), false},
		{one(4), to(5, 4), false},
	} {
		if so := Under(c.a, c.b); so != c.want {
			t.Errorf("Under(%v, %v): %v", c.a, c.b, so)
		}
	}
}

// P15.7: Join is over both, and under each span that is.
func TestJoinIsTheLeast(t *testing.T) {
	l := spansOf(edges())
	for _, a := range l {
		for _, b := range l {
			j := Join(a, b)
			if !Under(a, j) || !Under(b, j) || Check(j) != api.OK {
				t.Fatalf("Join(%v, %v): %v is not over both", a, b, j)
			}
			for _, s := range l {
				if Under(a, s) && Under(b, s) && !Under(j, s) {
					t.Fatalf("Join(%v, %v): %v, but %v is over both", a, b, j, s)
				}
			}
		}
	}
}

// P15.3: each row of the table.
func TestSums(t *testing.T) {
	for _, op := range []uint8{api.OpAddI, api.OpAdd} {
		wantDo(t, op, one(0), one(0), one(0))
		wantDo(t, op, one(2), one(3), one(5))
		wantDo(t, op, to(0, 5), one(0), to(0, 5))
		wantDo(t, op, to(0, top-1), to(0, 1), to(0, top))           // none wraps
		wantDo(t, op, to(1, top-1), one(1), to(2, top))             // up to the greatest number
		wantDo(t, op, to(1, top), one(1), to(0, top))               // the greater sum alone wraps
		wantDo(t, op, to(top-3, top), one(3), to(0, top))           // the lesser sum is the greatest number
		wantDo(t, op, to(top-2, top), one(3), to(0, 2))             // both wrap
		wantDo(t, op, to(1<<63, top), to(1<<63, top), to(0, top-1)) // both
		wantDo(t, op, to(1<<63-1, top), one(1<<63), to(0, top))
		wantDo(t, op, one(top), one(top), one(top-1))
		wantDo(t, op, one(top), one(1), one(0))
		wantDo(t, op, to(0, top), to(0, top), to(0, top))
		wantDo(t, op, to(0, top), one(1), to(0, top))
		wantDo(t, op, to(0, top), one(0), to(0, top))
	}
}

func TestDifferences(t *testing.T) {
	wantDo(t, api.OpSub, one(0), one(0), one(0))
	wantDo(t, api.OpSub, one(5), one(3), one(2))
	wantDo(t, api.OpSub, one(3), one(5), one(top-1)) // one number each
	wantDo(t, api.OpSub, one(0), one(top), one(1))
	wantDo(t, api.OpSub, one(0), one(1), one(top))
	wantDo(t, api.OpSub, to(5, 9), to(1, 5), to(0, 8))       // none wraps, down to 0
	wantDo(t, api.OpSub, to(5, 9), to(1, 6), to(0, top))     // the lesser one alone
	wantDo(t, api.OpSub, to(1, 5), to(5, 6), to(0, top))     // the greater one is 0
	wantDo(t, api.OpSub, to(1, 4), to(5, 6), to(top-4, top)) // both
	wantDo(t, api.OpSub, to(0, 4), to(5, top), to(1, top))   // both
	wantDo(t, api.OpSub, to(0, top), one(0), to(0, top))     // none
	wantDo(t, api.OpSub, to(0, top), one(1), to(0, top))     // one
	wantDo(t, api.OpSub, one(top), to(0, top), to(0, top))   // none
	wantDo(t, api.OpSub, one(0), to(0, top), to(0, top))     // one
	wantDo(t, api.OpSub, one(0), to(1, top), to(1, top))     // both
	wantDo(t, api.OpSub, to(3, 7), to(3, 7), to(0, top))     // one
	wantDo(t, api.OpSub, to(1<<63, top), one(1<<63), to(0, 1<<63-1))
}

func TestProducts(t *testing.T) {
	for _, op := range []uint8{api.OpMulI, api.OpMul} {
		wantDo(t, op, one(0), one(0), one(0))
		wantDo(t, op, to(0, top), one(0), one(0))
		wantDo(t, op, to(0, top), one(1), to(0, top))
		wantDo(t, op, to(3, top), one(1), to(3, top))
		wantDo(t, op, to(0, 3), to(5, 7), to(0, 21))
		wantDo(t, op, to(2, 1<<32-1), to(3, 1<<32+1), to(6, top)) // the greatest number itself
		wantDo(t, op, to(2, 1<<32), to(3, 1<<32), to(0, top))     // beyond it by one
		wantDo(t, op, to(2, 6148914691236517205), to(2, 3), to(4, top))
		wantDo(t, op, to(2, 6148914691236517206), to(2, 3), to(0, top))
		wantDo(t, op, one(1<<32), one(1<<32), one(0))
		wantDo(t, op, one(1<<32), one(1<<32+1), one(1<<32))
		wantDo(t, op, one(top), one(top), one(1))
		wantDo(t, op, one(top), one(2), one(top-1))
		wantDo(t, op, to(top-1, top), one(top), to(0, top))
		wantDo(t, op, one(top), to(2, 3), to(0, top))
		wantDo(t, op, to(0, top), to(0, top), to(0, top))
	}
}

func TestBits(t *testing.T) {
	for _, op := range []uint8{api.OpAndI, api.OpAnd} {
		wantDo(t, op, one(12), one(10), one(8))
		wantDo(t, op, one(0), one(top), one(0))
		wantDo(t, op, one(top), one(top), one(top))
		wantDo(t, op, one(12), to(10, 11), to(0, 11))
		wantDo(t, op, to(12, 13), one(10), to(0, 10))
		wantDo(t, op, to(12, 13), to(12, 13), to(0, 13))
		wantDo(t, op, to(0, top), to(0, top), to(0, top))
		wantDo(t, op, to(0, top), one(0), one(0))
	}
	wantDo(t, api.OpOr, one(12), one(10), one(14))
	wantDo(t, api.OpOr, one(0), one(0), one(0))
	wantDo(t, api.OpOr, one(top), one(0), one(top))
	wantDo(t, api.OpOr, one(1), to(2, 3), to(2, 3))
	wantDo(t, api.OpOr, to(5, 9), one(1), to(5, 15))
	wantDo(t, api.OpOr, one(top), to(0, 1), one(top))
	wantDo(t, api.OpXor, one(12), one(10), one(6))
	wantDo(t, api.OpXor, one(7), one(7), one(0))
	wantDo(t, api.OpXor, one(top), one(0), one(top))
	wantDo(t, api.OpXor, one(top), one(top), one(0))
	wantDo(t, api.OpXor, one(1), to(2, 3), to(0, 3))
}

// P15.3: the greatest of a length, about its own ends.
func TestGreatestOfALength(t *testing.T) {
	for _, c := range []struct{ n, want uint64 }{
		{1, 1}, {2, 3}, {3, 3}, {4, 7}, {7, 7}, {8, 15}, {255, 255}, {256, 511}, {1<<32 - 1, 1<<32 - 1}, {1 << 32, 1<<33 - 1},
		{1<<62 - 1, 1<<62 - 1}, {1 << 62, 1<<63 - 1}, {1<<63 - 1, 1<<63 - 1}, {1 << 63, top}, {1<<63 + 1, top}, {top - 1, top}, {top, top},
	} {
		wantDo(t, api.OpOr, to(0, c.n), one(0), to(0, c.want))
		wantDo(t, api.OpOr, one(0), to(c.n-1, c.n), to(c.n-1, c.want))
		wantDo(t, api.OpOr, to(0, 1), one(c.n), to(c.n, c.want))
		wantDo(t, api.OpOr, to(0, c.n), to(0, c.n), to(0, c.want))
		wantDo(t, api.OpXor, to(0, c.n), one(0), to(0, c.want))
		wantDo(t, api.OpXor, one(0), to(c.n-1, c.n), to(0, c.want))
		wantDo(t, api.OpXor, to(0, c.n), to(0, c.n), to(0, c.want))
	}
}

func TestShifts(t *testing.T) {
	wantDo(t, api.OpShlI, to(3, 9), one(0), to(3, 9))
	wantDo(t, api.OpShlI, to(0, top), one(0), to(0, top))
	wantDo(t, api.OpShlI, one(0), one(63), one(0))
	wantDo(t, api.OpShlI, to(0, 1), one(63), to(0, 1<<63))
	wantDo(t, api.OpShlI, one(1), one(63), one(1<<63))
	wantDo(t, api.OpShlI, one(2), one(63), one(0))
	wantDo(t, api.OpShlI, one(3), one(63), one(1<<63))
	wantDo(t, api.OpShlI, one(top), one(63), one(1<<63))
	wantDo(t, api.OpShlI, to(2, 3), one(63), to(0, top))
	wantDo(t, api.OpShlI, to(1, 1<<63-1), one(1), to(2, top-1))
	wantDo(t, api.OpShlI, to(1, 1<<63), one(1), to(0, top))
	wantDo(t, api.OpShlI, to(1<<63, 1<<63+1), one(1), to(0, top))
	wantDo(t, api.OpShlI, one(1<<63+1), one(1), one(2))
	wantDo(t, api.OpShrI, to(3, 9), one(0), to(3, 9))
	wantDo(t, api.OpShrI, to(0, top), one(0), to(0, top))
	wantDo(t, api.OpShrI, to(0, top), one(63), to(0, 1))
	wantDo(t, api.OpShrI, to(1<<63-1, 1<<63), one(63), to(0, 1))
	wantDo(t, api.OpShrI, to(1<<63, top), one(63), one(1))
	wantDo(t, api.OpShrI, to(7, 8), one(3), to(0, 1))
	wantDo(t, api.OpShrI, one(17), one(2), one(4))
}

// P15.3: what is no operation of the table, ahead of spans that may not be; these ahead of shifts that go too far.
func TestDoErrors(t *testing.T) {
	for op := range 256 {
		if slices.Contains(operations(), uint8(op)) {
			continue
		}
		for _, s := range append(wrong(), one(5), one(64), to(0, top)) {
			wantNotDone(t, uint8(op), s, one(1), api.ErrArg)
			wantNotDone(t, uint8(op), one(1), s, api.ErrArg)
			wantNotDone(t, uint8(op), s, s, api.ErrArg)
		}
	}
	for _, op := range operations() {
		for _, s := range wrong() {
			for _, other := range []api.Span{one(0), one(1), one(63), one(64), one(top), to(0, 1), to(0, top), to(5, 4), to(top, 0)} {
				wantNotDone(t, op, s, other, api.ErrSpan)
				wantNotDone(t, op, other, s, api.ErrSpan)
			}
		}
	}
}

func TestShiftErrors(t *testing.T) {
	for _, op := range shifts() {
		for _, a := range []api.Span{one(0), one(5), to(1, 2), to(0, top)} {
			for _, b := range []api.Span{one(64), one(65), one(127), one(128), one(256), one(1 << 32), one(1 << 63), one(top), to(0, 1), to(0, 63), to(62, 63), to(63, 64), to(64, 65), to(0, top)} {
				wantNotDone(t, op, a, b, api.ErrArg)
			}
		}
		for n := range uint64(64) {
			wantDo(t, op, one(0), one(n), one(0))
		}
	}
	// The others take such numbers.
	for _, op := range operations() {
		if !slices.Contains(shifts(), op) {
			for _, b := range []api.Span{one(64), to(0, 1), to(62, 65)} {
				wantDo(t, op, one(5), b, slowDo(op, one(5), b))
			}
		}
	}
}

// wantDoRight is as the words have it, and has what the operation makes of the numbers of both that are among these.
func wantDoRight(t *testing.T, op uint8, a, b api.Span, numbers []uint64) {
	t.Helper()
	want := slowDo(op, a, b)
	wantDo(t, op, a, b, want)
	if a.Min == a.Max && b.Min == b.Max && want.Min != want.Max {
		t.Fatalf("Do(%d, %v, %v): %v, not one number", op, a, b, want)
	}
	for _, x := range numbers {
		for _, y := range numbers {
			if Has(a, x) && Has(b, y) && !Has(want, numbersDo(op, x, y)) {
				t.Fatalf("Do(%d, %v, %v): %v has nothing for %d, %d", op, a, b, want, x, y)
			}
		}
	}
}

// P15.3, P15.5: as the words go, and no number lost, of all spans about the edges, and all short ones.
func TestDoAsTheWordsGo(t *testing.T) {
	short := []uint64{0, 1, 2, 3, 4, 5, 6, 7, 8, 9, 10, 11, 12}
	for _, numbers := range [][]uint64{edges(), ends(), short} {
		l := spansOf(numbers)
		for _, op := range operations() {
			if slices.Contains(shifts(), op) {
				continue
			}
			for _, a := range l {
				for _, b := range l {
					wantDoRight(t, op, a, b, numbers)
				}
			}
		}
	}
}

func TestShiftsAsTheWordsGo(t *testing.T) {
	for _, numbers := range [][]uint64{edges(), ends()} {
		for _, op := range shifts() {
			for _, a := range spansOf(numbers) {
				for n := range uint64(64) {
					wantDoRight(t, op, a, one(n), append(numbers[:len(numbers):len(numbers)], n))
				}
			}
		}
	}
}

func TestManyOperations(t *testing.T) {
	r := rand.New(rand.NewSource(15))
	for range 100000 {
		op, a, b := operations()[r.Intn(11)], someSpan(r), someSpan(r)
		if slices.Contains(shifts(), op) {
			b = one(uint64(r.Intn(64)))
		}
		wantDo(t, op, a, b, slowDo(op, a, b))
		s, _ := Do(op, a, b)
		for range 8 {
			x, y := someOf(r, a), someOf(r, b)
			if !Has(s, numbersDo(op, x, y)) {
				t.Fatalf("Do(%d, %v, %v): %v has nothing for %d, %d", op, a, b, s, x, y)
			}
		}
	}
}

// P15.4: what the six kinds of comparisons leave.
type sixLeft struct {
	a, b                                   api.Span
	eq, ne, less, atMost, greater, atLeast left
}

// wantSix holds each comparison, so, and its contrary, not so, against what is left.
func wantSix(t *testing.T, c sixLeft) {
	t.Helper()
	for _, l := range []struct {
		ops  []uint8
		want left
	}{
		{[]uint8{api.OpJeqI, api.OpJeq}, c.eq},
		{[]uint8{api.OpJneI, api.OpJne}, c.ne},
		{[]uint8{api.OpJltI, api.OpJlt}, c.less},
		{[]uint8{api.OpJle}, c.atMost},
		{[]uint8{api.OpJgt}, c.greater},
		{[]uint8{api.OpJgeI, api.OpJge}, c.atLeast},
	} {
		for _, op := range l.ops {
			wantCut(t, op, true, c.a, c.b, l.want)
			wantCut(t, contrary(op), false, c.a, c.b, l.want)
		}
	}
}

func TestCutOfSpansOfMore(t *testing.T) {
	cant := left{}
	for _, c := range []sixLeft{
		// Nothing in common.
		{to(1, 3), to(5, 9), cant, leave(to(1, 3), to(5, 9)), leave(to(1, 3), to(5, 9)), leave(to(1, 3), to(5, 9)), cant, cant},
		{to(5, 9), to(1, 3), cant, leave(to(5, 9), to(1, 3)), cant, cant, leave(to(5, 9), to(1, 3)), leave(to(5, 9), to(1, 3))},
		// Side by side.
		{to(1, 4), to(5, 9), cant, leave(to(1, 4), to(5, 9)), leave(to(1, 4), to(5, 9)), leave(to(1, 4), to(5, 9)), cant, cant},
		{to(5, 9), to(1, 4), cant, leave(to(5, 9), to(1, 4)), cant, cant, leave(to(5, 9), to(1, 4)), leave(to(5, 9), to(1, 4))},
		// They touch in one number.
		{to(1, 5), to(5, 9), leave(one(5), one(5)), leave(to(1, 5), to(5, 9)), leave(to(1, 5), to(5, 9)), leave(to(1, 5), to(5, 9)), cant, leave(one(5), one(5))},
		{to(5, 9), to(1, 5), leave(one(5), one(5)), leave(to(5, 9), to(1, 5)), cant, leave(one(5), one(5)), leave(to(5, 9), to(1, 5)), leave(to(5, 9), to(1, 5))},
		// They have some in common.
		{to(1, 6), to(4, 9), leave(to(4, 6), to(4, 6)), leave(to(1, 6), to(4, 9)), leave(to(1, 6), to(4, 9)), leave(to(1, 6), to(4, 9)), leave(to(5, 6), to(4, 5)), leave(to(4, 6), to(4, 6))},
		{to(4, 9), to(1, 6), leave(to(4, 6), to(4, 6)), leave(to(4, 9), to(1, 6)), leave(to(4, 5), to(5, 6)), leave(to(4, 6), to(4, 6)), leave(to(4, 9), to(1, 6)), leave(to(4, 9), to(1, 6))},
		// One within the other one.
		{to(0, 9), to(4, 6), leave(to(4, 6), to(4, 6)), leave(to(0, 9), to(4, 6)), leave(to(0, 5), to(4, 6)), leave(to(0, 6), to(4, 6)), leave(to(5, 9), to(4, 6)), leave(to(4, 9), to(4, 6))},
		{to(4, 6), to(0, 9), leave(to(4, 6), to(4, 6)), leave(to(4, 6), to(0, 9)), leave(to(4, 6), to(5, 9)), leave(to(4, 6), to(4, 9)), leave(to(4, 6), to(0, 5)), leave(to(4, 6), to(0, 6))},
		{to(0, top), to(4, 6), leave(to(4, 6), to(4, 6)), leave(to(0, top), to(4, 6)), leave(to(0, 5), to(4, 6)), leave(to(0, 6), to(4, 6)), leave(to(5, top), to(4, 6)), leave(to(4, top), to(4, 6))},
		// The same.
		{to(3, 7), to(3, 7), leave(to(3, 7), to(3, 7)), leave(to(3, 7), to(3, 7)), leave(to(3, 6), to(4, 7)), leave(to(3, 7), to(3, 7)), leave(to(4, 7), to(3, 6)), leave(to(3, 7), to(3, 7))},
		{to(3, 4), to(3, 4), leave(to(3, 4), to(3, 4)), leave(to(3, 4), to(3, 4)), leave(one(3), one(4)), leave(to(3, 4), to(3, 4)), leave(one(4), one(3)), leave(to(3, 4), to(3, 4))},
		{to(0, top), to(0, top), leave(to(0, top), to(0, top)), leave(to(0, top), to(0, top)), leave(to(0, top-1), to(1, top)), leave(to(0, top), to(0, top)), leave(to(1, top), to(0, top-1)), leave(to(0, top), to(0, top))},
	} {
		wantSix(t, c)
	}
}

func TestCutWithOneNumber(t *testing.T) {
	cant := left{}
	for _, c := range []sixLeft{
		// b's number at a's Min, at its Max, between, and beside it.
		{to(3, 7), one(3), leave(one(3), one(3)), leave(to(4, 7), one(3)), cant, leave(one(3), one(3)), leave(to(4, 7), one(3)), leave(to(3, 7), one(3))},
		{to(3, 7), one(7), leave(one(7), one(7)), leave(to(3, 6), one(7)), leave(to(3, 6), one(7)), leave(to(3, 7), one(7)), cant, leave(one(7), one(7))},
		{to(3, 7), one(5), leave(one(5), one(5)), leave(to(3, 7), one(5)), leave(to(3, 4), one(5)), leave(to(3, 5), one(5)), leave(to(6, 7), one(5)), leave(to(5, 7), one(5))},
		{to(3, 7), one(2), cant, leave(to(3, 7), one(2)), cant, cant, leave(to(3, 7), one(2)), leave(to(3, 7), one(2))},
		{to(3, 7), one(8), cant, leave(to(3, 7), one(8)), leave(to(3, 7), one(8)), leave(to(3, 7), one(8)), cant, cant},
		// The other way round.
		{one(3), to(3, 7), leave(one(3), one(3)), leave(one(3), to(4, 7)), leave(one(3), to(4, 7)), leave(one(3), to(3, 7)), cant, leave(one(3), one(3))},
		{one(7), to(3, 7), leave(one(7), one(7)), leave(one(7), to(3, 6)), cant, leave(one(7), one(7)), leave(one(7), to(3, 6)), leave(one(7), to(3, 7))},
		{one(5), to(3, 7), leave(one(5), one(5)), leave(one(5), to(3, 7)), leave(one(5), to(6, 7)), leave(one(5), to(5, 7)), leave(one(5), to(3, 4)), leave(one(5), to(3, 5))},
		// Two numbers, of which one is left.
		{to(3, 4), one(3), leave(one(3), one(3)), leave(one(4), one(3)), cant, leave(one(3), one(3)), leave(one(4), one(3)), leave(to(3, 4), one(3))},
		{to(3, 4), one(4), leave(one(4), one(4)), leave(one(3), one(4)), leave(one(3), one(4)), leave(to(3, 4), one(4)), cant, leave(one(4), one(4))},
		{one(3), to(3, 4), leave(one(3), one(3)), leave(one(3), one(4)), leave(one(3), one(4)), leave(one(3), to(3, 4)), cant, leave(one(3), one(3))},
		{one(4), to(3, 4), leave(one(4), one(4)), leave(one(4), one(3)), cant, leave(one(4), one(4)), leave(one(4), one(3)), leave(one(4), to(3, 4))},
		// At 0 and at the greatest number.
		{to(0, top), one(0), leave(one(0), one(0)), leave(to(1, top), one(0)), cant, leave(one(0), one(0)), leave(to(1, top), one(0)), leave(to(0, top), one(0))},
		{to(0, top), one(top), leave(one(top), one(top)), leave(to(0, top-1), one(top)), leave(to(0, top-1), one(top)), leave(to(0, top), one(top)), cant, leave(one(top), one(top))},
		{one(0), to(0, top), leave(one(0), one(0)), leave(one(0), to(1, top)), leave(one(0), to(1, top)), leave(one(0), to(0, top)), cant, leave(one(0), one(0))},
		{one(top), to(0, top), leave(one(top), one(top)), leave(one(top), to(0, top-1)), cant, leave(one(top), one(top)), leave(one(top), to(0, top-1)), leave(one(top), to(0, top))},
		// One number each.
		{one(4), one(4), leave(one(4), one(4)), cant, cant, leave(one(4), one(4)), cant, leave(one(4), one(4))},
		{one(0), one(0), leave(one(0), one(0)), cant, cant, leave(one(0), one(0)), cant, leave(one(0), one(0))},
		{one(top), one(top), leave(one(top), one(top)), cant, cant, leave(one(top), one(top)), cant, leave(one(top), one(top))},
		{one(4), one(5), cant, leave(one(4), one(5)), leave(one(4), one(5)), leave(one(4), one(5)), cant, cant},
		{one(5), one(4), cant, leave(one(5), one(4)), cant, cant, leave(one(5), one(4)), leave(one(5), one(4))},
		{one(0), one(top), cant, leave(one(0), one(top)), leave(one(0), one(top)), leave(one(0), one(top)), cant, cant},
		{one(top), one(0), cant, leave(one(top), one(0)), cant, cant, leave(one(top), one(0)), leave(one(top), one(0))},
	} {
		wantSix(t, c)
	}
}

// P15.4: what is no comparison, ahead of spans that may not be.
func TestCutErrors(t *testing.T) {
	for op := range 256 {
		if slices.Contains(comparisons(), uint8(op)) {
			continue
		}
		for _, s := range append(wrong(), one(5), to(0, top)) {
			wantNotCut(t, uint8(op), s, one(1), api.ErrArg)
			wantNotCut(t, uint8(op), one(1), s, api.ErrArg)
			wantNotCut(t, uint8(op), s, s, api.ErrArg)
		}
	}
	for _, op := range comparisons() {
		for _, s := range wrong() {
			for _, other := range []api.Span{one(0), one(5), one(top), to(0, top), to(5, 4), to(top, 0)} {
				wantNotCut(t, op, s, other, api.ErrSpan)
				wantNotCut(t, op, other, s, api.ErrSpan)
			}
		}
	}
}

func TestCompare(t *testing.T) {
	numbers := append(edges(), 3, 4, 5, top-2)
	for op := range 256 {
		if slices.Contains(comparisons(), uint8(op)) {
			continue
		}
		for _, x := range numbers {
			if so, e := Compare(uint8(op), x, 1); so || e != api.ErrArg {
				t.Errorf("Compare(%d, %d, 1): %v, %d, not ErrArg", op, x, so, e)
			}
		}
	}
	for _, op := range comparisons() {
		for _, x := range numbers {
			for _, y := range numbers {
				if so, e := Compare(op, x, y); so != slowCompare(op, x, y) || e != api.OK {
					t.Errorf("Compare(%d, %d, %d): %v, %d", op, x, y, so, e)
				}
			}
		}
	}
}

// P15.4: each comparison by name, of a lesser, the same and a greater number.
func TestCompareByName(t *testing.T) {
	for _, c := range []struct {
		op   uint8
		want [3]bool
	}{
		{api.OpJeqI, [3]bool{false, true, false}},
		{api.OpJeq, [3]bool{false, true, false}},
		{api.OpJneI, [3]bool{true, false, true}},
		{api.OpJne, [3]bool{true, false, true}},
		{api.OpJltI, [3]bool{true, false, false}},
		{api.OpJlt, [3]bool{true, false, false}},
		{api.OpJle, [3]bool{true, true, false}},
		{api.OpJgt, [3]bool{false, false, true}},
		{api.OpJgeI, [3]bool{false, true, true}},
		{api.OpJge, [3]bool{false, true, true}},
	} {
		for i, x := range []uint64{1<<63 - 1, 1 << 63, 1<<63 + 1} {
			if so, e := Compare(c.op, x, 1<<63); so != c.want[i] || e != api.OK {
				t.Errorf("Compare(%d, %d, 2^63): %v, %d", c.op, x, so, e)
			}
		}
	}
}

// wantCutRight is as the words have it, keeps all numbers of which it is as yes says, and leaves no more than there was.
func wantCutRight(t *testing.T, op uint8, yes bool, a, b api.Span, numbers []uint64) {
	t.Helper()
	var want left
	want.x, want.y, want.can = slowCut(op, yes, a, b)
	wantCut(t, op, yes, a, b, want)
	if want.can && !(Under(want.x, a) && Under(want.y, b) && Check(want.x) == api.OK && Check(want.y) == api.OK) {
		t.Fatalf("Cut(%d, %v, %v, %v): %v is not under what there was", op, yes, a, b, want)
	}
	for _, x := range numbers {
		for _, y := range numbers {
			if !Has(a, x) || !Has(b, y) {
				continue
			}
			so, e := Compare(op, x, y)
			if e != api.OK {
				t.Fatalf("Compare(%d, %d, %d): %d", op, x, y, e)
			}
			if so == yes && !(want.can && Has(want.x, x) && Has(want.y, y)) {
				t.Fatalf("Cut(%d, %v, %v, %v): %v without %d, %d", op, yes, a, b, want, x, y)
			}
		}
	}
}

// P15.4, P15.6: as the words go, and no number lost.
func TestCutAsTheWordsGo(t *testing.T) {
	for _, numbers := range [][]uint64{edges(), ends(), {0, 1, 2, 3, 4, 5, 6, 7}} {
		l := spansOf(numbers)
		for _, op := range comparisons() {
			for _, a := range l {
				for _, b := range l {
					wantCutRight(t, op, true, a, b, numbers)
					wantCutRight(t, op, false, a, b, numbers)
				}
			}
		}
	}
}

func TestManyCuts(t *testing.T) {
	r := rand.New(rand.NewSource(16))
	for range 50000 {
		op, yes, a, b := comparisons()[r.Intn(10)], r.Intn(2) == 0, someSpan(r), someSpan(r)
		var numbers []uint64
		for range 4 {
			numbers = append(numbers, someOf(r, a), someOf(r, b))
		}
		wantCutRight(t, op, yes, a, b, numbers)
	}
}

// wantGreaterOver holds what is told of spans against what is told of others that are over them.
func wantGreaterOver(t *testing.T, a, b, overA, overB api.Span) {
	t.Helper()
	for _, op := range operations() {
		if slices.Contains(shifts(), op) {
			continue
		}
		s, e := Do(op, a, b)
		over, f := Do(op, overA, overB)
		if !Under(s, over) || e != api.OK || f != api.OK {
			t.Fatalf("Do(%d): of %v, %v %v; of %v, %v %v", op, a, b, s, overA, overB, over)
		}
	}
	for _, op := range comparisons() {
		for _, yes := range []bool{true, false} {
			x, y, can, e := Cut(op, yes, a, b)
			overX, overY, overCan, f := Cut(op, yes, overA, overB)
			if e != api.OK || f != api.OK || can && !(overCan && Under(x, overX) && Under(y, overY)) {
				t.Fatalf("Cut(%d, %v): of %v, %v %v, %v, %v; of %v, %v %v, %v, %v", op, yes, a, b, x, y, can, overA, overB, overX, overY, overCan)
			}
		}
	}
}

// P15.7
func TestGreaterSpansTellGreater(t *testing.T) {
	l := spansOf([]uint64{0, 1, 2, 3, top - 1, top})
	for _, overA := range l {
		for _, overB := range l {
			for _, a := range l {
				for _, b := range l {
					if Under(a, overA) && Under(b, overB) {
						wantGreaterOver(t, a, b, overA, overB)
					}
				}
			}
		}
	}
	r := rand.New(rand.NewSource(17))
	for range 30000 {
		overA, overB := someSpan(r), someSpan(r)
		wantGreaterOver(t, someUnder(r, overA), someUnder(r, overB), overA, overB)
	}
}

func TestGreaterSpansShiftToGreater(t *testing.T) {
	l := spansOf(edges())
	for _, op := range shifts() {
		for n := range uint64(64) {
			for _, over := range l {
				for _, a := range l {
					s, e := Do(op, a, one(n))
					greater, f := Do(op, over, one(n))
					if Under(a, over) && !Under(s, greater) || e != api.OK || f != api.OK {
						t.Fatalf("Do(%d) by %d: of %v %v; of %v %v", op, n, a, s, over, greater)
					}
				}
			}
		}
	}
}

// R1, R2: whatever is handed in, each call answers, and the same again.
func TestAnswersTheSameAgain(t *testing.T) {
	l := append(wrong(), one(0), one(5), one(64), one(top), to(0, 1), to(0, top))
	for op := range 256 {
		for _, a := range l {
			for _, b := range l {
				s, e := Do(uint8(op), a, b)
				x, y, can, f := Cut(uint8(op), true, a, b)
				if again, g := Do(uint8(op), a, b); again != s || g != e {
					t.Fatalf("Do(%d, %v, %v): %v, %d, then %v, %d", op, a, b, s, e, again, g)
				}
				if ax, ay, again, g := Cut(uint8(op), true, a, b); ax != x || ay != y || again != can || g != f {
					t.Fatalf("Cut(%d, %v, %v): %v, %v, %v, %d, then %v, %v, %v, %d", op, a, b, x, y, can, f, ax, ay, again, g)
				}
			}
		}
	}
}
