package sums

import (
	"bytes"
	"math/rand"
	"testing"

	"sallyport/api"
)

// edges are the sums at which adding changes its ways.
var edges = []uint16{0, 1, 2, 3, 20, 40, 255, 256, 257, 32767, 32768, 32769, 40000, 47851, 65279, 65280, 65533, 65534, 65535}

// slowSum adds one number at a time, and puts back one carry at a time, as the document's words go.
func slowSum(b []byte) uint16 {
	padded := append(append([]byte{}, b...), make([]byte, len(b)%2)...)
	sum := 0
	for len(padded) > 0 {
		sum += int(padded[0])*256 + int(padded[1])
		if sum > 65535 {
			sum -= 65535
		}
		padded = padded[2:]
	}
	return uint16(sum)
}

// someBytes are the same bytes in every run.
func someBytes(r *rand.Rand, n int) []byte {
	b := make([]byte, n)
	for i := range b {
		switch r.Intn(4) {
		case 0:
			b[i] = 255
		case 1:
			b[i] = 0
		default:
			b[i] = byte(r.Intn(256))
		}
	}
	return b
}

func repeated(b byte, n int) []byte { return bytes.Repeat([]byte{b}, n) }

// P1.1: the chapter's examples, and the edges by hand.
func TestSumAndField(t *testing.T) {
	for _, x := range []struct {
		name string
		b    []byte
		want uint16
	}{
		{"nil", nil, 0},
		{"none", []byte{}, 0},
		{"two", []byte{1, 2}, 258},
		{"a last byte alone is the high one", []byte{1, 2, 3}, 1026},
		{"one byte", []byte{7}, 1792},
		{"one byte 255", []byte{255}, 65280},
		{"the greatest number", []byte{255, 255}, 65535},
		{"beyond by one", []byte{255, 255, 0, 1}, 1},
		{"65535 twice", []byte{255, 255, 255, 255}, 65535},
		{"exactly 65536", []byte{128, 0, 128, 0}, 1},
		{"beyond a second time", []byte{255, 255, 255, 255, 0, 1}, 1},
		{"beyond, with a last byte alone", []byte{255, 255, 255}, 65280},
		{"a header's beginning", []byte{0x45, 0, 0, 0x14}, 17684},
		{"zeros", repeated(0, 9), 0},
		{"a packet of 255", repeated(255, api.MaxPacket), 65535},
		{"a packet of 1", repeated(1, api.MaxPacket), 257 * 1024 % 65535},
		{"a total beyond 32 bits", repeated(255, 2*65538), 65535},
		{"a total beyond 32 bits, and an odd byte", append(repeated(255, 2*65540), 1), 256},
	} {
		if got := Sum(x.b); got != x.want {
			t.Errorf("Sum, %s: %d, not %d", x.name, got, x.want)
		}
		if got := Field(x.b); got != 65535-x.want {
			t.Errorf("Field, %s: %d, not %d", x.name, got, 65535-x.want)
		}
	}
	if Field(nil) != 65535 || Field([]byte{255, 255}) != 0 || Field([]byte{0x45, 0, 0, 0x14}) != 47851 {
		t.Error("Field: the chapter's examples")
	}
}

// P1.1: every list of up to three bytes out of a few, and longer ones of all lengths.
func TestSumAsTheWordsGo(t *testing.T) {
	check := func(b []byte) {
		t.Helper()
		if got, want := Sum(b), slowSum(b); got != want {
			t.Errorf("Sum(%v) = %d, not %d", b, got, want)
		}
	}
	for i := range 256 {
		check([]byte{byte(i)})
		for j := range 256 {
			check([]byte{byte(i), byte(j)})
			check([]byte{255, 255, byte(i), byte(j), 255})
		}
	}
	r := rand.New(rand.NewSource(1))
	for n := range 700 {
		check(someBytes(r, n))
	}
	check(someBytes(r, api.MaxPacket))
	check(someBytes(r, 1<<20+1))
}

// P1.2.
func TestAdd(t *testing.T) {
	for _, x := range [][3]uint16{
		{65535, 1, 1}, {1, 65535, 1}, {65535, 65535, 65535}, {0, 0, 0}, {65535, 0, 65535}, {0, 65535, 65535},
		{65534, 1, 65535}, {65534, 2, 1}, {32768, 32767, 65535}, {32768, 32768, 1}, {40000, 40000, 14465}, {3, 4, 7},
	} {
		if got := Add(x[0], x[1]); got != x[2] {
			t.Errorf("Add(%d, %d) = %d, not %d", x[0], x[1], got, x[2])
		}
	}
	for _, a := range edges {
		for b := range 65536 {
			want := int(a) + b
			if want > 65535 {
				want -= 65535
			}
			if got := Add(a, uint16(b)); int(got) != want {
				t.Fatalf("Add(%d, %d) = %d, not %d", a, b, got, want)
			}
		}
	}
}

// P1.2.
func TestSub(t *testing.T) {
	for _, x := range [][3]uint16{
		{3, 5, 65533}, {5, 5, 65535}, {5, 3, 2}, {0, 0, 65535}, {0, 65535, 0}, {65535, 0, 65535},
		{65535, 65535, 65535}, {0, 1, 65534}, {1, 0, 1}, {65535, 1, 65534}, {1, 65535, 1},
	} {
		if got := Sub(x[0], x[1]); got != x[2] {
			t.Errorf("Sub(%d, %d) = %d, not %d", x[0], x[1], got, x[2])
		}
	}
	for _, a := range edges {
		for _, b := range edges {
			if got := Sub(a, b); got != Add(a, 65535-b) || !Same(Add(got, b), a) {
				t.Errorf("Sub(%d, %d) = %d", a, b, got)
			}
		}
	}
}

// P1.2.
func TestSame(t *testing.T) {
	if !Same(0, 65535) || !Same(65535, 0) || !Same(0, 0) || !Same(65535, 65535) {
		t.Error("0 and 65535 are the same")
	}
	for _, a := range edges {
		for b := range 65536 {
			want := int(a) == b || int(a)+b == 65535 && (a == 0 || b == 0)
			if got := Same(a, uint16(b)); got != want {
				t.Fatalf("Same(%d, %d) = %v", a, b, got)
			}
		}
	}
}

// P1.3.
func TestDiff(t *testing.T) {
	for _, x := range []struct {
		old, now []byte
		want     uint16
	}{
		{[]byte{0, 1}, []byte{0, 3}, 2},
		{[]byte{0, 3}, []byte{0, 1}, 65533},
		{[]byte{0, 3}, []byte{0, 3}, 65535},
		{nil, nil, 65535},
		{nil, []byte{}, 65535},
		{[]byte{255, 255}, []byte{0, 0}, 0},
		{[]byte{0, 0}, []byte{255, 255}, 65535},
		{[]byte{0, 1, 0, 2}, []byte{1, 0, 255, 255}, 253},
	} {
		if got, e := Diff(x.old, x.now); got != x.want || e != api.OK {
			t.Errorf("Diff(%v, %v) = %d, %d, not %d", x.old, x.now, got, e, x.want)
		}
	}
	r := rand.New(rand.NewSource(3))
	for n := range 200 {
		old, now := someBytes(r, 2*n), someBytes(r, 2*n)
		got, e := Diff(old, now)
		if e != api.OK || got != Sub(slowSum(now), slowSum(old)) || !Same(Add(Sum(old), got), Sum(now)) {
			t.Errorf("Diff(%v, %v) = %d, %d", old, now, got, e)
		}
	}
}

// P1.3: every pair of lengths that is not right, and none beside.
func TestDiffRefuses(t *testing.T) {
	if _, e := Diff([]byte{10}, []byte{11}); e != api.ErrArg {
		t.Errorf("an odd number: %d", e)
	}
	for m := range 9 {
		for n := range 9 {
			got, e := Diff(repeated(1, m), repeated(2, n))
			if m == n && m%2 == 0 {
				if e != api.OK {
					t.Errorf("%d and %d bytes: %d", m, n, e)
				}
			} else if e != api.ErrArg || got != 0 {
				t.Errorf("%d and %d bytes: %d, %d", m, n, got, e)
			}
		}
	}
}

// P1.3.
func TestUpdate(t *testing.T) {
	for _, x := range [][4]uint16{
		{47851, 20, 40, 47831}, {0, 0, 0, 0}, {65535, 0, 0, 0}, {0, 1, 1, 0}, {65535, 0, 65535, 0},
		{65535, 65535, 0, 65535}, {1, 0, 1, 0}, {1, 0, 2, 65534}, {100, 7, 7, 100}, {40, 5, 3, 42},
	} {
		if got := Update(x[0], x[1], x[2]); got != x[3] {
			t.Errorf("Update(%d, %d, %d) = %d, not %d", x[0], x[1], x[2], got, x[3])
		}
	}
	for _, field := range edges {
		for _, old := range edges {
			for _, now := range edges {
				want := 65535 - Add(Add(65535-field, 65535-old), now)
				if got := Update(field, old, now); got != want {
					t.Errorf("Update(%d, %d, %d) = %d, not %d", field, old, now, got, want)
				}
			}
		}
	}
}

// P1.4: neither the bytes nor the spare room behind them change, nor does it tell on what is answered.
func TestOnlyRead(t *testing.T) {
	for n := range 12 {
		room := repeated(0xa5, 24)
		kept := bytes.Clone(room)
		b, exact := room[4:4+n], repeated(0xa5, n)
		if Sum(b) != Sum(exact) || Field(b) != Field(exact) {
			t.Errorf("%d bytes: the spare room counts", n)
		}
		if _, e := Diff(b, b); (e == api.OK) != (n%2 == 0) {
			t.Errorf("%d bytes against themselves: %d", n, e)
		}
		if _, e := Diff(b, room[5:5+n]); (e == api.OK) != (n%2 == 0) {
			t.Errorf("%d bytes against some that share memory: %d", n, e)
		}
		if !bytes.Equal(room, kept) {
			t.Errorf("%d bytes: what was handed in changed: %v", n, room)
		}
	}
}

// P1.5: a sum is 0 just if all bytes are.
func TestZeroJustOfZeros(t *testing.T) {
	for n := range 40 {
		b := make([]byte, n)
		if Sum(b) != 0 {
			t.Errorf("%d zeros: %d", n, Sum(b))
		}
		for i := range b {
			for _, v := range []byte{1, 128, 255} {
				b[i] = v
				if Sum(b) == 0 {
					t.Errorf("%v: 0", b)
				}
			}
			b[i] = 0
		}
	}
	if Sum([]byte{0, 1, 255, 254}) != 65535 {
		t.Error("a total of 65535 is not 0")
	}
}

// P1.5: Add in either order and in any brackets.
func TestAddAnyOrder(t *testing.T) {
	for _, a := range edges {
		for _, b := range edges {
			if Add(a, b) != Add(b, a) {
				t.Errorf("Add(%d, %d): the order tells", a, b)
			}
			for _, c := range edges {
				if Add(Add(a, b), c) != Add(a, Add(b, c)) {
					t.Errorf("%d, %d, %d: the brackets tell", a, b, c)
				}
			}
		}
	}
}

// P1.5: a sum is that of its pieces, wherever it is cut.
func TestPieces(t *testing.T) {
	r := rand.New(rand.NewSource(5))
	for n := range 70 {
		b := someBytes(r, n)
		for cut := range n + 1 {
			first, rest := Sum(b[:cut]), Sum(b[cut:])
			if cut%2 == 1 {
				rest = rest<<8 | rest>>8
			}
			if Add(first, rest) != Sum(b) {
				t.Errorf("%v cut at %d: %d, not %d", b, cut, Add(first, rest), Sum(b))
			}
		}
	}
}

// P1.5: bytes with their field behind them.
func TestFieldBehind(t *testing.T) {
	r := rand.New(rand.NewSource(6))
	for n := range 200 {
		for _, b := range [][]byte{someBytes(r, 2*n), make([]byte, 2*n), repeated(255, 2*n)} {
			f := Field(b)
			if s := Sum(append(b, byte(f>>8), byte(f))); !Same(s, 0) {
				t.Errorf("%d bytes with their field: %d", 2*n, s)
			}
		}
	}
}

func putAt(b []byte, at int, v uint16) { b[at], b[at+1] = byte(v>>8), byte(v) }
func getAt(b []byte, at int) uint16    { return uint16(b[at])<<8 | uint16(b[at+1]) }

// P1.6: two bytes become others, and the field that is Updated by that keeps the sum.
func TestUpdateKeepsTheSum(t *testing.T) {
	r := rand.New(rand.NewSource(7))
	for n := 4; n < 24; n++ {
		for field := 0; field+1 < n; field += 2 {
			for place := 0; place+1 < n; place += 2 {
				if place == field {
					continue
				}
				b := someBytes(r, n)
				for _, now := range edges {
					before, others := Sum(b), bytes.Clone(b)
					u := Update(getAt(b, field), getAt(b, place), now)
					putAt(b, place, now)
					putAt(b, field, u)
					if !Same(Sum(b), before) {
						t.Fatalf("%v became %v: %d, not %d", others, b, Sum(b), before)
					}
				}
			}
		}
	}
}

// P1.6: a field that was right stays right.
func TestUpdateKeepsAFieldRight(t *testing.T) {
	for _, old := range edges {
		for _, now := range edges {
			b := make([]byte, 20)
			b[0], b[3] = 0x45, 0x14
			putAt(b, 6, old)
			putAt(b, 10, Field(b))
			u := Update(getAt(b, 10), old, now)
			putAt(b, 6, now)
			putAt(b, 10, u)
			if !Same(Sum(b), 0) {
				t.Errorf("from %d to %d: %d", old, now, Sum(b))
			}
		}
	}
}
