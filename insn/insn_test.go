package insn

import (
	"math"
	"math/rand"
	"slices"
	"strings"
	"testing"

	"sallyport/api"
)

// between is all numbers from one to another one.
type between struct{ from, to int }

// row is a row of the chapter's table, with what the chapter says is read and written: 'd' is Dst, 's' is Src.
type row struct {
	op            uint8
	name          string
	dst, src      bool
	off, imm      []between
	reads, writes string
}

// rows is the chapter's table, by the operations' numbers.
func rows() []row {
	none := []between{{0, 0}}
	every16, every32 := []between{{math.MinInt16, math.MaxInt16}}, []between{{math.MinInt32, math.MaxInt32}}
	shifts, sizes := []between{{0, 63}}, []between{{1, 2}, {4, 4}, {8, 8}}
	slots, ways := []between{{0, 7}}, []between{{0, 255}}
	times, helpers := []between{{1, 16}}, []between{{1, 8}, {16, 23}}
	return []row{
		{1, "set", true, false, none, every32, "", "d"},
		{2, "mov", true, true, none, none, "s", "d"},
		{3, "addi", true, false, none, every32, "d", "d"},
		{4, "add", true, true, none, none, "ds", "d"},
		{5, "sub", true, true, none, none, "ds", "d"},
		{6, "muli", true, false, none, every32, "d", "d"},
		{7, "mul", true, true, none, none, "ds", "d"},
		{8, "andi", true, false, none, every32, "d", "d"},
		{9, "and", true, true, none, none, "ds", "d"},
		{10, "or", true, true, none, none, "ds", "d"},
		{11, "xor", true, true, none, none, "ds", "d"},
		{12, "shli", true, false, none, shifts, "d", "d"},
		{13, "shri", true, false, none, shifts, "d", "d"},
		{14, "data", true, false, none, none, "", "d"},
		{15, "tail", true, false, none, none, "", "d"},
		{16, "len", true, false, none, none, "", "d"},
		{17, "port", true, false, none, none, "", "d"},
		{18, "ld", true, true, every16, sizes, "s", "d"},
		{19, "st", true, true, every16, sizes, "ds", ""},
		{20, "put", false, true, slots, none, "s", ""},
		{21, "get", true, false, slots, none, "", "d"},
		{22, "jump", false, false, ways, none, "", ""},
		{23, "jeqi", true, false, ways, every32, "d", ""},
		{24, "jnei", true, false, ways, every32, "d", ""},
		{25, "jlti", true, false, ways, every32, "d", ""},
		{26, "jgei", true, false, ways, every32, "d", ""},
		{27, "jeq", true, true, ways, none, "ds", ""},
		{28, "jne", true, true, ways, none, "ds", ""},
		{29, "jlt", true, true, ways, none, "ds", ""},
		{30, "jle", true, true, ways, none, "ds", ""},
		{31, "jgt", true, true, ways, none, "ds", ""},
		{32, "jge", true, true, ways, none, "ds", ""},
		{33, "rep", false, false, none, times, "", ""},
		{34, "end", false, false, none, none, "", ""},
		{35, "call", false, false, none, helpers, "call", "call"},
		{36, "exit", false, false, none, none, "exit", ""},
	}
}

// has tells whether a number is within one of a list.
func has(l []between, n int) bool {
	return slices.ContainsFunc(l, func(b between) bool { return b.from <= n && n <= b.to })
}

// mayBe is what the chapter's table says of an instruction.
func mayBe(l []row, x api.Insn) bool {
	if x.Op < 1 || int(x.Op) > len(l) {
		return false
	}
	r := l[x.Op-1]
	return registerMay(r.dst, x.Dst) && registerMay(r.src, x.Src) && has(r.off, int(x.Off)) && has(r.imm, int(x.Imm))
}

func registerMay(named bool, n uint8) bool {
	if named {
		return n <= 9
	}
	return n == 0
}

// word is an instruction's word, by multiplying.
func word(x api.Insn) uint64 {
	off, imm := int64(x.Off), int64(x.Imm)
	if off < 0 {
		off += 1 << 16
	}
	if imm < 0 {
		imm += 1 << 32
	}
	return (((uint64(x.Op)*16+uint64(x.Dst))*16+uint64(x.Src))*65536+uint64(off))*(1<<32) + uint64(imm)
}

// unword is the instruction that a word would be, by dividing.
func unword(w uint64) api.Insn {
	off, imm := int64(w/(1<<32)%65536), int64(w%(1<<32))
	if off >= 1<<15 {
		off -= 1 << 16
	}
	if imm >= 1<<31 {
		imm -= 1 << 32
	}
	return api.Insn{Op: uint8(w / (1 << 56)), Dst: uint8(w / (1 << 52) % 16), Src: uint8(w / (1 << 48) % 16), Off: int16(off), Imm: int32(imm)}
}

// reads and writes are what the chapter's words say of an instruction that may be; writes is -1 of none.
func reads(r row, x api.Insn) []int {
	switch r.reads {
	case "exit":
		return []int{0}
	case "call":
		switch {
		case x.Imm == 1 || x.Imm == 8:
			return []int{1, 2}
		case x.Imm == 2 || x.Imm == 5 || x.Imm >= 16:
			return []int{1, 2, 3}
		}
		return []int{1}
	case "d":
		return []int{int(x.Dst)}
	case "s":
		return []int{int(x.Src)}
	case "ds":
		if x.Dst == x.Src {
			return []int{int(x.Dst)}
		}
		return []int{min(int(x.Dst), int(x.Src)), max(int(x.Dst), int(x.Src))}
	}
	return nil
}

func writes(r row, x api.Insn) int {
	switch r.writes {
	case "call":
		return 0
	case "d":
		return int(x.Dst)
	}
	return -1
}

// The numbers that are tried in each field: the edges of all operations, what is beside them, and bits high up.
func someRegisters() []uint8 { return []uint8{0, 1, 8, 9, 10, 15, 16, 25, 128, 255} }

func someOffs() []int16 {
	return []int16{math.MinInt16, -256, -8, -1, 0, 1, 6, 7, 8, 9, 254, 255, 256, 257, 4096, math.MaxInt16}
}

func someImms() []int32 {
	return []int32{math.MinInt32, -1 << 16, -64, -17, -16, -2, -1, 0, 1, 2, 3, 4, 5, 6, 7, 8, 9, 10, 15, 16, 17, 18, 22, 23, 24, 25, 31, 32, 62, 63, 64, 65, 255, 256, 257, 1 << 16, 1<<16 + 1, 1 << 24, math.MaxInt32}
}

// grid calls f with each instruction of an operation that is made of these numbers.
func grid(op uint8, f func(x api.Insn)) {
	for _, dst := range someRegisters() {
		for _, src := range someRegisters() {
			for _, off := range someOffs() {
				for _, imm := range someImms() {
					f(api.Insn{Op: op, Dst: dst, Src: src, Off: off, Imm: imm})
				}
			}
		}
	}
}

// good are instructions of each operation that may be: all of its edges.
func good() []api.Insn {
	l := rows()
	var all []api.Insn
	for op := uint8(1); op <= 36; op++ {
		grid(op, func(x api.Insn) {
			if mayBe(l, x) {
				all = append(all, x)
			}
		})
	}
	return all
}

// wantMay is what all calls say of an instruction that may be.
func wantMay(t *testing.T, r row, x api.Insn) {
	t.Helper()
	if e := Check(x); e != api.OK {
		t.Fatalf("Check of %+v: %d", x, e)
	}
	w := word(x)
	if got, e := Encode(x); got != w || e != api.OK {
		t.Fatalf("Encode of %+v: %#x, %d, not %#x", x, got, e, w)
	}
	if got, e := Decode(w); got != x || e != api.OK {
		t.Fatalf("Decode of %#x: %+v, %d, not %+v", w, got, e, x)
	}
	want := reads(r, x)
	if got := Reads(x); !slices.Equal(got, want) {
		t.Fatalf("Reads of %+v: %v, not %v", x, got, want)
	}
	to := writes(r, x)
	if n, is := Writes(x); is != (to >= 0) || n != max(to, 0) {
		t.Fatalf("Writes of %+v: %d, %v, not %d", x, n, is, to)
	}
}

// wantMayNot is what all calls say of one that may not.
func wantMayNot(t *testing.T, x api.Insn) {
	t.Helper()
	if e := Check(x); e != 130 {
		t.Fatalf("Check of %+v: %d, not ErrInsn", x, e)
	}
	if w, e := Encode(x); w != 0 || e != 130 {
		t.Fatalf("Encode of %+v: %#x, %d, not ErrInsn", x, w, e)
	}
	if l := Reads(x); len(l) != 0 {
		t.Fatalf("Reads of %+v: %v, not none", x, l)
	}
	if n, is := Writes(x); n != 0 || is {
		t.Fatalf("Writes of %+v: %d, %v, not none", x, n, is)
	}
}

func wantNoWord(t *testing.T, w uint64) {
	t.Helper()
	if x, e := Decode(w); x != (api.Insn{}) || e != 130 {
		t.Fatalf("Decode of %#x: %+v, %d, not ErrInsn", w, x, e)
	}
}

// wantAs is what all calls say of an instruction, as the table has it.
func wantAs(t *testing.T, l []row, x api.Insn) {
	t.Helper()
	if mayBe(l, x) {
		wantMay(t, l[x.Op-1], x)
	} else {
		wantMayNot(t, x)
	}
}

func TestTheTable(t *testing.T) {
	for i, r := range rows() {
		if int(r.op) != i+1 {
			t.Errorf("row %d is %d", i+1, r.op)
		}
	}
	if len(rows()) != api.LastOp || api.ErrInsn != 130 || api.MaxRep != 16 {
		t.Errorf("the chapter's table has other numbers than api")
	}
}

// P13.1: the chapter's examples of words.
func TestExamplesOfWords(t *testing.T) {
	for _, c := range []struct {
		x api.Insn
		w uint64
	}{
		{api.Insn{Op: api.OpSet, Dst: 3, Imm: -1}, 0x01300000ffffffff},
		{api.Insn{Op: api.OpLd, Dst: 2, Src: 7, Off: 14, Imm: 2}, 0x1227000e00000002},
		{api.Insn{Op: api.OpJump, Off: 255}, 0x160000ff00000000},
		{api.Insn{Op: api.OpRep, Imm: 16}, 0x2100000000000010},
		{api.Insn{Op: api.OpCall, Imm: 23}, 0x2300000000000017},
		{api.Insn{Op: api.OpExit}, 0x2400000000000000},
		{api.Insn{Op: api.OpSet, Dst: 3}, 0x0130000000000000},
		// And fields whose highest bits stand.
		{api.Insn{Op: api.OpLd, Dst: 9, Src: 1, Off: -1, Imm: 8}, 0x1291ffff00000008},
		{api.Insn{Op: api.OpSt, Dst: 1, Src: 9, Off: math.MinInt16, Imm: 1}, 0x1319800000000001},
		{api.Insn{Op: api.OpJgeI, Dst: 9, Off: 1, Imm: math.MinInt32}, 0x1a90000180000000},
		{api.Insn{Op: api.OpAndI, Imm: -2}, 0x08000000fffffffe},
	} {
		if e := Check(c.x); e != api.OK {
			t.Errorf("Check of %+v: %d", c.x, e)
		}
		if w, e := Encode(c.x); w != c.w || e != api.OK {
			t.Errorf("Encode of %+v: %#x, %d, not %#x", c.x, w, e, c.w)
		}
		if x, e := Decode(c.w); x != c.x || e != api.OK {
			t.Errorf("Decode of %#x: %+v, %d, not %+v", c.w, x, e, c.x)
		}
	}
}

// P13.1: the chapter's examples of what may not be.
func TestExamplesOfErrors(t *testing.T) {
	for _, x := range []api.Insn{
		{Op: api.OpSet, Dst: 10, Imm: 1},
		{Op: api.OpMov, Imm: 1},
		{Op: api.OpShlI, Imm: 64},
		{Op: api.OpLd, Imm: 3},
		{Op: api.OpPut, Off: 8},
		{Op: api.OpJump, Off: -1},
		{Op: api.OpRep},
		{Op: api.OpRep, Imm: 17},
		{Op: api.OpCall, Imm: 9},
		{Op: api.OpCall, Imm: 24},
		{Op: 0},
		{Op: 37},
	} {
		wantMayNot(t, x)
	}
	for _, w := range []uint64{0x0100000100000000, 0x0101000000000000, 0} {
		wantNoWord(t, w)
	}
}

// P13.2, P13.3: the chapter's examples of registers and names.
func TestExamplesOfRegistersAndNames(t *testing.T) {
	for _, c := range []struct {
		x    api.Insn
		want []int
	}{
		{api.Insn{Op: api.OpSub, Dst: 4, Src: 4}, []int{4}},
		{api.Insn{Op: api.OpSt, Dst: 2, Src: 1, Imm: 4}, []int{1, 2}},
		{api.Insn{Op: api.OpCall, Imm: 3}, []int{1}},
		{api.Insn{Op: api.OpCall, Imm: 20}, []int{1, 2, 3}},
		{api.Insn{Op: api.OpExit}, []int{0}},
		{api.Insn{Op: api.OpGet, Dst: 5}, nil},
	} {
		if got := Reads(c.x); !slices.Equal(got, c.want) {
			t.Errorf("Reads of %+v: %v, not %v", c.x, got, c.want)
		}
	}
	for _, c := range []struct {
		x  api.Insn
		n  int
		is bool
	}{
		{api.Insn{Op: api.OpLd, Dst: 2, Src: 7, Imm: 4}, 2, true},
		{api.Insn{Op: api.OpSt, Dst: 2, Src: 1, Imm: 4}, 0, false},
		{api.Insn{Op: api.OpCall, Imm: 1}, 0, true},
		{api.Insn{Op: api.OpJeq, Dst: 1, Src: 2}, 0, false},
	} {
		if n, is := Writes(c.x); n != c.n || is != c.is {
			t.Errorf("Writes of %+v: %d, %v, not %d, %v", c.x, n, is, c.n, c.is)
		}
	}
	if name := Name(36); name != "exit" {
		t.Errorf("Name of 36: %q", name)
	}
	if op, is := Op("jgt"); op != 31 || !is {
		t.Errorf("Op of jgt: %d, %v", op, is)
	}
	if op, is := Op("Jgt"); op != 0 || is {
		t.Errorf("Op of Jgt: %d, %v", op, is)
	}
}

// P13.1, P13.2: each operation's fields, each edge with each other one.
func TestEachOperation(t *testing.T) {
	l := rows()
	for op := uint8(1); op <= 36; op++ {
		n := 0
		grid(op, func(x api.Insn) {
			wantAs(t, l, x)
			if mayBe(l, x) {
				n++
			}
		})
		if n == 0 {
			t.Errorf("none of the operation %d was tried that may be", op)
		}
	}
}

// P13.1, P13.2: there is no operation 0, none from 37 on, whatever stands in the fields.
func TestNoOperation(t *testing.T) {
	for op := range 256 {
		if op >= 1 && op <= 36 {
			continue
		}
		for _, dst := range []uint8{0, 1, 9, 10} {
			for _, imm := range []int32{-1, 0, 1, 2, 16} {
				x := api.Insn{Op: uint8(op), Dst: dst, Src: dst, Imm: imm}
				wantMayNot(t, x)
				wantNoWord(t, word(x))
			}
		}
		wantMayNot(t, api.Insn{Op: uint8(op)})
		wantNoWord(t, uint64(op)<<56)
		wantNoWord(t, uint64(op)<<56|1<<56-1)
	}
}

// P13.1: all numbers of each field, one field at a time, the others as they may be.
func TestAllNumbersOfEachField(t *testing.T) {
	l := rows()
	for _, r := range l {
		base := api.Insn{Op: r.op, Imm: int32(r.imm[0].from)}
		for n := range 256 {
			x, y := base, base
			x.Dst, y.Src = uint8(n), uint8(n)
			wantAs(t, l, x)
			wantAs(t, l, y)
		}
		for n := math.MinInt16; n <= math.MaxInt16; n++ {
			x := base
			x.Off = int16(n)
			wantAs(t, l, x)
		}
		for n := -70000; n <= 70000; n++ {
			x := base
			x.Imm = int32(n)
			wantAs(t, l, x)
		}
	}
}

// P13.1: what is not named may have no bit.
func TestWhatIsNotNamedIsZero(t *testing.T) {
	l := rows()
	tried := 0
	for _, x := range good() {
		r := l[x.Op-1]
		for bit := range 32 {
			y := x
			switch {
			case bit < 8 && !r.dst:
				y.Dst = 1 << bit
			case bit >= 8 && bit < 16 && !r.src:
				y.Src = 1 << (bit - 8)
			case bit >= 16 && has(r.off, 0) && !has(r.off, 1):
				y.Off = int16(uint16(1) << (bit - 16))
			}
			if y != x {
				tried++
				wantMayNot(t, y)
			}
			if has(r.imm, 0) && !has(r.imm, 1) {
				y = x
				y.Imm = int32(uint32(1) << bit)
				tried++
				wantMayNot(t, y)
			}
		}
	}
	if tried == 0 {
		t.Errorf("nothing was tried")
	}
}

// P13.1, P13.4: a word is read just if it is one of an instruction that may be; what is read has that word.
func TestDecodeOfAnyWord(t *testing.T) {
	l := rows()
	r := rand.New(rand.NewSource(13))
	read := 0
	for range 2000000 {
		w := r.Uint64() & r.Uint64() & r.Uint64()
		w = w&(1<<56-1) | uint64(r.Intn(40))<<56
		switch r.Intn(4) {
		case 0:
			w &^= 0xffff << 32
		case 1:
			w &^= 0xffffff00
		case 2:
			w &^= 0xffffffffffff
		}
		if wantDecode(t, l, w) {
			read++
		}
	}
	if read < 10000 {
		t.Errorf("only %d words were read", read)
	}
	for range 100000 {
		wantDecode(t, l, r.Uint64())
	}
}

// wantDecode tells whether it was read.
func wantDecode(t *testing.T, l []row, w uint64) bool {
	t.Helper()
	want := unword(w)
	if !mayBe(l, want) {
		wantNoWord(t, w)
		return false
	}
	x, e := Decode(w)
	if x != want || e != api.OK {
		t.Fatalf("Decode of %#x: %+v, %d, not %+v", w, x, e, want)
	}
	if back, e := Encode(x); back != w || e != api.OK {
		t.Fatalf("Encode of %+v: %#x, %d, not %#x", x, back, e, w)
	}
	return true
}

// P13.1: the numbers of registers that a word can have beyond the registers are none.
func TestDecodeOfRegistersBeyond(t *testing.T) {
	for _, x := range good() {
		w := word(x)
		for n := uint64(10); n < 16; n++ {
			wantNoWord(t, w&^(15<<52)|n<<52)
			wantNoWord(t, w&^(15<<48)|n<<48)
		}
	}
}

// P13.4: of a word one bit of which is turned another instruction is read, or none.
func TestDecodeOfTurnedBits(t *testing.T) {
	l := rows()
	for _, x := range good() {
		w, e := Encode(x)
		if e != api.OK {
			t.Fatalf("Encode of %+v: %d", x, e)
		}
		for bit := range 64 {
			y, e := Decode(w ^ 1<<bit)
			if e == api.OK && y == x {
				t.Fatalf("%+v is read of %#x with bit %d turned, too", x, w, bit)
			}
			wantDecode(t, l, w^1<<bit)
		}
	}
}

// P13.4: two instructions have two words, and each word leads back.
func TestTwoWords(t *testing.T) {
	whose := map[uint64]api.Insn{}
	for _, x := range good() {
		w, e := Encode(x)
		if e != api.OK {
			t.Fatalf("Encode of %+v: %d", x, e)
		}
		if y, ok := whose[w]; ok {
			t.Fatalf("%+v and %+v both have %#x", x, y, w)
		}
		whose[w] = x
		if y, e := Decode(w); y != x || e != api.OK {
			t.Fatalf("Decode of the word of %+v: %+v, %d", x, y, e)
		}
	}
}

// P13.2: how many registers each helper reads; all write register 0.
func TestCallsOfEachHelper(t *testing.T) {
	want := map[int32][]int{
		1: {1, 2}, 2: {1, 2, 3}, 3: {1}, 4: {1}, 5: {1, 2, 3}, 6: {1}, 7: {1}, 8: {1, 2},
		16: {1, 2, 3}, 17: {1, 2, 3}, 18: {1, 2, 3}, 19: {1, 2, 3}, 20: {1, 2, 3}, 21: {1, 2, 3}, 22: {1, 2, 3}, 23: {1, 2, 3},
	}
	for help := int32(-300); help <= 300; help++ {
		x := api.Insn{Op: api.OpCall, Imm: help}
		l, ok := want[help]
		if !ok {
			wantMayNot(t, x)
			continue
		}
		if got := Reads(x); !slices.Equal(got, l) {
			t.Errorf("Reads of call %d: %v, not %v", help, got, l)
		}
		if n, is := Writes(x); n != 0 || !is {
			t.Errorf("Writes of call %d: %d, %v", help, n, is)
		}
	}
}

// P13.2, P13.5: each pair of registers: rising, each once, from 0 to 9.
func TestEachPairOfRegisters(t *testing.T) {
	l := rows()
	for _, r := range l {
		for dst := range uint8(11) {
			for src := range uint8(11) {
				x := api.Insn{Op: r.op, Dst: dst, Src: src, Imm: int32(r.imm[0].from)}
				wantAs(t, l, x)
				wantRegisters(t, x)
			}
		}
	}
}

// P13.5: whatever stands in the fields.
func TestRegistersOfAnyInsn(t *testing.T) {
	r := rand.New(rand.NewSource(135))
	for range 300000 {
		x := api.Insn{Op: uint8(r.Intn(40)), Dst: uint8(r.Intn(12)), Src: uint8(r.Intn(12)), Off: int16(r.Intn(3) - 1), Imm: int32(r.Intn(26) - 1)}
		wantRegisters(t, x)
		wantRegisters(t, api.Insn{Op: x.Op, Dst: uint8(r.Intn(256)), Src: uint8(r.Intn(256)), Off: int16(r.Uint32()), Imm: int32(r.Uint32())})
		wantRegisters(t, api.Insn{Op: uint8(r.Intn(256)), Dst: x.Dst, Src: x.Src, Imm: x.Imm})
	}
}

func wantRegisters(t *testing.T, x api.Insn) {
	t.Helper()
	last := -1
	for _, n := range Reads(x) {
		if n <= last || n > 9 {
			t.Fatalf("Reads of %+v: %v", x, Reads(x))
		}
		last = n
	}
	if n, _ := Writes(x); n < 0 || n > 9 {
		t.Fatalf("Writes of %+v: %d", x, n)
	}
}

// Memory: each list that is answered is a new one.
func TestReadsAnswersNewMemory(t *testing.T) {
	l := rows()
	for _, x := range good() {
		first, second := Reads(x), Reads(x)
		for i := range first {
			first[i] = 77
		}
		_ = append(first, 78, 79, 80)
		if want := reads(l[x.Op-1], x); !slices.Equal(second, want) || !slices.Equal(Reads(x), want) {
			t.Fatalf("Reads of %+v became %v", x, second)
		}
	}
}

// P13.3: each operation has its name, and no other number has one.
func TestNames(t *testing.T) {
	l := rows()
	for op := range 256 {
		want := ""
		if op >= 1 && op <= 36 {
			want = l[op-1].name
		}
		if got := Name(uint8(op)); got != want {
			t.Errorf("Name of %d: %q, not %q", op, got, want)
		}
		if want == "" {
			continue
		}
		if got, is := Op(want); int(got) != op || !is {
			t.Errorf("Op of %q: %d, %v, not %d", want, got, is, op)
		}
	}
}

// P13.3: names that are none: a letter more, fewer, or another one; texts of all kinds.
func TestNoNames(t *testing.T) {
	names := map[string]bool{}
	for _, r := range rows() {
		names[r.name] = true
	}
	tries := []string{"", " ", "0", "1", "36", "nop", "ret", "div", "neg", "addl", "subi", "ori", "xori", "shl", "shr", "jlei", "jgti", "loop", "halt", "OpSet", "opset", "set\x00", "\xff", "\xff\xfe", "é", "set mov", strings.Repeat("a", 1<<18), strings.Repeat("set", 100)}
	for name := range names {
		tries = append(tries, strings.ToUpper(name), strings.ToUpper(name[:1])+name[1:], name+" ", " "+name, name+"\n", name+name, "Op"+name)
		for i := range len(name) {
			tries = append(tries, name[:i], name[i+1:], name[:i]+name[i+1:])
			for c := range 256 {
				tries = append(tries, name[:i]+string([]byte{byte(c)})+name[i+1:], name[:i]+string([]byte{byte(c)})+name[i:])
			}
		}
	}
	for _, name := range tries {
		if names[name] {
			continue
		}
		if op, is := Op(name); op != 0 || is {
			t.Errorf("Op of %q: %d, %v, not none", name, op, is)
		}
	}
}

// R2: what is answered hangs on the arguments alone, however often it is asked.
func TestAnswersTheSameAgain(t *testing.T) {
	for op := range uint8(40) {
		name := Name(op)
		for range 50 {
			if again := Name(op); again != name {
				t.Fatalf("Name of %d: %q, and then %q", op, name, again)
			}
		}
	}
}
