package state

import (
	"fmt"
	"math"
	"math/rand"
	"slices"
	"testing"

	"sallyport/api"
)

func nothing() api.Value { return api.Value{} }

func num(from, to uint64) api.Value {
	return api.Value{Kind: api.KindNum, Num: api.Span{Min: from, Max: to}}
}

func at(id, off int) api.Value { return api.Value{Kind: api.KindPkt, Id: id, Off: off} }

func end() api.Value { return api.Value{Kind: api.KindEnd} }

// known is a list of pointers' numbers and their bytes, one behind the other.
func known(numbers ...int) []api.Known {
	var l []api.Known
	for i := 0; i < len(numbers); i += 2 {
		l = append(l, api.Known{Id: numbers[i], Bytes: numbers[i+1]})
	}
	return l
}

// whole is a list of all pointers.
func whole(n int) []api.Known {
	var l []api.Known
	for id := range api.MaxCode + 1 {
		l = append(l, api.Known{Id: id, Bytes: n})
	}
	return l
}

// first is a state whose registers begin with these values.
func first(l ...api.Value) api.State {
	var s api.State
	copy(s.Regs[:], l)
	return s
}

func withReg(s api.State, i int, v api.Value) api.State {
	s.Regs[i] = v
	return s
}

func withSlot(s api.State, i int, n api.Span) api.State {
	s.Slots[i] = n
	return s
}

func withKnown(s api.State, l []api.Known) api.State {
	s.Known = l
	return s
}

// full has something in each register and each slot, and knows something.
func full() api.State {
	s := first(num(1, 4), at(0, 4), end(), num(7, 7), nothing(), at(9, 2), num(0, math.MaxUint64), at(256, 2048), end(), at(9, 0))
	for i := range s.Slots {
		s.Slots[i] = api.Span{Min: uint64(i), Max: uint64(3 * i)}
	}
	s.Known = known(0, 14, 9, 3, 256, 2048)
	return s
}

// goodValues may be; badValues may not.
func goodValues() []api.Value {
	return []api.Value{
		nothing(), end(),
		num(0, 0), num(5, 5), num(0, 1), num(3, 900), num(0, math.MaxUint64), num(math.MaxUint64, math.MaxUint64), num(math.MaxUint64-1, math.MaxUint64), num(1<<63, 1<<63+1),
		at(0, 0), at(0, 1), at(0, 2048), at(1, 0), at(7, 12), at(255, 2047), at(256, 0), at(256, 2048),
	}
}

func badValues() []api.Value {
	return []api.Value{
		// Kinds that are none.
		{Kind: 4}, {Kind: 5}, {Kind: 128}, {Kind: 255}, {Kind: 4, Num: api.Span{Min: 1, Max: 1}}, {Kind: 6, Id: 1, Off: 1},
		// Nothing, and something left.
		{Id: 1}, {Id: -1}, {Off: 1}, {Off: -1}, {Num: api.Span{Max: 1}}, {Num: api.Span{Min: 1}}, {Num: api.Span{Min: 1, Max: 1}}, {Id: 7, Off: 4},
		// The end, likewise.
		{Kind: api.KindEnd, Id: 1}, {Kind: api.KindEnd, Id: -1}, {Kind: api.KindEnd, Off: 1}, {Kind: api.KindEnd, Off: -1}, {Kind: api.KindEnd, Num: api.Span{Max: 1}}, {Kind: api.KindEnd, Num: api.Span{Min: 1}}, {Kind: api.KindEnd, Num: api.Span{Min: 1, Max: 1}},
		// Numbers.
		num(1, 0), num(5, 4), num(math.MaxUint64, 0), num(math.MaxUint64, math.MaxUint64-1), num(1<<63, 1<<63-1),
		{Kind: api.KindNum, Id: 1}, {Kind: api.KindNum, Id: -1}, {Kind: api.KindNum, Off: 1}, {Kind: api.KindNum, Off: -1}, {Kind: api.KindNum, Num: api.Span{Min: 3, Max: 4}, Id: 1}, {Kind: api.KindNum, Num: api.Span{Min: 3, Max: 4}, Off: 1},
		// Pointers.
		at(-1, 0), at(math.MinInt, 0), at(257, 0), at(math.MaxInt, 0), at(0, -1), at(7, math.MinInt), at(0, 2049), at(7, math.MaxInt), at(257, 2049), at(256+1<<32, 0),
		{Kind: api.KindPkt, Num: api.Span{Max: 1}}, {Kind: api.KindPkt, Num: api.Span{Min: 1}}, {Kind: api.KindPkt, Id: 7, Off: 4, Num: api.Span{Min: 1, Max: 1}},
	}
}

// badLists are not in their one form.
func badLists() [][]api.Known {
	return [][]api.Known{
		known(7, 4, 0, 14), known(0, 1, 7, 4, 6, 14), known(7, 4, 7, 4), known(0, 1, 0, 2),
		known(-1, 4), known(math.MinInt, 4), known(257, 4), known(0, 14, 257, 1), known(math.MaxInt, 4),
		known(0, 0), known(0, 14, 7, 0), known(0, -1), known(0, 2049), known(0, 14, 7, math.MaxInt), known(0, math.MinInt),
		append(whole(1), known(257, 1)...), append(whole(1), known(256, 1)...), slices.Repeat(known(0, 1), 999),
	}
}

// goodStates may be: Start, each value in each register, each slot and list.
func goodStates() []api.State {
	l := []api.State{Start(), {}, full(), withKnown(full(), nil), withKnown(Start(), known())}
	for i := range api.Registers {
		for _, v := range goodValues() {
			l = append(l, withReg(Start(), i, v), withReg(full(), i, v))
		}
	}
	for i := range api.Scratch {
		for _, v := range goodValues() {
			if v.Kind == api.KindNum {
				l = append(l, withSlot(Start(), i, v.Num), withSlot(full(), i, v.Num))
			}
		}
	}
	for _, k := range [][]api.Known{known(0, 1), known(0, 2048), known(256, 1), known(256, 2048), known(0, 14, 7, 4), whole(1), whole(2048), whole(9)[1:]} {
		l = append(l, withKnown(Start(), k), withKnown(full(), k))
	}
	return l
}

// badStates may not be: each has one thing that may not, with a name.
func badStates() map[string]api.State {
	m := map[string]api.State{}
	for i := range api.Registers {
		for j, v := range badValues() {
			m[fmt.Sprintf("register %d: value %d, all else full", i, j)] = withReg(full(), i, v)
			m[fmt.Sprintf("register %d: value %d, all else as at the start", i, j)] = withReg(Start(), i, v)
		}
	}
	for i := range api.Scratch {
		for j, n := range []api.Span{{Min: 1}, {Min: 5, Max: 4}, {Min: math.MaxUint64}, {Min: math.MaxUint64, Max: math.MaxUint64 - 1}} {
			m[fmt.Sprintf("slot %d: span %d, all else full", i, j)] = withSlot(full(), i, n)
			m[fmt.Sprintf("slot %d: span %d, all else as at the start", i, j)] = withSlot(Start(), i, n)
		}
	}
	for j, l := range badLists() {
		m[fmt.Sprintf("list %d, all else full", j)] = withKnown(full(), l)
		m[fmt.Sprintf("list %d, all else as at the start", j)] = withKnown(Start(), l)
	}
	return m
}

// equal goes through two states element by element.
func equal(a, b api.State) bool {
	for i := range a.Regs {
		v, w := a.Regs[i], b.Regs[i]
		if v.Kind != w.Kind || v.Num.Min != w.Num.Min || v.Num.Max != w.Num.Max || v.Id != w.Id || v.Off != w.Off {
			return false
		}
	}
	for i := range a.Slots {
		if a.Slots[i].Min != b.Slots[i].Min || a.Slots[i].Max != b.Slots[i].Max {
			return false
		}
	}
	if len(a.Known) != len(b.Known) {
		return false
	}
	for i := range a.Known {
		if a.Known[i].Id != b.Known[i].Id || a.Known[i].Bytes != b.Known[i].Bytes {
			return false
		}
	}
	return true
}

// wantState holds what a call answered against what it should have; what is told may be.
func wantState(t *testing.T, what string, s api.State, e api.Errno, want api.State) {
	t.Helper()
	if e != api.OK || !equal(s, want) {
		t.Fatalf("%s: %v, %d; not %v", what, s, e, want)
	}
	if e := Check(s); e != api.OK {
		t.Fatalf("%s: %v may not be: %d", what, s, e)
	}
}

func wantRefused(t *testing.T, what string, s api.State, e api.Errno) {
	t.Helper()
	if e != api.ErrArg || !equal(s, api.State{}) {
		t.Fatalf("%s: %v, %d; not ErrArg", what, s, e)
	}
}

// wantJoin asks it both ways round.
func wantJoin(t *testing.T, a, b, want api.State) {
	t.Helper()
	s, e := Join(a, b)
	wantState(t, fmt.Sprintf("Join(%v, %v)", a, b), s, e, want)
	s, e = Join(b, a)
	wantState(t, fmt.Sprintf("Join(%v, %v)", b, a), s, e, want)
}

func wantUnder(t *testing.T, a, b api.State, want bool) {
	t.Helper()
	if is, e := Under(a, b); is != want || e != api.OK {
		t.Fatalf("Under(%v, %v): %v, %d", a, b, is, e)
	}
}

func wantSame(t *testing.T, a, b api.State, want bool) {
	t.Helper()
	if Same(a, b) != want || Same(b, a) != want {
		t.Fatalf("Same(%v, %v): %v; the other way round %v", a, b, Same(a, b), Same(b, a))
	}
}

func wantMoved(t *testing.T, s, want api.State) {
	t.Helper()
	got, e := Moved(s)
	wantState(t, fmt.Sprintf("Moved(%v)", s), got, e, want)
}

func wantCalled(t *testing.T, s, want api.State) {
	t.Helper()
	got, e := Called(s)
	wantState(t, fmt.Sprintf("Called(%v)", s), got, e, want)
}

func wantMade(t *testing.T, s api.State, reg, place int, want api.State) {
	t.Helper()
	got, e := Made(s, reg, place)
	wantState(t, fmt.Sprintf("Made(%v, %d, %d)", s, reg, place), got, e, want)
}

// P17.1
func TestStart(t *testing.T) {
	s := Start()
	for i, v := range s.Regs {
		if v.Kind != api.KindNone || v.Num.Min != 0 || v.Num.Max != 0 || v.Id != 0 || v.Off != 0 {
			t.Errorf("register %d: %v", i, v)
		}
	}
	for i, n := range s.Slots {
		if n.Min != 0 || n.Max != 0 {
			t.Errorf("slot %d: %v", i, n)
		}
	}
	if len(s.Known) != 0 {
		t.Errorf("known: %v", s.Known)
	}
	s.Regs[3], s.Slots[5] = num(1, 1), api.Span{Max: 7}
	s.Known = append(s.Known, api.Known{Id: 0, Bytes: 14})
	if again := Start(); !equal(again, api.State{}) {
		t.Errorf("Start, again: %v", again)
	}
}

func TestCheck(t *testing.T) {
	for _, s := range goodStates() {
		if e := Check(s); e != api.OK {
			t.Errorf("Check(%v): %d", s, e)
		}
	}
	for name, s := range badStates() {
		if e := Check(s); e != api.ErrArg {
			t.Errorf("Check, %s: %d", name, e)
		}
	}
}

// valueMayBe goes by the words.
func valueMayBe(v api.Value) bool {
	noNumber := v.Num.Min == 0 && v.Num.Max == 0
	noPointer := v.Id == 0 && v.Off == 0
	switch v.Kind {
	case api.KindNone, api.KindEnd:
		return noNumber && noPointer
	case api.KindNum:
		return v.Num.Min <= v.Num.Max && noPointer
	case api.KindPkt:
		return noNumber && v.Id >= 0 && v.Id <= 256 && v.Off >= 0 && v.Off <= 2048
	}
	return false
}

func TestCheckOfEachValue(t *testing.T) {
	numbers := []uint64{0, 1, 2, 2048, math.MaxUint64}
	for kind := range 256 {
		for _, from := range numbers {
			for _, to := range numbers {
				for _, id := range []int{-1, 0, 1, 255, 256, 257} {
					for _, off := range []int{-1, 0, 1, 2047, 2048, 2049} {
						v := api.Value{Kind: uint8(kind), Num: api.Span{Min: from, Max: to}, Id: id, Off: off}
						want := api.ErrArg
						if valueMayBe(v) {
							want = api.OK
						}
						if e := Check(withReg(Start(), kind%api.Registers, v)); e != want {
							t.Fatalf("Check of %v: %d", v, e)
						}
					}
				}
			}
		}
	}
}

// others are values that differ from a value in one field.
func others(v api.Value) []api.Value {
	l := []api.Value{v, v, v, v, v}
	l[0].Kind ^= 1
	l[1].Num.Min++
	l[2].Num.Max++
	l[3].Id++
	l[4].Off--
	return l
}

func TestSame(t *testing.T) {
	for _, s := range goodStates() {
		wantSame(t, s, withKnown(s, slices.Clone(s.Known)), true)
	}
	// Whatever states they are.
	for name, s := range badStates() {
		if !Same(s, withKnown(s, slices.Clone(s.Known))) {
			t.Errorf("Same, %s, twice", name)
		}
		if Same(s, full()) || Same(Start(), s) {
			t.Errorf("Same, %s, and one that may be", name)
		}
	}
	wantSame(t, Start(), api.State{}, true)
	wantSame(t, withKnown(full(), nil), withKnown(full(), known()), true)
	wantSame(t, withKnown(full(), nil), withKnown(full(), full().Known[:0]), true)
}

func TestSameOfWhatDiffers(t *testing.T) {
	for _, s := range []api.State{Start(), full(), withReg(full(), 0, api.Value{Kind: 77, Id: -5}), withSlot(Start(), 7, api.Span{Min: 9})} {
		for i := range s.Regs {
			for _, v := range others(s.Regs[i]) {
				wantSame(t, s, withReg(s, i, v), false)
			}
		}
		for i, n := range s.Slots {
			wantSame(t, s, withSlot(s, i, api.Span{Min: n.Min + 1, Max: n.Max}), false)
			wantSame(t, s, withSlot(s, i, api.Span{Min: n.Min, Max: n.Max + 1}), false)
		}
	}
	for _, l := range [][]api.Known{known(0, 14, 9, 3, 256, 2048), known(3, 3), known(9, 4, 9, 4, 0, 0, -5, 7), whole(3)} {
		s := withKnown(full(), l)
		for i := range l {
			id, bytes := slices.Clone(l), slices.Clone(l)
			id[i].Id++
			bytes[i].Bytes--
			wantSame(t, s, withKnown(s, id), false)
			wantSame(t, s, withKnown(s, bytes), false)
			wantSame(t, s, withKnown(s, slices.Delete(slices.Clone(l), i, i+1)), false)
			wantSame(t, s, withKnown(s, l[:i]), false)
		}
		wantSame(t, s, withKnown(s, append(slices.Clone(l), api.Known{})), false)
	}
	wantSame(t, withKnown(full(), known(0, 14, 9, 3)), withKnown(full(), known(9, 3, 0, 14)), false)
	wantSame(t, withKnown(full(), known(0, 0)), withKnown(full(), nil), false)
}

// thing is one that a register can have; other stands for all that no value of fewValues tells.
type thing struct {
	kind    uint8
	n       uint64
	id, off int
}

// fewNumbers are the edges of the spans of fewValues.
func fewNumbers() []uint64 { return []uint64{0, 1, 2, math.MaxUint64 - 1, math.MaxUint64} }

func fewThings() []thing {
	l := []thing{{kind: api.KindNone}, {kind: api.KindEnd}}
	for _, n := range fewNumbers() {
		l = append(l, thing{kind: api.KindNum, n: n})
	}
	for _, id := range []int{0, 1, 256} {
		for _, off := range []int{0, 1, 2048} {
			l = append(l, thing{kind: api.KindPkt, id: id, off: off})
		}
	}
	return l
}

// fewValues are all values that can be told of fewThings.
func fewValues() []api.Value {
	l := []api.Value{nothing()}
	for _, x := range fewThings() {
		switch x.kind {
		case api.KindEnd:
			l = append(l, end())
		case api.KindPkt:
			l = append(l, at(x.id, x.off))
		case api.KindNum:
			for _, n := range fewNumbers() {
				if n >= x.n {
					l = append(l, num(x.n, n))
				}
			}
		}
	}
	return l
}

// can tells whether a register of which so much is known can have a thing.
func can(v api.Value, x thing) bool {
	switch v.Kind {
	case api.KindNum:
		return x.kind == api.KindNum && v.Num.Min <= x.n && x.n <= v.Num.Max
	case api.KindPkt:
		return x.kind == api.KindPkt && x.id == v.Id && x.off == v.Off
	case api.KindEnd:
		return x.kind == api.KindEnd
	}
	return true
}

// says tells whether what can be with v can be with w.
func says(v, w api.Value) bool {
	for _, x := range fewThings() {
		if can(v, x) && !can(w, x) {
			return false
		}
	}
	return true
}

// most is the value, among these, that says most of what both say.
func most(t *testing.T, v, w api.Value, among []api.Value) api.Value {
	t.Helper()
	best := nothing()
	for _, u := range among {
		if says(v, u) && says(w, u) && says(u, best) {
			best = u
		}
	}
	for _, u := range among {
		if says(v, u) && says(w, u) && !says(best, u) {
			t.Fatalf("of %v and %v both %v and %v", v, w, best, u)
		}
	}
	return best
}

// P17.2: each kind of value with each, in each register; all else stays.
func TestValuesInCommon(t *testing.T) {
	values := fewValues()
	for _, v := range values {
		for _, w := range values {
			common, under := most(t, v, w, values), says(v, w)
			for _, s := range []api.State{Start(), full()} {
				for i := range s.Regs {
					a, b := withReg(s, i, v), withReg(s, i, w)
					wantJoin(t, a, b, withReg(s, i, common))
					wantUnder(t, a, b, under)
				}
			}
		}
	}
}

func TestSlotsInCommon(t *testing.T) {
	for _, v := range fewValues() {
		for _, w := range fewValues() {
			if v.Kind != api.KindNum || w.Kind != api.KindNum {
				continue
			}
			common, under := most(t, v, w, fewValues()), says(v, w)
			for _, s := range []api.State{Start(), full()} {
				for i := range s.Slots {
					a, b := withSlot(s, i, v.Num), withSlot(s, i, w.Num)
					wantJoin(t, a, b, withSlot(s, i, common.Num))
					wantUnder(t, a, b, under)
				}
			}
		}
	}
}

// bytesOf is what is known, by the pointers' numbers.
func bytesOf(l []api.Known) [api.MaxCode + 1]int {
	var p [api.MaxCode + 1]int
	for _, k := range l {
		p[k.Id] = k.Bytes
	}
	return p
}

func TestKnownInCommon(t *testing.T) {
	l := known(0, 14, 7, 4)
	for _, c := range []struct {
		a, b, want  []api.Known
		under, over bool
	}{
		// All in common: as many bytes, fewer, more.
		{l, l, l, true, true}, {l, known(0, 13, 7, 3), known(0, 13, 7, 3), true, false}, {l, known(0, 15, 7, 5), l, false, true}, {l, known(0, 13, 7, 5), known(0, 13, 7, 4), false, false}, {l, known(0, 15, 7, 3), known(0, 14, 7, 3), false, false},
		{l, known(0, 14, 7, 3), known(0, 14, 7, 3), true, false}, {l, known(0, 14, 7, 5), l, false, true}, {l, known(0, 13, 7, 4), known(0, 13, 7, 4), true, false}, {l, known(0, 15, 7, 4), l, false, true},
		{l, known(0, 1, 7, 1), known(0, 1, 7, 1), true, false}, {l, known(0, 2048, 7, 2048), l, false, true},
		// Some: a pointer that the other one lacks, ahead, between, behind.
		{l, known(0, 10), known(0, 10), true, false}, {l, known(0, 14), known(0, 14), true, false}, {l, known(0, 15), known(0, 14), false, false}, {l, known(7, 4), known(7, 4), true, false}, {l, known(7, 10), known(7, 4), false, false},
		{l, known(0, 14, 3, 1, 7, 4), l, false, true}, {l, known(0, 10, 3, 5, 7, 6), known(0, 10, 7, 4), false, false}, {known(5, 1, 7, 4), known(0, 14, 5, 1, 7, 4), known(5, 1, 7, 4), false, true}, {l, known(0, 14, 7, 4, 256, 1), l, false, true}, {l, known(0, 20, 8, 9), known(0, 14), false, false},
		// None.
		{l, known(1, 10, 6, 9, 8, 8), nil, false, false}, {l, known(256, 4), nil, false, false}, {l, nil, nil, true, false}, {l, known(), nil, true, false}, {nil, nil, nil, true, true}, {known(), nil, nil, true, true}, {known(0, 1), known(1, 1), nil, false, false},
		// All pointers.
		{whole(9), l, known(0, 9, 7, 4), false, false}, {whole(14), l, l, true, false}, {whole(9), whole(8), whole(8), true, false}, {whole(9)[1:], whole(9), whole(9)[1:], false, true}, {whole(9)[:256], whole(9), whole(9)[:256], false, true}, {whole(9), nil, nil, true, false}, {whole(2048), whole(2048), whole(2048), true, true},
	} {
		for _, s := range []api.State{Start(), full()} {
			a, b := withKnown(s, c.a), withKnown(s, c.b)
			wantJoin(t, a, b, withKnown(s, c.want))
			wantUnder(t, a, b, c.under)
			wantUnder(t, b, a, c.over)
		}
	}
}

// Register by register, slot by slot: what differs in several is told of each.
func TestJoinOfAllAtOnce(t *testing.T) {
	a := first(num(1, 3), at(0, 4), at(0, 4), at(0, 4), num(1, 1), end(), end(), nothing(), nothing(), num(8, 9))
	b := first(num(7, 9), at(0, 4), at(0, 5), at(1, 4), end(), at(0, 0), end(), num(4, 4), nothing(), num(2, 8))
	want := first(num(1, 9), at(0, 4), nothing(), nothing(), nothing(), nothing(), end(), nothing(), nothing(), num(2, 9))
	for i := range a.Slots {
		from := uint64(10 * i)
		a.Slots[i], b.Slots[i], want.Slots[i] = api.Span{Min: from, Max: from + 2}, api.Span{Min: from + 1, Max: from + 5}, api.Span{Min: from, Max: from + 5}
	}
	a.Known, b.Known, want.Known = known(0, 14, 7, 4, 9, 2), known(0, 10, 3, 5, 7, 6), known(0, 10, 7, 4)
	wantJoin(t, a, b, want)
	wantUnder(t, a, b, false)
	wantUnder(t, b, a, false)
	wantUnder(t, a, want, true)
	wantUnder(t, b, want, true)
	wantUnder(t, want, a, false)
	wantUnder(t, want, b, false)
	wantUnder(t, full(), Start(), false)
	wantUnder(t, Start(), full(), false)
}

// Errors: of each call, of each of its states.
func TestStatesThatMayNotBe(t *testing.T) {
	for name, s := range badStates() {
		for _, other := range []api.State{Start(), full(), s, withReg(full(), 9, api.Value{Kind: 4}), withSlot(Start(), 0, api.Span{Min: 2, Max: 1}), withKnown(full(), known(0, 0))} {
			got, e := Join(s, other)
			wantRefused(t, "Join, a: "+name, got, e)
			got, e = Join(other, s)
			wantRefused(t, "Join, b: "+name, got, e)
			if is, e := Under(s, other); is || e != api.ErrArg {
				t.Fatalf("Under, a: %s: %v, %d", name, is, e)
			}
			if is, e := Under(other, s); is || e != api.ErrArg {
				t.Fatalf("Under, b: %s: %v, %d", name, is, e)
			}
		}
		got, e := Moved(s)
		wantRefused(t, "Moved: "+name, got, e)
		got, e = Called(s)
		wantRefused(t, "Called: "+name, got, e)
		for _, reg := range []int{-1, 0, 9, 10} {
			for _, place := range []int{-1, 0, 255, 256} {
				got, e = Made(s, reg, place)
				wantRefused(t, "Made: "+name, got, e)
			}
		}
	}
}

// isMoved is whether a value is one that a move takes.
func isMoved(v api.Value) bool { return v.Kind == api.KindPkt || v.Kind == api.KindEnd }

// P17.3
func TestMoved(t *testing.T) {
	for _, s := range goodStates() {
		want := s
		want.Known = nil
		for i, v := range s.Regs {
			if isMoved(v) {
				want.Regs[i] = nothing()
			}
		}
		wantMoved(t, s, want)
	}
	s := full()
	wantMoved(t, s, api.State{Regs: first(num(1, 4), nothing(), nothing(), num(7, 7), nothing(), nothing(), num(0, math.MaxUint64)).Regs, Slots: s.Slots})
}

func TestCalled(t *testing.T) {
	for _, s := range goodStates() {
		want := s
		want.Regs[0] = num(0, 1<<64-1)
		for _, i := range []int{1, 2, 3, 4, 5} {
			want.Regs[i] = nothing()
		}
		wantCalled(t, s, want)
	}
	for _, v := range goodValues() {
		all := first(v, v, v, v, v, v, v, v, v, v)
		want := first(num(0, 1<<64-1), nothing(), nothing(), nothing(), nothing(), nothing(), v, v, v, v)
		wantCalled(t, all, want)
		wantCalled(t, withKnown(all, known(0, 14, 9, 3)), withKnown(want, known(0, 14, 9, 3)))
	}
}

// slowMade goes by the words.
func slowMade(s api.State, reg, place int) api.State {
	id := 1 + place
	for i := range s.Regs {
		if s.Regs[i].Kind == api.KindPkt && s.Regs[i].Id == id {
			s.Regs[i] = nothing()
		}
	}
	s.Known = slices.DeleteFunc(slices.Clone(s.Known), func(k api.Known) bool { return k.Id == id })
	s.Regs[reg] = at(id, 0)
	return s
}

// P17.4
func TestMade(t *testing.T) {
	s := full()
	want := full()
	want.Regs[1], want.Regs[5], want.Regs[9] = at(9, 0), nothing(), nothing()
	want.Known = known(0, 14, 256, 2048)
	wantMade(t, s, 1, 8, want)
	for _, s := range append(goodStates(), first(at(9, 1), at(9, 2), at(9, 3), at(9, 4), at(9, 5), at(9, 6), at(9, 7), at(9, 8), at(9, 9), at(9, 10)), withKnown(first(at(9, 1), at(8, 1), at(1, 1), at(0, 1), num(9, 9), end()), whole(20))) {
		for reg := range api.Registers {
			for _, place := range []int{0, 6, 7, 8, 9, 254, 255} {
				wantMade(t, s, reg, place, slowMade(s, reg, place))
			}
		}
	}
}

func TestMadeOfEachPlace(t *testing.T) {
	s := withKnown(first(at(0, 3), at(1, 3), at(100, 3), at(255, 3), at(256, 3), num(100, 100), end(), at(101, 0), at(100, 0), at(100, 2048)), whole(7))
	for place := range api.MaxCode {
		for reg := range api.Registers {
			want := slowMade(s, reg, place)
			if len(want.Known) != api.MaxCode {
				t.Fatalf("%d", len(want.Known))
			}
			wantMade(t, s, reg, place, want)
		}
	}
}

func TestMadeErrors(t *testing.T) {
	for _, s := range []api.State{Start(), full(), withKnown(Start(), whole(3))} {
		for _, reg := range []int{-1, -2, math.MinInt, 10, 11, 256, math.MaxInt} {
			for _, place := range []int{-1, 0, 8, 255, 256} {
				got, e := Made(s, reg, place)
				wantRefused(t, fmt.Sprintf("Made of register %d, %d", reg, place), got, e)
			}
		}
		for _, place := range []int{-1, -2, math.MinInt, 256, 257, 1 << 32, math.MaxInt, math.MaxInt - 1} {
			for _, reg := range []int{-1, 0, 4, 9, 10} {
				got, e := Made(s, reg, place)
				wantRefused(t, fmt.Sprintf("Made of register %d, %d", reg, place), got, e)
			}
		}
	}
}

// calls are all that answer a state; those too that change nothing, and that refuse.
func calls() map[string]func(s api.State) (api.State, api.Errno) {
	least := withKnown(Start(), whole(2048))
	return map[string]func(s api.State) (api.State, api.Errno){
		"Start":             func(s api.State) (api.State, api.Errno) { return Start(), api.OK },
		"Join, a":           func(s api.State) (api.State, api.Errno) { return Join(s, full()) },
		"Join, b":           func(s api.State) (api.State, api.Errno) { return Join(full(), s) },
		"Join, itself":      func(s api.State) (api.State, api.Errno) { return Join(s, s) },
		"Join, all known":   func(s api.State) (api.State, api.Errno) { return Join(s, least) },
		"Join, all known a": func(s api.State) (api.State, api.Errno) { return Join(least, s) },
		"Join, none known":  func(s api.State) (api.State, api.Errno) { return Join(s, Start()) },
		"Join, refused":     func(s api.State) (api.State, api.Errno) { return Join(s, first(num(1, 0))) },
		"Moved":             Moved,
		"Called":            Called,
		"Made":              func(s api.State) (api.State, api.Errno) { return Made(s, 4, 8) },
		"Made, the last":    func(s api.State) (api.State, api.Errno) { return Made(s, 9, 255) },
		"Made, of none":     func(s api.State) (api.State, api.Errno) { return Made(s, 0, 77) },
		"Made, register":    func(s api.State) (api.State, api.Errno) { return Made(s, 10, 8) },
		"Made, place":       func(s api.State) (api.State, api.Errno) { return Made(s, 0, 256) },
		"Check, then none":  func(s api.State) (api.State, api.Errno) { return api.State{}, Check(s) },
		"Under, a":          func(s api.State) (api.State, api.Errno) { return askUnder(s, full()) },
		"Under, b":          func(s api.State) (api.State, api.Errno) { return askUnder(full(), s) },
		"Same, then none":   func(s api.State) (api.State, api.Errno) { Same(s, full()); return api.State{}, api.OK },
	}
}

func askUnder(a, b api.State) (api.State, api.Errno) {
	_, e := Under(a, b)
	return api.State{}, e
}

// scribble writes over a list and its spare room.
func scribble(l []api.Known) {
	l = l[:cap(l)]
	for i := range l {
		l[i] = api.Known{Id: -77, Bytes: -77}
	}
}

// P17.5: what is handed in is only read, its spare room neither written; what is answered is new memory.
func TestMemory(t *testing.T) {
	lists := append(badLists(), nil, known(), known(0, 14), known(9, 3), known(256, 1), known(0, 14, 9, 3, 256, 2048), whole(7), whole(2048)[1:])
	for name, call := range calls() {
		for _, l := range lists {
			for _, s := range []api.State{Start(), full(), withReg(full(), 3, api.Value{Kind: 9})} {
				memory := slices.Concat(known(1, 2), l, known(256, 9, 4, 4, 7, 7))
				ahead := slices.Clone(memory)
				s.Known = memory[1 : 1+len(l)]
				wantOwnMemory(t, name, call, s)
				if !slices.Equal(memory, ahead) {
					t.Fatalf("%s of %v: what was handed in is another one: %v", name, l, memory)
				}
			}
		}
	}
}

// wantOwnMemory calls again and again, and writes over each answer.
func wantOwnMemory(t *testing.T, name string, call func(s api.State) (api.State, api.Errno), s api.State) {
	t.Helper()
	one, e := call(s)
	told := withKnown(one, slices.Clone(one.Known))
	two, f := call(s)
	if !equal(two, told) || f != e {
		t.Fatalf("%s of %v: %v, %d, then %v, %d", name, s, told, e, two, f)
	}
	scribble(two.Known)
	if !equal(one, told) {
		t.Fatalf("%s of %v: two answers share their memory", name, s)
	}
	scribble(one.Known)
	if three, g := call(s); !equal(three, told) || g != e {
		t.Fatalf("%s of %v: %v, %d, behind a write to the answer %v, %d", name, s, told, e, three, g)
	}
}

func TestAnswersKeepNothing(t *testing.T) {
	for name, call := range calls() {
		s := full()
		got, _ := call(s)
		told := withKnown(got, slices.Clone(got.Known))
		scribble(s.Known)
		if !equal(got, told) {
			t.Errorf("%s: a write to what was handed in shows in the answer: %v", name, got)
		}
	}
}

// someValue is of few, so that values often have something in common.
func someValue(r *rand.Rand) api.Value {
	switch r.Intn(6) {
	case 0:
		return nothing()
	case 1:
		return end()
	case 2, 3:
		return at([]int{0, 1, 9, 256}[r.Intn(4)], r.Intn(2))
	}
	n := someSpan(r)
	return num(n.Min, n.Max)
}

func someSpan(r *rand.Rand) api.Span {
	if r.Intn(8) == 0 {
		return api.Span{Max: math.MaxUint64}
	}
	from := uint64(r.Intn(4))
	return api.Span{Min: from, Max: from + uint64(r.Intn(4))}
}

func someList(r *rand.Rand) []api.Known {
	var l []api.Known
	for _, id := range []int{0, 1, 9, 256} {
		if r.Intn(2) == 0 {
			l = append(l, api.Known{Id: id, Bytes: 1 + r.Intn(3)})
		}
	}
	return l
}

func someState(r *rand.Rand) api.State {
	var s api.State
	for i := range s.Regs {
		s.Regs[i] = someValue(r)
	}
	for i := range s.Slots {
		s.Slots[i] = someSpan(r)
	}
	s.Known = someList(r)
	return s
}

// wider is a span over one, now and then the same.
func wider(r *rand.Rand, n api.Span) api.Span {
	n.Min -= min(n.Min, uint64(r.Intn(3)))
	n.Max += min(math.MaxUint64-n.Max, uint64(r.Intn(3)))
	return n
}

// less is a state of which s says all, often less than s says, now and then the same.
func less(r *rand.Rand, s api.State) api.State {
	often := 1 + r.Intn(20)
	for i, v := range s.Regs {
		if r.Intn(often) == 0 {
			s.Regs[i] = nothing()
		} else if v.Kind == api.KindNum && r.Intn(often) == 0 {
			s.Regs[i].Num = wider(r, v.Num)
		}
	}
	for i, n := range s.Slots {
		if r.Intn(often) == 0 {
			s.Slots[i] = wider(r, n)
		}
	}
	var l []api.Known
	for _, k := range s.Known {
		if r.Intn(often) == 0 {
			k.Bytes -= r.Intn(k.Bytes + 1)
		}
		if k.Bytes > 0 {
			l = append(l, k)
		}
	}
	s.Known = l
	return s
}

// P17.6
func TestJoinFollowsFromBoth(t *testing.T) {
	r := rand.New(rand.NewSource(6))
	for range 5000 {
		c := someState(r)
		a := less(r, c)
		b := someState(r)
		if r.Intn(2) == 0 {
			b = less(r, c)
		}
		j, e := Join(a, b)
		wantState(t, "Join", j, e, j)
		wantJoin(t, a, b, j)
		wantJoin(t, a, a, a)
		wantUnder(t, a, j, true)
		wantUnder(t, b, j, true)
		wantUnder(t, c, j, true)
		// No less than both have in common.
		u := less(r, a)
		if is, _ := Under(b, u); is {
			wantUnder(t, j, u, true)
		}
		// What says all of one of both, whoever it is.
		if is, _ := Under(a, b); is {
			wantJoin(t, a, b, b)
		}
		left, _ := Join(j, u)
		right, _ := Join(b, u)
		wantJoin(t, a, right, left)
	}
}

// P17.7
func TestUnderIsAnOrder(t *testing.T) {
	r := rand.New(rand.NewSource(7))
	same := 0
	for range 5000 {
		a := someState(r)
		b := less(r, a)
		c := less(r, b)
		wantUnder(t, a, a, true)
		wantUnder(t, a, b, true)
		wantUnder(t, b, c, true)
		wantUnder(t, a, c, true)
		back, _ := Under(b, a)
		if back {
			same++
		}
		if back != equal(a, b) {
			t.Fatalf("Under(%v, %v) and the other way round: %v", a, b, back)
		}
		wantSame(t, a, b, back)
	}
	if same == 0 || same == 5000 {
		t.Errorf("%d of 5000 were the same", same)
	}
}

func TestUnderOfFewStates(t *testing.T) {
	l := fewStates()
	under := make([][]bool, len(l))
	for i, a := range l {
		for _, b := range l {
			is, e := Under(a, b)
			if e != api.OK {
				t.Fatalf("Under(%v, %v): %d", a, b, e)
			}
			under[i] = append(under[i], is)
			if k, _ := Join(a, b); is != equal(k, b) {
				t.Fatalf("Under(%v, %v): %v; Join: %v", a, b, is, k)
			}
		}
	}
	for i := range l {
		for j := range l {
			if (under[i][j] && under[j][i]) != equal(l[i], l[j]) {
				t.Fatalf("%v, %v: %v, %v", l[i], l[j], under[i][j], under[j][i])
			}
			for k := range l {
				if under[i][j] && under[j][k] && !under[i][k] {
					t.Fatalf("%v, %v, %v", l[i], l[j], l[k])
				}
			}
		}
	}
}

// fewStates are all of two registers, a slot and a list of few each.
func fewStates() []api.State {
	var l []api.State
	for _, v := range []api.Value{nothing(), end(), at(9, 0), num(1, 2), num(1, 1)} {
		for _, w := range []api.Value{nothing(), at(9, 1), num(0, 2), num(2, 2)} {
			for _, n := range []api.Span{{}, {Max: 3}} {
				for _, k := range [][]api.Known{nil, known(9, 1), known(0, 2, 9, 2), known(0, 3)} {
					s := withSlot(first(v), 7, n)
					s.Regs[9], s.Known = w, k
					l = append(l, s)
				}
			}
		}
	}
	return l
}

// P17.8
func TestTurnsOfWhatSaysMore(t *testing.T) {
	r := rand.New(rand.NewSource(8))
	for range 5000 {
		a := someState(r)
		b := less(r, a)
		reg, place := r.Intn(api.Registers), []int{0, 8, 255, 100}[r.Intn(4)]
		for name, turn := range map[string]func(s api.State) (api.State, api.Errno){
			"Moved":  Moved,
			"Called": Called,
			"Made":   func(s api.State) (api.State, api.Errno) { return Made(s, reg, place) },
		} {
			x, e := turn(a)
			y, f := turn(b)
			wantState(t, name, x, e, x)
			wantState(t, name, y, f, y)
			if is, e := Under(x, y); !is || e != api.OK {
				t.Fatalf("%s of %v: %v; of %v: %v", name, a, x, b, y)
			}
		}
	}
}

// scene is how things stand: a packet of so many bytes, where its pointers lie, what registers and slots have.
type scene struct {
	bytes  int
	places [api.MaxCode + 1]int
	regs   [api.Registers]held
	slots  [api.Scratch]uint64
}

// held is a number, a place in the packet, or its end.
type held struct {
	kind  uint8
	n     uint64
	place int
}

func someScene(r *rand.Rand) scene {
	s := scene{bytes: r.Intn(5)}
	for _, id := range []int{1, 9, 256} {
		s.places[id] = r.Intn(4)
	}
	for i := range s.regs {
		switch r.Intn(3) {
		case 0:
			s.regs[i] = held{kind: api.KindNum, n: uint64(r.Intn(6))}
		case 1:
			s.regs[i] = held{kind: api.KindPkt, place: r.Intn(5)}
		case 2:
			s.regs[i] = held{kind: api.KindEnd}
		}
	}
	for i := range s.slots {
		s.slots[i] = uint64(r.Intn(6))
	}
	return s
}

// isTrue tells whether all that a state says is so.
func (s scene) isTrue(a api.State) bool {
	for i, v := range a.Regs {
		if !s.isTrueOf(v, s.regs[i]) {
			return false
		}
	}
	for i, n := range a.Slots {
		if s.slots[i] < n.Min || s.slots[i] > n.Max {
			return false
		}
	}
	for _, k := range a.Known {
		if s.places[k.Id]+k.Bytes > s.bytes {
			return false
		}
	}
	return true
}

func (s scene) isTrueOf(v api.Value, h held) bool {
	switch v.Kind {
	case api.KindNum:
		return h.kind == api.KindNum && v.Num.Min <= h.n && h.n <= v.Num.Max
	case api.KindPkt:
		return h.kind == api.KindPkt && s.places[v.Id]+v.Off == h.place
	case api.KindEnd:
		return h.kind == api.KindEnd
	}
	return true
}

// trueState is something that is true of the scene.
func (s scene) trueState(r *rand.Rand) api.State {
	var a api.State
	for i, h := range s.regs {
		if v := s.trueValue(r, h); r.Intn(6) > 0 {
			a.Regs[i] = v
		}
	}
	for i, n := range s.slots {
		a.Slots[i] = wider(r, api.Span{Min: n, Max: n})
	}
	for _, id := range []int{0, 1, 9, 256} {
		if room := s.bytes - s.places[id]; room > 0 && r.Intn(4) > 0 {
			a.Known = append(a.Known, api.Known{Id: id, Bytes: 1 + r.Intn(room)})
		}
	}
	return a
}

func (s scene) trueValue(r *rand.Rand, h held) api.Value {
	switch h.kind {
	case api.KindNum:
		n := wider(r, api.Span{Min: h.n, Max: h.n})
		return num(n.Min, n.Max)
	case api.KindPkt:
		id := []int{0, 1, 9, 256}[r.Intn(4)]
		if off := h.place - s.places[id]; off >= 0 {
			return at(id, off)
		}
		return nothing()
	}
	return end()
}

// P17.6, P17.7, W2: what is told of what is true is true, whatever becomes of the packet.
func TestTrueStaysTrue(t *testing.T) {
	r := rand.New(rand.NewSource(2))
	for range 20000 {
		s := someScene(r)
		a, b := s.trueState(r), someState(r)
		if !s.isTrue(a) {
			t.Fatalf("%v is not true of %v", a, s)
		}
		if is, _ := Under(a, b); is && !s.isTrue(b) {
			t.Fatalf("Under(%v, %v), of %v", a, b, s)
		}
		for _, other := range []api.State{b, s.trueState(r)} {
			if j, e := Join(a, other); e != api.OK || !s.isTrue(j) {
				t.Fatalf("Join(%v, %v) is not true of %v: %v, %d", a, other, s, j, e)
			}
		}
		wantTrueMade(t, s, a, r.Intn(api.Registers), []int{0, 8, 255}[r.Intn(3)], r.Intn(6))
		wantTrueCalled(t, s, a, uint64(r.Intn(6)))
		wantTrueMoved(t, s, someScene(r), a)
	}
}

// wantTrueMade lets the pointer lie somewhere else.
func wantTrueMade(t *testing.T, s scene, a api.State, reg, place, lies int) {
	t.Helper()
	m, e := Made(a, reg, place)
	s.places[1+place] = lies
	s.regs[reg] = held{kind: api.KindPkt, place: lies}
	if e != api.OK || !s.isTrue(m) {
		t.Fatalf("Made(%v, %d, %d) is not true of %v: %v, %d", a, reg, place, s, m, e)
	}
}

func wantTrueCalled(t *testing.T, s scene, a api.State, answer uint64) {
	t.Helper()
	for i := range 6 {
		s.regs[i] = held{}
	}
	s.regs[0] = held{kind: api.KindNum, n: answer}
	c, e := Called(a)
	if e != api.OK || !s.isTrue(c) {
		t.Fatalf("Called(%v) is not true of %v: %v, %d", a, s, c, e)
	}
}

// wantTrueMoved lets the packet be another one, whose pointers and end lie anywhere.
func wantTrueMoved(t *testing.T, s, other scene, a api.State) {
	t.Helper()
	m, e := Moved(a)
	for i, h := range s.regs {
		if h.kind != api.KindNum {
			s.regs[i] = held{}
		}
	}
	s.bytes, s.places = other.bytes, other.places
	if e != api.OK || !s.isTrue(m) {
		t.Fatalf("Moved(%v) is not true of %v: %v, %d", a, s, m, e)
	}
}

func TestExamples(t *testing.T) {
	wantState(t, "Start", Start(), api.OK, api.State{})
	for _, c := range []struct{ a, b, want api.Value }{{num(1, 3), num(7, 9), num(1, 9)}, {at(0, 4), at(0, 4), at(0, 4)}, {at(0, 4), at(0, 5), nothing()}, {num(1, 1), end(), nothing()}} {
		wantJoin(t, withReg(Start(), 1, c.a), withReg(Start(), 1, c.b), withReg(Start(), 1, c.want))
	}
	wantJoin(t, withKnown(Start(), known(0, 14, 7, 4)), withKnown(Start(), known(0, 10)), withKnown(Start(), known(0, 10)))
	wantUnder(t, Start(), Start(), true)
	wantUnder(t, withReg(Start(), 1, num(2, 3)), withReg(Start(), 1, num(1, 4)), true)
	wantUnder(t, withReg(Start(), 1, num(1, 4)), withReg(Start(), 1, num(2, 3)), false)
	wantUnder(t, withReg(Start(), 1, num(2, 2)), Start(), true)
	wantMoved(t, withKnown(first(nothing(), at(0, 0), end(), num(5, 5)), known(0, 14)), withReg(Start(), 3, num(5, 5)))
	five := num(5, 5)
	wantCalled(t, first(five, five, five, five, five, five, five), withReg(first(num(0, math.MaxUint64)), 6, five))
	wantMade(t, withKnown(first(nothing(), at(9, 2), at(0, 0)), known(0, 14, 9, 3)), 4, 8, withKnown(first(nothing(), nothing(), at(0, 0), nothing(), at(9, 0)), known(0, 14)))
}
