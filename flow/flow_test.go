package flow

import (
	"math"
	"math/rand"
	"slices"
	"testing"

	"sallyport/api"
)

// Short ways to write instructions of programs.
func rep(times int32) api.Insn { return api.Insn{Op: api.OpRep, Imm: times} }

func end() api.Insn { return api.Insn{Op: api.OpEnd} }

func exit() api.Insn { return api.Insn{Op: api.OpExit} }

func jump(off int16) api.Insn { return api.Insn{Op: api.OpJump, Off: off} }

func jeqi(off int16) api.Insn { return api.Insn{Op: api.OpJeqI, Imm: 1, Off: off} }

func set(n int32) api.Insn { return api.Insn{Op: api.OpSet, Imm: n} }

func program(code ...api.Insn) []api.Insn { return code }

// filled is n instructions that go to the next place, and behind them the others.
func filled(n int, code ...api.Insn) []api.Insn {
	return append(slices.Repeat(program(set(1)), n), code...)
}

// jumps are the jumps of all operations that go that far.
func jumps(off int16) []api.Insn {
	l := program(jump(off))
	for op := api.OpJeqI; op <= api.OpJge; op++ {
		l = append(l, api.Insn{Op: op, Off: off})
	}
	return l
}

// others are instructions of all operations that go to the next place alone.
func others() []api.Insn {
	var l []api.Insn
	for op := api.OpSet; op < api.OpJump; op++ {
		x := api.Insn{Op: op}
		if op == api.OpLd || op == api.OpSt {
			x.Imm = 4
		}
		l = append(l, x)
	}
	return append(l, api.Insn{Op: api.OpCall, Imm: api.HelpClone}, api.Insn{Op: api.OpCall, Imm: api.HelpForeign})
}

// bad are instructions that may not be.
func bad() []api.Insn {
	return program(api.Insn{}, api.Insn{Op: 37}, api.Insn{Op: 255}, rep(0), rep(17), rep(-1), rep(math.MaxInt32), jump(-1), jump(256), jeqi(-1), jeqi(256),
		api.Insn{Op: api.OpSet, Dst: 10}, api.Insn{Op: api.OpExit, Imm: 1}, api.Insn{Op: api.OpEnd, Dst: 1}, api.Insn{Op: api.OpCall, Imm: 9}, api.Insn{Op: api.OpRep, Imm: 2, Off: 1})
}

// The chapter's words, slowly: all is looked for anew for each place. The programs are of instructions that may be.

// closerOf is the place of the OpEnd that closes the OpRep; the number of instructions, if nothing does.
func closerOf(code []api.Insn, begin int) int {
	open := 0
	for at := begin; at < len(code); at++ {
		switch code[at].Op {
		case api.OpRep:
			open++
		case api.OpEnd:
			open--
		}
		if open == 0 {
			return at
		}
	}
	return len(code)
}

// openerOf is the place of the OpRep that the OpEnd closes, or -1.
func openerOf(code []api.Insn, end int) int {
	for at := range end {
		if code[at].Op == api.OpRep && closerOf(code, at) == end {
			return at
		}
	}
	return -1
}

// within are the places of the OpReps of the loops in whose inside a place lies, the outermost one first.
func within(code []api.Insn, at int) []int {
	var l []int
	for begin, x := range code {
		if x.Op == api.OpRep && begin < at && at <= closerOf(code, begin) {
			l = append(l, begin)
		}
	}
	return l
}

func slowIsJump(x api.Insn) bool {
	return slices.ContainsFunc(jumps(0), func(j api.Insn) bool { return j.Op == x.Op })
}

func slowWrongAt(code []api.Insn, at int) bool {
	x := code[at]
	if at == len(code)-1 && x.Op != api.OpExit {
		return true
	}
	if x.Op == api.OpEnd && openerOf(code, at) < 0 {
		return true
	}
	if x.Op == api.OpRep && (closerOf(code, at) == len(code) || len(within(code, at)) >= 3) {
		return true
	}
	if !slowIsJump(x) {
		return false
	}
	to := at + int(x.Off) + 1
	if to >= len(code) {
		return true
	}
	own := within(code, at)
	return slices.ContainsFunc(within(code, to), func(begin int) bool { return !slices.Contains(own, begin) })
}

func slowCheck(code []api.Insn) (int, api.Errno) {
	if len(code) == 0 {
		return 0, api.ErrFlow
	}
	for at := range code {
		if slowWrongAt(code, at) {
			return at, api.ErrFlow
		}
	}
	return 0, api.OK
}

func slowLoops(code []api.Insn) []api.Loop {
	var l []api.Loop
	for at, x := range code {
		if x.Op == api.OpRep {
			closer := closerOf(code, at)
			l = append(l, api.Loop{Begin: at, End: closer, Times: int(x.Imm), Depth: len(within(code, closer))})
		}
	}
	return l
}

func slowNext(code []api.Insn, at int) []int {
	x := code[at]
	can := map[int]bool{at + 1: true}
	switch {
	case x.Op == api.OpExit:
		return nil
	case x.Op == api.OpJump:
		can = map[int]bool{at + 1 + int(x.Off): true}
	case slowIsJump(x):
		can[at+1+int(x.Off)] = true
	case x.Op == api.OpEnd:
		if begin := openerOf(code, at); code[begin].Imm >= 2 {
			can[begin+1] = true
		}
	}
	var l []int
	for to := range can {
		l = append(l, to)
	}
	slices.Sort(l)
	return l
}

func slowSteps(code []api.Insn) int {
	sum := 0
	for at := range code {
		product := 1
		for _, begin := range within(code, at) {
			product *= int(code[begin].Imm)
		}
		sum += product
	}
	return sum
}

// wantWrong is what all calls answer of a program with something wrong.
func wantWrong(t *testing.T, code []api.Insn, at int, e api.Errno) {
	t.Helper()
	if gotAt, got := Check(code); gotAt != at || got != e {
		t.Fatalf("Check of %v: %d at %d, not %d at %d", code, got, gotAt, e, at)
	}
	if l, got := Loops(code); len(l) != 0 || got != e {
		t.Fatalf("Loops of %v: %v, %d, not %d", code, l, got, e)
	}
	if n, got := Steps(code); n != 0 || got != e {
		t.Fatalf("Steps of %v: %d, %d, not %d", code, n, got, e)
	}
	for _, place := range []int{math.MinInt, -1, 0, at, len(code) - 1, len(code), math.MaxInt} {
		if l, got := Next(code, place); len(l) != 0 || got != e {
			t.Fatalf("Next of %v at %d: %v, %d, not %d", code, place, l, got, e)
		}
	}
}

// wantRight is what all calls answer of a program with nothing wrong.
func wantRight(t *testing.T, code []api.Insn) {
	t.Helper()
	if at, e := Check(code); at != 0 || e != api.OK {
		t.Fatalf("Check of %v: %d at %d, not OK", code, e, at)
	}
	want := slowLoops(code)
	if l, e := Loops(code); !slices.Equal(l, want) || e != api.OK {
		t.Fatalf("Loops of %v: %v, %d, not %v", code, l, e, want)
	}
	if n, e := Steps(code); n != slowSteps(code) || e != api.OK {
		t.Fatalf("Steps of %v: %d, %d, not %d", code, n, e, slowSteps(code))
	}
	for at := range code {
		want := slowNext(code, at)
		if l, e := Next(code, at); !slices.Equal(l, want) || e != api.OK {
			t.Fatalf("Next of %v at %d: %v, %d, not %v", code, at, l, e, want)
		}
	}
	for _, at := range []int{math.MinInt, -len(code), -2, -1, len(code), len(code) + 1, api.MaxCode, math.MaxInt} {
		if at == api.MaxCode && at < len(code) {
			continue
		}
		if l, e := Next(code, at); len(l) != 0 || e != api.ErrArg {
			t.Fatalf("Next of %v at %d: %v, %d, not ErrArg", code, at, l, e)
		}
	}
}

// wantAs is what all calls answer of a program, as the slow calls have it; it tells whether the program is right.
func wantAs(t *testing.T, code []api.Insn) bool {
	t.Helper()
	at, e := slowCheck(code)
	if e != api.OK {
		wantWrong(t, code, at, e)
		return false
	}
	wantRight(t, code)
	return true
}

func example() []api.Insn {
	return program(rep(3), set(1), jeqi(1), set(2), end(), exit())
}

// The chapter's examples, and the numbers of api that they stand on.
func TestExampleOfAProgram(t *testing.T) {
	p := example()
	if at, e := Check(p); at != 0 || e != api.OK {
		t.Errorf("Check: %d at %d", e, at)
	}
	if l, e := Loops(p); !slices.Equal(l, []api.Loop{{Begin: 0, End: 4, Times: 3, Depth: 1}}) || e != api.OK {
		t.Errorf("Loops: %v, %d", l, e)
	}
	if n, e := Steps(p); n != 14 || e != api.OK {
		t.Errorf("Steps: %d, %d", n, e)
	}
	for _, c := range []struct {
		at   int
		want []int
		e    api.Errno
	}{{0, []int{1}, 0}, {2, []int{3, 4}, 0}, {4, []int{1, 5}, 0}, {5, nil, 0}, {6, nil, 2}} {
		if l, e := Next(p, c.at); !slices.Equal(l, c.want) || e != c.e {
			t.Errorf("Next at %d: %v, %d, not %v, %d", c.at, l, e, c.want, c.e)
		}
	}
	if api.ErrArg != 2 || api.ErrMany != 3 || api.ErrInsn != 130 || api.ErrFlow != 140 || api.MaxCode != 256 || api.MaxDepth != 3 || api.MaxRep != 16 {
		t.Errorf("the chapter has other numbers than api")
	}
}

func TestExamplesOfCheck(t *testing.T) {
	for i, c := range []struct {
		code []api.Insn
		at   int
		e    api.Errno
	}{
		{nil, 0, 140},
		{program(), 0, 140},
		{slices.Repeat(program(exit()), 257), 0, 3},
		{program(exit(), api.Insn{}), 1, 130},
		{program(end(), exit()), 0, 140},
		{program(rep(2), exit()), 0, 140},
		{program(set(1)), 0, 140},
		{program(jump(0), jump(0), exit()), 0, 0},
		{program(jump(1), exit()), 0, 140},
		{program(jump(1), rep(2), end(), exit()), 0, 140},
		{program(rep(2), jump(0), end(), exit()), 0, 0},
		{program(rep(2), jump(1), end(), exit()), 0, 0},
		{program(rep(2), rep(2), rep(2), rep(2), end(), end(), end(), end(), exit()), 3, 140},
		{program(rep(2), exit(), end(), exit()), 0, 0},
	} {
		if at, e := Check(c.code); at != c.at || e != c.e {
			t.Errorf("%d: Check: %d at %d, not %d at %d", i, e, at, c.e, c.at)
		}
		if c.e == api.OK {
			wantRight(t, c.code)
		} else {
			wantWrong(t, c.code, c.at, c.e)
		}
	}
}

// P14.1: how many instructions there are, whatever they are.
func TestHowManyInstructions(t *testing.T) {
	wantRight(t, program(exit()))
	wantRight(t, filled(1, exit()))
	wantRight(t, filled(api.MaxCode-1, exit()))
	wantWrong(t, filled(api.MaxCode, exit()), 0, api.ErrMany)
	wantWrong(t, make([]api.Insn, api.MaxCode+1), 0, api.ErrMany)
	wantWrong(t, slices.Repeat(program(end()), api.MaxCode+1), 0, api.ErrMany)
	wantWrong(t, slices.Repeat(program(rep(1)), api.MaxCode+1), 0, api.ErrMany)
	wantWrong(t, make([]api.Insn, 1<<20), 0, api.ErrMany)
	wantWrong(t, make([]api.Insn, api.MaxCode), 0, api.ErrInsn)
	wantWrong(t, slices.Repeat(program(end()), api.MaxCode), 0, api.ErrFlow)
	wantWrong(t, slices.Repeat(program(rep(1)), api.MaxCode), 0, api.ErrFlow)
	// Spare room behind the program is none of it.
	l := filled(api.MaxCode+5, exit())
	wantWrong(t, l[:0], 0, api.ErrFlow)
	wantWrong(t, l[:3], 2, api.ErrFlow)
	wantRight(t, append(program(rep(2), end(), exit()), bad()...)[:3])
}

// P14.1: an instruction that may not be, at each place, and ahead of all that is wrong with loops and jumps.
func TestInsnThatMayNotBe(t *testing.T) {
	for _, x := range bad() {
		for _, n := range []int{1, 2, 7, api.MaxCode} {
			for at := range n {
				code := filled(n-1, exit())
				code[at] = x
				wantWrong(t, code, at, api.ErrInsn)
			}
		}
		wantWrong(t, program(end(), rep(2), jump(200), x), 3, api.ErrInsn)
		wantWrong(t, program(end(), x, set(1), x, set(1)), 1, api.ErrInsn)
		wantWrong(t, program(rep(2), rep(2), rep(2), rep(2), x), 4, api.ErrInsn)
	}
	for i, x := range bad() {
		for _, y := range bad()[i:] {
			wantWrong(t, program(set(1), x, y, exit()), 1, api.ErrInsn)
			wantWrong(t, program(set(1), y, x, exit()), 1, api.ErrInsn)
		}
	}
}

// P14.1: each instruction that may be goes, but for what is said of loops and jumps.
func TestEachInstruction(t *testing.T) {
	for _, x := range others() {
		wantRight(t, program(x, exit()))
		wantRight(t, program(rep(2), x, end(), x, exit()))
	}
	for _, x := range append(others(), append(jumps(0), rep(1), end())...) {
		wantWrong(t, program(x), 0, api.ErrFlow)
		if x.Op != api.OpRep && x.Op != api.OpEnd {
			wantWrong(t, program(set(1), x), 1, api.ErrFlow)
			wantWrong(t, append(filled(api.MaxCode-2, exit()), x), api.MaxCode-1, api.ErrFlow)
		}
	}
	wantWrong(t, program(exit(), rep(2), end()), 2, api.ErrFlow)
	wantRight(t, program(exit(), exit(), exit()))
}

// P14.1: OpReps and OpEnds that stand alone.
func TestBracketsThatStandAlone(t *testing.T) {
	for i, c := range []struct {
		code []api.Insn
		at   int
	}{
		{program(end()), 0},
		{program(rep(1)), 0},
		{program(exit(), end(), exit()), 1},
		{program(end(), rep(2), exit()), 0},
		{program(end(), rep(2), end(), exit()), 0},
		{program(rep(2), end(), end(), exit()), 2},
		{program(rep(2), end(), rep(2), end(), end(), exit()), 4},
		{program(rep(2), end(), end(), rep(2), exit()), 2},
		{program(rep(2), rep(2), end(), end(), end(), exit()), 4},
		{program(rep(2), rep(2), end(), exit()), 0},
		{program(rep(2), end(), rep(2), exit()), 2},
		{program(rep(2), end(), rep(2), rep(2), end(), exit()), 2},
		{program(rep(2), rep(2), rep(2), rep(2), exit()), 0},
		{program(set(1), set(1), exit(), rep(2)), 3},
		{program(set(1), rep(2), exit(), end()), 3}, // closed, but no OpExit
		{program(rep(2), exit(), end()), 2},
	} {
		if at, e := slowCheck(c.code); at != c.at || e != api.ErrFlow {
			t.Errorf("%d: the slow one: %d at %d", i, e, at)
		}
		wantWrong(t, c.code, c.at, api.ErrFlow)
	}
	for at := range api.MaxCode - 1 {
		code := filled(api.MaxCode-1, exit())
		code[at] = rep(2)
		wantWrong(t, code, at, api.ErrFlow)
		code[at] = end()
		wantWrong(t, code, at, api.ErrFlow)
	}
}

// nested is loops within one another, and then an OpExit.
func nested(times ...int32) []api.Insn {
	var code []api.Insn
	for _, n := range times {
		code = append(code, rep(n))
	}
	return append(append(code, slices.Repeat(program(end()), len(times))...), exit())
}

// P14.1, P14.2: how deep loops lie within one another.
func TestHowDeep(t *testing.T) {
	wantRight(t, nested(2))
	wantRight(t, nested(2, 3))
	wantRight(t, nested(2, 3, 4))
	if l, e := Loops(nested(2, 3, 4)); !slices.Equal(l, []api.Loop{{Begin: 0, End: 5, Times: 2, Depth: 1}, {Begin: 1, End: 4, Times: 3, Depth: 2}, {Begin: 2, End: 3, Times: 4, Depth: 3}}) || e != api.OK {
		t.Errorf("Loops: %v, %d", l, e)
	}
	for n := 4; n <= (api.MaxCode-1)/2; n++ {
		wantWrong(t, nested(slices.Repeat([]int32{1}, n)...), 3, api.ErrFlow)
	}
	// The third one closed, the next one is no deeper; and one that is, behind others.
	wantRight(t, program(rep(2), rep(2), rep(2), end(), rep(2), end(), end(), rep(2), rep(2), end(), end(), end(), exit()))
	wantWrong(t, program(rep(2), rep(2), rep(2), end(), rep(2), rep(2), end(), end(), end(), end(), exit()), 5, api.ErrFlow)
	wantWrong(t, program(rep(1), end(), rep(1), rep(1), rep(1), set(1), rep(1), end(), end(), end(), end(), exit()), 6, api.ErrFlow)
	// One that is open still, and would be too deep: the outermost one is ahead.
	wantWrong(t, program(rep(2), rep(2), rep(2), rep(2), end(), end(), end(), exit()), 0, api.ErrFlow)
}

// P14.1, P14.2: loops side by side, and the chapter's order of them.
func TestLoopsSideBySide(t *testing.T) {
	code := program(rep(2), end(), set(1), rep(16), rep(1), end(), rep(3), set(1), end(), end(), rep(5), exit(), end(), exit())
	wantRight(t, code)
	want := []api.Loop{{Begin: 0, End: 1, Times: 2, Depth: 1}, {Begin: 3, End: 9, Times: 16, Depth: 1}, {Begin: 4, End: 5, Times: 1, Depth: 2}, {Begin: 6, End: 8, Times: 3, Depth: 2}, {Begin: 10, End: 12, Times: 5, Depth: 1}}
	if l, e := Loops(code); !slices.Equal(l, want) || e != api.OK {
		t.Errorf("Loops: %v, %d", l, e)
	}
	many := append(slices.Repeat(program(rep(7), end()), 127), set(1), exit())
	wantRight(t, many)
	if l, _ := Loops(many); len(l) != 127 || l[126] != (api.Loop{Begin: 252, End: 253, Times: 7, Depth: 1}) {
		t.Errorf("Loops: %v", l)
	}
	if l, e := Loops(filled(3, exit())); len(l) != 0 || e != api.OK {
		t.Errorf("Loops of none: %v, %d", l, e)
	}
}

// P14.1, P14.3: how far each kind of jump goes.
func TestHowFarJumpsGo(t *testing.T) {
	for _, n := range []int{2, 3, 9, 255, 256} {
		for _, at := range []int{0, 1, n / 2, n - 2} {
			last := n - 2 - at
			if at > n-2 {
				continue
			}
			for _, off := range []int{0, 1, last - 1, last, last + 1, last + 2, 255} {
				if off < 0 || off > 255 {
					continue
				}
				for _, x := range jumps(int16(off)) {
					code := filled(n-1, exit())
					code[at] = x
					if off > last {
						wantWrong(t, code, at, api.ErrFlow)
						continue
					}
					wantRight(t, code)
				}
			}
		}
	}
}

// P14.1: jumps and loops, by the places at which they are; the loops are at 2 to 6 and, side by side, 8 to 10, the former with one inside at 3 to 5.
func TestJumpsAndLoops(t *testing.T) {
	for at := range 12 {
		for to := at + 1; to <= 13; to++ {
			for _, x := range jumps(int16(to - at - 1)) {
				code := program(set(1), set(1), rep(2), rep(1), set(1), end(), end(), set(1), rep(16), set(1), end(), set(1), exit())
				if o := code[at].Op; o == api.OpRep || o == api.OpEnd {
					continue
				}
				code[at] = x
				into := func(begin, end int) bool { return at <= begin && begin < to && to <= end }
				if to == 13 || into(2, 6) || into(3, 5) || into(8, 10) {
					wantWrong(t, code, at, api.ErrFlow)
				} else {
					wantRight(t, code)
				}
			}
		}
	}
}

// P14.1: single jumps and loops, told place by place.
func TestSomeJumpsAndLoops(t *testing.T) {
	for i, c := range []struct {
		code []api.Insn
		at   int // -1: nothing is wrong
	}{
		{program(jump(0), rep(2), set(1), end(), exit()), -1},                       // onto the OpRep
		{program(jump(1), rep(2), set(1), end(), exit()), 0},                        // onto the first place of the inside
		{program(jump(2), rep(2), set(1), end(), exit()), 0},                        // onto the OpEnd
		{program(jump(3), rep(2), set(1), end(), exit()), -1},                       // over the loop
		{program(jump(2), set(1), rep(2), end(), exit()), 0},                        // onto the OpEnd of an empty one
		{program(rep(2), jump(0), end(), exit()), -1},                               // onto its own OpEnd
		{program(rep(2), jump(1), set(1), set(1), end(), exit()), -1},               // within the same loop
		{program(rep(2), jump(1), end(), exit()), -1},                               // out of it
		{program(rep(2), jump(2), end(), set(1), exit()), -1},                       // further out of it
		{program(rep(2), jump(1), end(), rep(2), end(), exit()), -1},                // onto the OpRep beside it
		{program(rep(2), jump(2), end(), rep(2), end(), exit()), 1},                 // into the one beside it
		{program(rep(2), jump(2), end(), rep(2), set(1), end(), exit()), 1},         // into its inside
		{program(rep(2), jump(3), end(), rep(2), end(), exit()), -1},                // over it
		{program(rep(2), jump(0), rep(2), end(), end(), exit()), -1},                // onto the inner OpRep
		{program(rep(2), jump(1), rep(2), end(), end(), exit()), 1},                 // into the inner one
		{program(rep(2), rep(2), jump(0), end(), end(), exit()), -1},                // onto the inner OpEnd
		{program(rep(2), rep(2), jump(1), end(), end(), exit()), -1},                // onto the outer OpEnd
		{program(rep(2), rep(2), jump(2), end(), end(), exit()), -1},                // out of both
		{program(rep(2), rep(2), jump(2), end(), rep(2), end(), end(), exit()), 2},  // out of one, into the one beside it
		{program(rep(2), rep(2), jump(1), end(), rep(2), end(), end(), exit()), -1}, // onto its OpRep
		{program(jump(2), rep(2), rep(2), end(), end(), exit()), 0},                 // into two at once
	} {
		if at, e := slowCheck(c.code); e != api.OK && at != c.at || (e == api.OK) != (c.at < 0) {
			t.Errorf("%d: the slow one: %d at %d", i, e, at)
		}
		if c.at < 0 {
			wantRight(t, c.code)
		} else {
			wantWrong(t, c.code, c.at, api.ErrFlow)
		}
	}
}

// P14.1: two things that are wrong, either of which comes first.
func TestTwoThingsWrong(t *testing.T) {
	pieces := []struct {
		code []api.Insn
		at   int
	}{
		{program(end()), 0},
		{program(set(1), end()), 1},
		{program(jump(1), rep(2), end()), 0},
		{program(jump(1), rep(2), set(1), end()), 0},
		{program(rep(2), jump(2), end(), rep(2), end()), 1},
		{program(jump(255)), 0},
		{program(set(1), jeqi(200)), 1},
		{nested(1, 1, 1, 1), 3},
	}
	for _, a := range pieces {
		for _, b := range pieces {
			code := append(append(slices.Clone(a.code), b.code...), exit())
			wantWrong(t, code, a.at, api.ErrFlow)
			wantWrong(t, append(program(rep(1), end()), code...), a.at+2, api.ErrFlow)
			// Nothing but set at the last place, too.
			wantWrong(t, append(code, set(1)), a.at, api.ErrFlow)
		}
		// An OpRep that nothing closes, ahead and behind. An OpEnd in a piece may be what closes it.
		code := append(append(slices.Clone(a.code), rep(2)), exit())
		wantWrong(t, code, a.at, api.ErrFlow)
		wantAs(t, append(program(rep(2)), code...))
		wantAs(t, append(program(rep(2), rep(2), rep(2)), code...))
	}
	// Jumps over what is wrong, and into an OpRep that nothing closes, or that is too deep.
	wantWrong(t, program(jump(1), end(), exit()), 1, api.ErrFlow)
	wantWrong(t, program(jump(3), exit(), end(), exit(), exit()), 2, api.ErrFlow)
	wantWrong(t, program(jump(1), exit(), rep(2), exit()), 2, api.ErrFlow)
	wantWrong(t, program(jump(2), exit(), rep(2), exit()), 0, api.ErrFlow)
	wantWrong(t, program(rep(1), rep(1), rep(1), jump(0), rep(1), end(), end(), end(), end(), exit()), 4, api.ErrFlow)
	wantWrong(t, program(rep(1), rep(1), rep(1), jump(1), rep(1), end(), end(), end(), end(), exit()), 3, api.ErrFlow)
}

// P14.3: OpEnd by how often its loop is done.
func TestNextOfEnds(t *testing.T) {
	for times := int32(1); times <= api.MaxRep; times++ {
		for inside := range 4 {
			code := append(append(program(rep(times)), filled(inside)...), end(), exit())
			want := []int{1, inside + 2}
			if times == 1 {
				want = want[1:]
			}
			if l, e := Next(code, inside+1); !slices.Equal(l, want) || e != api.OK {
				t.Errorf("Next behind %d of %d times: %v, %d, not %v", inside, times, l, e, want)
			}
			wantRight(t, code)
		}
	}
	// Each its own loop's: the inner one is done once, the outer ones not, and the other way round.
	wantRight(t, nested(2, 1, 16))
	wantRight(t, nested(1, 2, 1))
	if l, _ := Next(nested(2, 1, 16), 4); !slices.Equal(l, []int{5}) {
		t.Errorf("Next: %v", l)
	}
	if l, _ := Next(nested(1, 2, 1), 4); !slices.Equal(l, []int{2, 5}) {
		t.Errorf("Next: %v", l)
	}
}

// P14.3: each other instruction, within a loop and outside.
func TestNextOfEachInstruction(t *testing.T) {
	for _, x := range others() {
		for at, code := range [][]api.Insn{program(x, exit()), program(rep(2), x, end(), exit())} {
			if l, e := Next(code, at); !slices.Equal(l, []int{at + 1}) || e != api.OK {
				t.Errorf("Next of %+v: %v, %d", x, l, e)
			}
		}
	}
	for off := range int16(4) {
		for _, x := range jumps(off) {
			want := []int{2, 2 + int(off)}
			if x.Op == api.OpJump || off == 0 {
				want = want[1:]
			}
			if l, e := Next(program(set(1), x, set(1), exit(), set(1), exit()), 1); !slices.Equal(l, want) || e != api.OK {
				t.Errorf("Next of %+v: %v, %d, not %v", x, l, e, want)
			}
		}
	}
	for _, code := range [][]api.Insn{program(exit(), set(1), exit()), program(exit(), exit())} {
		if l, e := Next(code, 0); len(l) != 0 || e != api.OK {
			t.Errorf("Next of exit: %v, %d", l, e)
		}
	}
	if l, e := Next(program(rep(2), exit(), end(), exit()), 1); len(l) != 0 || e != api.OK {
		t.Errorf("Next of an exit within a loop: %v, %d", l, e)
	}
}

// P14.4: the sums, by hand.
func TestSteps(t *testing.T) {
	for i, c := range []struct {
		code []api.Insn
		want int
	}{
		{program(exit()), 1},
		{filled(255, exit()), 256},
		{nested(1), 3},
		{nested(2), 4},
		{nested(16), 18},
		{nested(16, 16), 1 + 16 + 256 + 16 + 1},
		{nested(16, 16, 16), 1 + 16 + 256 + 4096 + 256 + 16 + 1},
		{nested(2, 3, 5), 1 + 2 + 6 + 30 + 6 + 2 + 1},
		{program(rep(4), end(), rep(5), end(), exit()), 1 + 4 + 1 + 5 + 1},
		{program(rep(4), exit(), end(), exit(), exit()), 1 + 4 + 4 + 1 + 1},
		{program(jump(3), rep(16), set(1), end(), exit()), 1 + 1 + 16 + 16 + 1}, // what is not gone to counts, too
	} {
		if n, e := Steps(c.code); n != c.want || e != api.OK {
			t.Errorf("%d: Steps: %d, %d, not %d", i, n, e, c.want)
		}
	}
	// The most that can be: more than MaxSteps, which is not asked here.
	most := append(program(rep(16), rep(16), rep(16)), append(filled(249), end(), end(), end(), exit())...)
	wantRight(t, most)
	if n, e := Steps(most); n != 1+16+256+250*4096+256+16+1 || e != api.OK {
		t.Errorf("Steps of the most: %d, %d", n, e)
	}
}

// few are the instructions of which short programs are put together.
func few() []api.Insn {
	return program(set(1), jump(0), jump(1), jeqi(0), jeqi(2), rep(1), rep(2), end(), exit())
}

// eachOf calls f with each program of n of the few, in one and the same memory.
func eachOf(n int, f func(code []api.Insn)) {
	var grow func(code []api.Insn)
	grow = func(code []api.Insn) {
		if len(code) == n {
			f(code)
			return
		}
		for _, x := range few() {
			grow(append(code, x))
		}
	}
	grow(make([]api.Insn, 0, n+1))
}

// P14.1 to P14.4, P14.7: all programs of up to five of these instructions, and with an OpExit behind them.
func TestAllShortPrograms(t *testing.T) {
	right := 0
	try := func(code []api.Insn) {
		if wantAs(t, code) {
			wantShape(t, code)
			right++
		}
	}
	for n := range 6 {
		eachOf(n, func(code []api.Insn) {
			try(code)
			try(append(code, exit()))
		})
	}
	if right < 5000 {
		t.Errorf("only %d were right", right)
	}
}

// some is a program with loops that are closed; its jumps may go into them.
func some(r *rand.Rand, n int, most int32) []api.Insn {
	code := make([]api.Insn, n)
	open := 0
	for at := range n - 1 {
		left := n - 1 - at
		switch k := r.Intn(12); {
		case open >= left || k < 2 && open > 0:
			code[at] = end()
			open--
		case k < 4 && open < 3 && left > open+1:
			code[at] = rep(1 + r.Int31n(most))
			open++
		case k < 6:
			code[at] = jumps(int16(min(r.Intn(6), left-1)))[r.Intn(11)]
		case k == 6 && r.Intn(3) == 0:
			code[at] = exit()
		default:
			code[at] = others()[r.Intn(len(others()))]
		}
	}
	code[n-1] = exit()
	return code
}

// mended is the program with its wrong jumps made to go to the next place, or onto an OpRep.
func mended(code []api.Insn) []api.Insn {
	code = slices.Clone(code)
	for {
		at, e := slowCheck(code)
		if e == api.OK || !slowIsJump(code[at]) {
			return code
		}
		code[at].Off = max(0, code[at].Off-1)
	}
}

// P14.1 to P14.4, P14.7: many programs, right ones and such with a thing changed.
func TestManyPrograms(t *testing.T) {
	r := rand.New(rand.NewSource(14))
	right, wrong := 0, 0
	for range 4000 {
		n := 1 + r.Intn(40)
		code := some(r, n, 16)
		for _, c := range [][]api.Insn{code, mended(code), changed(r, mended(code))} {
			if wantAs(t, c) {
				wantShape(t, c)
				right++
			} else {
				wrong++
			}
		}
	}
	for range 30 {
		wantAs(t, mended(some(r, 256, 16)))
		wantAs(t, changed(r, mended(some(r, 256, 16))))
	}
	if right < 3000 || wrong < 1000 {
		t.Errorf("%d were right, %d wrong", right, wrong)
	}
}

// changed has another instruction at one place, or one twice, or one less.
func changed(r *rand.Rand, code []api.Insn) []api.Insn {
	at := r.Intn(len(code))
	switch r.Intn(3) {
	case 0:
		return slices.Delete(slices.Clone(code), at, at+1)
	case 1:
		if len(code) < api.MaxCode {
			return slices.Insert(slices.Clone(code), at, code[r.Intn(len(code))])
		}
	}
	code = slices.Clone(code)
	code[at] = few()[r.Intn(len(few()))]
	return code
}

// P14.7: what follows for a program that is right.
func wantShape(t *testing.T, code []api.Insn) {
	t.Helper()
	l, _ := Loops(code)
	for i, a := range l {
		if a.Begin < 0 || a.Begin >= a.End || a.End >= len(code) || a.Times < 1 || a.Times > 16 || a.Depth < 1 || a.Depth > 3 {
			t.Fatalf("a loop of %v: %v", code, a)
		}
		for _, b := range l[i+1:] {
			if a.Begin >= b.Begin || b.Begin <= a.End && b.End >= a.End {
				t.Fatalf("two loops of %v: %v and %v", code, a, b)
			}
		}
	}
	for at := 1; at < len(code); at++ {
		if o := code[at-1].Op; o == api.OpExit || o == api.OpJump {
			continue
		}
		if next, _ := Next(code, at-1); !slices.Contains(next, at) {
			t.Fatalf("%d of %v does not come behind the one ahead: %v", at, code, next)
		}
	}
	if n, _ := Steps(code); n < len(code) || n > 16*16*16*len(code) {
		t.Fatalf("Steps of %v: %d", code, n)
	}
}

// spot is where a run is: the place, and how many rounds of each loop that it is in are still to be begun, by depths.
type spot struct {
	at   int
	left [3]int
}

// walk goes through all runs of a program by Next.
type walk struct {
	t      *testing.T
	code   []api.Insn
	loops  []api.Loop
	longer map[spot]int // the longest run from there on; 0: it is being gone through
}

// on is the spot behind one, if it goes to that place, and whether it may.
func (w *walk) on(s spot, to int) (spot, bool) {
	next := spot{to, s.left}
	switch x := w.code[s.at]; x.Op {
	case api.OpRep:
		i := slices.IndexFunc(w.loops, func(l api.Loop) bool { return l.Begin == s.at })
		next.left[w.loops[i].Depth-1] = w.loops[i].Times - 1
	case api.OpEnd:
		i := slices.IndexFunc(w.loops, func(l api.Loop) bool { return l.End == s.at })
		left := &next.left[w.loops[i].Depth-1]
		if back := to <= s.at; back != (*left > 0) {
			return spot{}, false
		}
		*left = max(0, *left-1)
	}
	// Loops that were left are forgotten.
	in := 0
	for _, l := range w.loops {
		if l.Begin < to && to <= l.End {
			in = max(in, l.Depth)
		}
	}
	clear(next.left[in:])
	return next, true
}

// longest is how many steps the longest run from there on has. It fails if one comes to where it was, or ends anywhere but at an OpExit.
func (w *walk) longest(s spot) int {
	w.t.Helper()
	if n, was := w.longer[s]; was {
		if n == 0 {
			w.t.Fatalf("a run of %v comes to %v again", w.code, s)
		}
		return n
	}
	w.longer[s] = 0
	l, e := Next(w.code, s.at)
	if e != api.OK {
		w.t.Fatalf("Next of %v at %d: %d", w.code, s.at, e)
	}
	most := 0
	for _, to := range l {
		if next, may := w.on(s, to); may {
			most = max(most, w.longest(next))
		}
	}
	if most == 0 && w.code[s.at].Op != api.OpExit {
		w.t.Fatalf("a run of %v ends at %v", w.code, s)
	}
	w.longer[s] = most + 1
	return most + 1
}

func longestRun(t *testing.T, code []api.Insn) int {
	t.Helper()
	l, e := Loops(code)
	if e != api.OK {
		t.Fatalf("Loops of %v: %d", code, e)
	}
	w := &walk{t, code, l, map[spot]int{}}
	return w.longest(spot{})
}

// P14.6 (W8): every run comes to an OpExit, with at most Steps steps; just as many, if there is no way but by all places.
func TestRunsEnd(t *testing.T) {
	r := rand.New(rand.NewSource(146))
	ran := 0
	for range 3000 {
		code := mended(some(r, 1+r.Intn(40), 4))
		if _, e := Check(code); e != api.OK {
			continue
		}
		ran++
		n, _ := Steps(code)
		if most := longestRun(t, code); most > n {
			t.Fatalf("a run of %v has %d steps, not %d", code, most, n)
		}
		for at, x := range code[:len(code)-1] {
			if x.Op == api.OpExit || slowIsJump(x) {
				code[at] = set(1)
			}
		}
		if most := longestRun(t, code); most != n {
			t.Fatalf("the run of %v has %d steps, not %d", code, most, n)
		}
	}
	if ran < 2000 {
		t.Errorf("only %d were gone through", ran)
	}
	for _, c := range [][]api.Insn{example(), nested(1), nested(16), nested(16, 16, 16), nested(1, 2, 1), program(exit()), filled(255, exit())} {
		if n, _ := Steps(c); longestRun(t, c) != n {
			t.Errorf("the run of %v has %d steps, not %d", c, longestRun(t, c), n)
		}
	}
}

// P14.5: what is handed in is as it was, its spare room too.
func TestHandedInIsOnlyRead(t *testing.T) {
	r := rand.New(rand.NewSource(145))
	for range 500 {
		room := append(some(r, 1+r.Intn(30), 16), bad()...)
		if r.Intn(4) == 0 {
			room[0] = bad()[0]
		}
		was := slices.Clone(room)
		code := room[:len(room)-len(bad())]
		Check(code)
		Loops(code)
		Steps(code)
		for at := -1; at <= len(code); at++ {
			Next(code, at)
		}
		if !slices.Equal(room, was) {
			t.Fatalf("%v became %v", was, room)
		}
	}
}

// P14.5: what is answered is new memory, and nothing of a program is kept.
func TestAnsweredIsNew(t *testing.T) {
	code := program(rep(2), rep(3), jeqi(1), set(1), end(), end(), exit())
	first, _ := Loops(code)
	second, _ := Loops(code)
	want := slowLoops(code)
	for i := range first {
		first[i] = api.Loop{Begin: 77}
	}
	_ = append(first[:1], api.Loop{Begin: 78})
	if third, _ := Loops(code); !slices.Equal(second, want) || !slices.Equal(third, want) {
		t.Errorf("Loops became %v, %v", second, third)
	}
	for at := range code {
		want := slowNext(code, at)
		first, _ := Next(code, at)
		second, _ := Next(code, at)
		for i := range first {
			first[i] = 77
		}
		_ = append(first[:0:cap(first)], 78)
		if third, _ := Next(code, at); !slices.Equal(second, want) || !slices.Equal(third, want) {
			t.Errorf("Next at %d became %v, %v", at, second, third)
		}
	}
	// The same memory with another program in it.
	loops, _ := Loops(code)
	kept := slices.Clone(loops)
	code[0], code[1] = set(1), rep(1)
	code[5] = set(1)
	wantRight(t, code)
	if !slices.Equal(loops, kept) {
		t.Errorf("Loops became %v when the program did", loops)
	}
	code[1] = set(1)
	wantWrong(t, code, 4, api.ErrFlow)
}
