package track

import (
	"math"
	"math/big"
	"math/rand"
	"slices"
	"testing"

	"sallyport/api"
)

// known is a list of pointers' numbers and their bytes, one behind the other.
func known(numbers ...int) []api.Known {
	var l []api.Known
	for i := 0; i < len(numbers); i += 2 {
		l = append(l, api.Known{Id: numbers[i], Bytes: numbers[i+1]})
	}
	return l
}

// two is the chapter's L.
func two() []api.Known { return known(0, 14, 7, 4) }

// whole is a list of all pointers.
func whole(n int) []api.Known {
	var l []api.Known
	for id := range api.MaxCode + 1 {
		l = append(l, api.Known{Id: id, Bytes: n})
	}
	return l
}

func at(id, off int) api.Value { return api.Value{Kind: api.KindPkt, Id: id, Off: off} }

func end() api.Value { return api.Value{Kind: api.KindEnd} }

func number(n uint64) api.Value {
	return api.Value{Kind: api.KindNum, Num: api.Span{Min: n, Max: n}}
}

// inForm are lists in their one form.
func inForm() [][]api.Known {
	return [][]api.Known{
		nil,
		{},
		known(0, 1),
		known(0, api.MaxPacket),
		known(api.MaxCode, 1),
		known(api.MaxCode, api.MaxPacket),
		known(3, 2047),
		two(),
		known(0, 1, 1, 1),
		known(0, 9, 1, 3, 2, 27, api.MaxCode-1, api.MaxPacket, api.MaxCode, 1),
		known(5, 20, 6, 10, 7, 5, 100, 40),
		whole(1),
		whole(77),
		whole(api.MaxPacket),
		whole(3)[1:],
		whole(3)[:api.MaxCode],
	}
}

// outOfForm are lists that are not, each with its error.
func outOfForm() map[string]struct {
	l []api.Known
	e api.Errno
} {
	type wrong = struct {
		l []api.Known
		e api.Errno
	}
	return map[string]wrong{
		"falls":                {known(7, 4, 0, 14), api.ErrArg},
		"falls behind":         {known(0, 1, 7, 4, 6, 14), api.ErrArg},
		"falls far behind":     {known(3, 1, 7, 4, 2, 14), api.ErrArg},
		"twice":                {known(7, 4, 7, 4), api.ErrArg},
		"0 twice":              {known(0, 4, 0, 5), api.ErrArg},
		"greatest twice":       {known(0, 4, api.MaxCode, 5, api.MaxCode, 5), api.ErrArg},
		"twice apart":          {known(1, 4, 7, 5, 1, 4), api.ErrArg},
		"below 0":              {known(-1, 4), api.ErrArg},
		"below 0, more behind": {known(-1, 4, 0, 4), api.ErrArg},
		"least":                {known(math.MinInt, 4, 0, 4), api.ErrArg},
		"257":                  {known(api.MaxCode+1, 1), api.ErrArg},
		"257 behind":           {known(0, 4, api.MaxCode, 1, api.MaxCode+1, 1), api.ErrArg},
		"greatest":             {known(0, 4, math.MaxInt, 1), api.ErrArg},
		"no bytes":             {known(0, 0), api.ErrArg},
		"no bytes behind":      {known(0, 4, 7, 0), api.ErrArg},
		"no bytes ahead":       {known(0, 0, 7, 4), api.ErrArg},
		"bytes below 0":        {known(0, -1), api.ErrArg},
		"least bytes":          {known(0, math.MinInt), api.ErrArg},
		"2049 bytes":           {known(0, api.MaxPacket+1), api.ErrArg},
		"2049 bytes behind":    {known(0, 4, 7, api.MaxPacket+1), api.ErrArg},
		"greatest bytes":       {known(0, math.MaxInt), api.ErrArg},
		"256 and no bytes":     {append(whole(1)[:api.MaxCode], api.Known{Id: api.MaxCode}), api.ErrArg},
		"257 of 0":             {make([]api.Known, api.MaxCode+1), api.ErrArg},
		"from 1 to 257":        {append(whole(1)[1:], api.Known{Id: api.MaxCode + 1, Bytes: 1}), api.ErrArg},
		"from -1 to 255":       {append(known(-1, 1), whole(1)[:api.MaxCode]...), api.ErrArg},
		"258":                  {append(whole(1), api.Known{Id: api.MaxCode + 1, Bytes: 1}), api.ErrMany},
		"258, the last again":  {append(whole(1), api.Known{Id: api.MaxCode, Bytes: 1}), api.ErrMany},
		"258 of 0":             {make([]api.Known, api.MaxCode+2), api.ErrMany},
		"258 of -1":            {slices.Repeat(known(-1, -1), api.MaxCode+2), api.ErrMany},
		"5000":                 {slices.Repeat(known(0, 1), 5000), api.ErrMany},
	}
}

// packetPointers are packet pointers that may be; notPointers values that are none.
func packetPointers() []api.Value {
	return []api.Value{at(0, 0), at(0, 12), at(0, api.MaxPacket), at(7, 0), at(7, 1), at(7, 2047), at(3, 5), at(api.MaxCode, 0), at(api.MaxCode, api.MaxPacket)}
}

func notPointers() []api.Value {
	return []api.Value{
		{},
		number(0),
		number(5),
		end(),
		{Kind: 4},
		{Kind: 255, Id: 1, Off: 1},
		{Kind: api.KindNone, Id: 7},
		{Kind: api.KindNum, Id: 7, Off: 3},
		{Kind: api.KindEnd, Id: 7, Off: 3},
		at(-1, 0),
		at(math.MinInt, 0),
		at(api.MaxCode+1, 0),
		at(math.MaxInt, 0),
		at(0, -1),
		at(7, math.MinInt),
		at(0, api.MaxPacket+1),
		at(7, math.MaxInt),
		{Kind: api.KindPkt, Num: api.Span{Max: 1}},
		{Kind: api.KindPkt, Num: api.Span{Min: 1}},
		{Kind: api.KindPkt, Id: 7, Off: 4, Num: api.Span{Min: 1, Max: 1}},
	}
}

// notEnds are values that are no end that may be.
func notEnds() []api.Value {
	return []api.Value{
		{},
		number(0),
		number(2048),
		{Kind: 4},
		{Kind: 255},
		{Kind: api.KindEnd, Id: 1},
		{Kind: api.KindEnd, Id: -1},
		{Kind: api.KindEnd, Off: 1},
		{Kind: api.KindEnd, Off: -1},
		{Kind: api.KindEnd, Num: api.Span{Min: 1}},
		{Kind: api.KindEnd, Num: api.Span{Max: 1}},
	}
}

// notIds are numbers that no pointer has.
func notIds() []int {
	return []int{-1, -2, math.MinInt, api.MaxCode + 1, api.MaxCode + 2, math.MaxInt}
}

func orders() []uint8 { return []uint8{api.OpJlt, api.OpJle, api.OpJgt, api.OpJge} }

// proved is what is known, by the pointers' numbers.
type proved [api.MaxCode + 1]int

// provedOf is of a list in its one form.
func provedOf(l []api.Known) proved {
	var p proved
	for _, k := range l {
		p[k.Id] = k.Bytes
	}
	return p
}

func (p proved) list() []api.Known {
	var l []api.Known
	for id, n := range p {
		if n > 0 {
			l = append(l, api.Known{Id: id, Bytes: n})
		}
	}
	return l
}

// someList has some pointers, often few ones, now and then all.
func someList(r *rand.Rand) []api.Known {
	var p proved
	for range []int{0, 1, 2, 5, 20, 600}[r.Intn(6)] {
		p[someId(r)] = 1 + someBytes(r)%api.MaxPacket
	}
	return p.list()
}

// someId is often one of a few, so that lists have some in common.
func someId(r *rand.Rand) int {
	if r.Intn(2) == 0 {
		return r.Intn(5)
	}
	return r.Intn(api.MaxCode + 1)
}

func someBytes(r *rand.Rand) int {
	switch r.Intn(4) {
	case 0:
		return r.Intn(10)
	case 1:
		return api.MaxPacket - r.Intn(10)
	}
	return r.Intn(api.MaxPacket + 1)
}

// wantList holds what a call answered against what it should have; what is told is in its one form.
func wantList(t *testing.T, what string, l []api.Known, e api.Errno, want []api.Known) {
	t.Helper()
	if !slices.Equal(l, want) || e != api.OK {
		t.Fatalf("%s: %v, %d; not %v", what, l, e, want)
	}
	if e := Check(l); e != api.OK {
		t.Fatalf("%s: %v is not in its one form: %d", what, l, e)
	}
}

func wantRefused(t *testing.T, what string, l []api.Known, e, want api.Errno) {
	t.Helper()
	if len(l) != 0 || e != want {
		t.Fatalf("%s: %v, %d; not error %d", what, l, e, want)
	}
}

func wantProve(t *testing.T, l []api.Known, id, n int, want []api.Known) {
	t.Helper()
	got, e := Prove(l, id, n)
	wantList(t, "Prove", got, e, want)
}

func wantForget(t *testing.T, l []api.Known, id int, want []api.Known) {
	t.Helper()
	got, e := Forget(l, id)
	wantList(t, "Forget", got, e, want)
}

// wantJoin asks it both ways round.
func wantJoin(t *testing.T, a, b, want []api.Known) {
	t.Helper()
	got, e := Join(a, b)
	wantList(t, "Join", got, e, want)
	got, e = Join(b, a)
	wantList(t, "Join, the other way round", got, e, want)
}

func wantWithin(t *testing.T, l []api.Known, v api.Value, off, size int, want bool) {
	t.Helper()
	if is, e := Within(l, v, off, size); is != want || e != api.OK {
		t.Fatalf("Within(%v, %v, %d, %d): %v, %d", l, v, off, size, is, e)
	}
}

func wantNotWithin(t *testing.T, l []api.Known, v api.Value, off, size int, want api.Errno) {
	t.Helper()
	if is, e := Within(l, v, off, size); is || e != want {
		t.Fatalf("Within(%v, %v, %d, %d): %v, %d; not error %d", l, v, off, size, is, e, want)
	}
}

func wantShown(t *testing.T, l []api.Known, op uint8, yes bool, a, b api.Value, want []api.Known) {
	t.Helper()
	got, e := Shown(l, op, yes, a, b)
	wantList(t, "Shown", got, e, want)
}

// P16.1
func TestCheck(t *testing.T) {
	for _, l := range inForm() {
		if e := Check(l); e != api.OK {
			t.Errorf("Check(%v): %d", l, e)
		}
	}
	for name, c := range outOfForm() {
		if e := Check(c.l); e != c.e {
			t.Errorf("Check, %s: %d, not %d", name, e, c.e)
		}
	}
}

func TestCheckOfEachNumber(t *testing.T) {
	for id := -3; id <= api.MaxCode+3; id++ {
		for n := -3; n <= api.MaxPacket+3; n++ {
			want := api.ErrArg
			if id >= 0 && id <= 256 && n >= 1 && n <= 2048 {
				want = api.OK
			}
			if e := Check(known(id, n)); e != want {
				t.Fatalf("Check(%d %d): %d", id, n, e)
			}
		}
	}
	for id := -3; id <= api.MaxCode+3; id++ {
		want := api.ErrArg
		if id > 100 && id <= 256 {
			want = api.OK
		}
		if e := Check(known(100, 5, id, 5)); e != want {
			t.Fatalf("Check(100 5, %d 5): %d", id, e)
		}
	}
}

// P16.1: of whatever list.
func TestBytes(t *testing.T) {
	for _, c := range []struct {
		l        []api.Known
		id, want int
	}{
		{two(), 0, 14}, {two(), 7, 4}, {two(), 3, 0}, {two(), -1, 0}, {two(), 257, 0}, {two(), 14, 0}, {two(), 4, 0},
		{nil, 0, 0}, {known(), 0, 0},
		{whole(3), 0, 3}, {whole(3), api.MaxCode, 3}, {whole(3), api.MaxCode + 1, 0}, {whole(3), -1, 0},
		// An Id that stands twice.
		{known(7, 4, 7, 5), 7, 4}, {known(7, 5, 7, 4), 7, 5}, {known(0, 9, 7, 5, 0, 4), 0, 9}, {known(7, 0, 7, 5), 7, 0}, {known(7, -3, 7, 5), 7, -3},
		// Ids that do not rise, and that no pointer has.
		{known(9, 1, 7, 2, 8, 3), 8, 3}, {known(9, 1, 7, 2, 8, 3), 7, 2}, {known(-1, 6, 0, 1), -1, 6}, {known(-1, 6, 0, 1), 0, 1}, {known(257, 6), 257, 6},
		{known(math.MinInt, 6, math.MaxInt, 8), math.MinInt, 6}, {known(math.MinInt, 6, math.MaxInt, 8), math.MaxInt, 8},
		// Bytes of any number.
		{known(0, 2049), 0, 2049}, {known(0, math.MaxInt), 0, math.MaxInt}, {known(0, math.MinInt), 0, math.MinInt}, {known(0, 0), 0, 0},
		// More elements than a list may have.
		{append(slices.Repeat(known(1, 1), 999), api.Known{Id: 2, Bytes: 7}), 2, 7}, {append(whole(3), api.Known{Id: 300, Bytes: 7}), 300, 7}, {slices.Repeat(known(1, 1), 999), 2, 0},
	} {
		if n := Bytes(c.l, c.id); n != c.want {
			t.Errorf("Bytes(%v, %d): %d, not %d", c.l, c.id, n, c.want)
		}
	}
	for _, l := range inForm() {
		p := provedOf(l)
		for id := -3; id <= api.MaxCode+3; id++ {
			want := 0
			if id >= 0 && id <= api.MaxCode {
				want = p[id]
			}
			if n := Bytes(l, id); n != want {
				t.Errorf("Bytes(%v, %d): %d, not %d", l, id, n, want)
			}
		}
	}
}

// P16.2
func TestProve(t *testing.T) {
	l := known(3, 14, 7, 4, 9, api.MaxPacket)
	for _, c := range []struct {
		id, n int
		want  []api.Known
	}{
		// Of a pointer that is in the list: less, as much, more.
		{3, 0, l}, {3, 1, l}, {3, 13, l}, {3, 14, l}, {3, 15, known(3, 15, 7, 4, 9, 2048)}, {3, 2047, known(3, 2047, 7, 4, 9, 2048)}, {3, 2048, known(3, 2048, 7, 4, 9, 2048)},
		{7, 0, l}, {7, 3, l}, {7, 4, l}, {7, 5, known(3, 14, 7, 5, 9, 2048)},
		{9, 0, l}, {9, 2047, l}, {9, 2048, l},
		// More than there can be.
		{3, 2049, known(3, 2048, 7, 4, 9, 2048)}, {7, 9999, known(3, 14, 7, 2048, 9, 2048)}, {7, math.MaxInt, known(3, 14, 7, 2048, 9, 2048)}, {9, 2049, l}, {9, math.MaxInt, l},
		// Of one that is not: ahead of all, between, behind all.
		{0, 1, known(0, 1, 3, 14, 7, 4, 9, 2048)}, {2, 2, known(2, 2, 3, 14, 7, 4, 9, 2048)}, {4, 3, known(3, 14, 4, 3, 7, 4, 9, 2048)}, {8, 4, known(3, 14, 7, 4, 8, 4, 9, 2048)}, {10, 5, known(3, 14, 7, 4, 9, 2048, 10, 5)}, {256, 6, known(3, 14, 7, 4, 9, 2048, 256, 6)},
		{0, 0, l}, {5, 0, l}, {256, 0, l},
		{0, 2048, known(0, 2048, 3, 14, 7, 4, 9, 2048)}, {5, 2049, known(3, 14, 5, 2048, 7, 4, 9, 2048)}, {256, math.MaxInt, known(3, 14, 7, 4, 9, 2048, 256, 2048)},
	} {
		wantProve(t, l, c.id, c.n, c.want)
	}
	wantProve(t, nil, 0, 0, nil)
	wantProve(t, nil, 256, 1, known(256, 1))
	wantProve(t, known(), 0, 2048, known(0, 2048))
	wantProve(t, whole(5), 100, 4, whole(5))
	wantProve(t, whole(5)[1:], 0, 5, whole(5))
	wantProve(t, whole(5)[:api.MaxCode], api.MaxCode, 5, whole(5))
	for _, l := range append(inForm(), two()) {
		for _, id := range notIds() {
			got, e := Prove(l, id, 2)
			wantRefused(t, "Prove, Id", got, e, api.ErrArg)
			got, e = Prove(l, id, 0)
			wantRefused(t, "Prove, Id and nothing", got, e, api.ErrArg)
		}
		for _, n := range []int{-1, -2, -2048, math.MinInt} {
			for _, id := range []int{0, 3, 7, 256, -1, 257} {
				got, e := Prove(l, id, n)
				wantRefused(t, "Prove, bytes", got, e, api.ErrArg)
			}
		}
	}
}

func TestForget(t *testing.T) {
	l := known(3, 14, 7, 4, 9, api.MaxPacket)
	for _, c := range []struct {
		id   int
		want []api.Known
	}{
		{3, known(7, 4, 9, 2048)}, {7, known(3, 14, 9, 2048)}, {9, known(3, 14, 7, 4)},
		{0, l}, {2, l}, {4, l}, {8, l}, {10, l}, {256, l},
	} {
		wantForget(t, l, c.id, c.want)
	}
	wantForget(t, nil, 0, nil)
	wantForget(t, known(), 256, nil)
	wantForget(t, known(0, 5), 0, nil)
	wantForget(t, known(256, 5), 256, nil)
	wantForget(t, whole(5), 0, whole(5)[1:])
	wantForget(t, whole(5), api.MaxCode, whole(5)[:api.MaxCode])
	for _, l := range append(inForm(), two()) {
		for _, id := range notIds() {
			got, e := Forget(l, id)
			wantRefused(t, "Forget", got, e, api.ErrArg)
		}
	}
}

func TestJoin(t *testing.T) {
	l := two()
	for _, c := range []struct{ a, b, want []api.Known }{
		// All in common: less, as much, more.
		{l, l, l}, {l, known(0, 13, 7, 3), known(0, 13, 7, 3)}, {l, known(0, 15, 7, 5), l}, {l, known(0, 13, 7, 5), known(0, 13, 7, 4)}, {l, known(0, 15, 7, 3), known(0, 14, 7, 3)},
		{l, known(0, 1, 7, 1), known(0, 1, 7, 1)}, {l, known(0, 2048, 7, 2048), l},
		// Some.
		{l, known(0, 10), known(0, 10)}, {l, known(7, 10), known(7, 4)}, {l, known(0, 10, 3, 5, 7, 6), known(0, 10, 7, 4)}, {l, known(3, 5, 7, 6, 256, 1), known(7, 4)}, {l, known(0, 20, 8, 9), known(0, 14)},
		// None.
		{l, known(1, 10, 6, 9, 8, 8), nil}, {l, known(256, 4), nil}, {known(0, 1), known(1, 1), nil},
		// One of no pointers, or both.
		{l, nil, nil}, {l, known(), nil}, {nil, nil, nil}, {known(), nil, nil}, {whole(9), nil, nil},
		// One of all.
		{whole(9), l, known(0, 9, 7, 4)}, {whole(9), whole(8), whole(8)}, {whole(2048), whole(1), whole(1)}, {whole(2048), l, l}, {whole(3)[1:], whole(4)[:api.MaxCode], whole(3)[1:api.MaxCode]},
	} {
		wantJoin(t, c.a, c.b, c.want)
	}
}

// P16.2: as the words go, of many lists.
func TestManyLists(t *testing.T) {
	r := rand.New(rand.NewSource(16))
	for range 5000 {
		a, b, id, n := someList(r), someList(r), someId(r), someBytes(r)+r.Intn(3)
		p := provedOf(a)
		if m := min(n, 2048); m > p[id] {
			p[id] = m
		}
		wantProve(t, a, id, n, p.list())
		p = provedOf(a)
		p[id] = 0
		wantForget(t, a, id, p.list())
		p = provedOf(a)
		for id, n := range provedOf(b) {
			p[id] = min(p[id], n)
		}
		wantJoin(t, a, b, p.list())
	}
}

// Errors: a list ahead of all else, the first one ahead of the second one.
func TestListsAreAskedFirst(t *testing.T) {
	for name, c := range outOfForm() {
		for _, id := range append(notIds(), 0, 7, 256) {
			for _, n := range []int{-1, 0, 5, 2049} {
				l, e := Prove(c.l, id, n)
				wantRefused(t, "Prove, "+name, l, e, c.e)
			}
			l, e := Forget(c.l, id)
			wantRefused(t, "Forget, "+name, l, e, c.e)
		}
		for _, v := range append(notPointers(), packetPointers()...) {
			for _, size := range []int{-1, 0, 1, 8, 9} {
				wantNotWithin(t, c.l, v, 0, size, c.e)
			}
			for _, op := range append(orders(), api.OpJeq, 0, 255) {
				for _, yes := range []bool{true, false} {
					l, e := Shown(c.l, op, yes, v, end())
					wantRefused(t, "Shown, "+name, l, e, c.e)
					l, e = Shown(c.l, op, yes, at(0, 1), v)
					wantRefused(t, "Shown, "+name, l, e, c.e)
				}
			}
		}
		for _, l := range inForm() {
			got, e := Join(c.l, l)
			wantRefused(t, "Join, a: "+name, got, e, c.e)
			got, e = Join(l, c.l)
			wantRefused(t, "Join, b: "+name, got, e, c.e)
		}
		for other, d := range outOfForm() {
			got, e := Join(c.l, d.l)
			wantRefused(t, "Join, a: "+name+", b: "+other, got, e, c.e)
		}
	}
}

// slowWithin counts in numbers without an end.
func slowWithin(proved int, v api.Value, off, size int) bool {
	first := new(big.Int).Add(big.NewInt(int64(v.Off)), big.NewInt(int64(off)))
	behind := new(big.Int).Add(first, big.NewInt(int64(size)))
	return first.Sign() >= 0 && behind.Cmp(big.NewInt(int64(proved))) <= 0
}

// P16.3: at each edge: the byte ahead of the pointer's place, the first one, the last proved one, the one behind it.
func TestWithinAtTheEdges(t *testing.T) {
	l := known(0, 14, 7, 1, 9, api.MaxPacket)
	for _, c := range []struct {
		id, off, by, size int
		want              bool
	}{
		{0, 0, 0, 1, true}, {0, 0, -1, 1, false}, {0, 0, -1, 2, false}, {0, 0, -1, 8, false}, {0, 0, 0, 8, true}, {0, 0, 6, 8, true}, {0, 0, 7, 8, false}, {0, 0, 13, 1, true}, {0, 0, 14, 1, false}, {0, 0, 13, 2, false}, {0, 0, 15, 1, false},
		{0, 12, 0, 2, true}, {0, 12, 0, 3, false}, {0, 12, 1, 1, true}, {0, 12, 2, 1, false}, {0, 12, -12, 1, true}, {0, 12, -12, 8, true}, {0, 12, -13, 1, false}, {0, 12, -13, 8, false}, {0, 12, -6, 8, true}, {0, 12, -5, 8, false},
		{0, 14, 0, 1, false}, {0, 14, -1, 1, true}, {0, 14, -1, 2, false}, {0, 14, -14, 8, true}, {0, 14, -15, 8, false},
		// A pointer that is further on than what is proved.
		{0, 2048, 0, 1, false}, {0, 2048, -2034, 1, false}, {0, 2048, -2035, 1, true}, {0, 2048, -2048, 8, true}, {0, 2048, -2049, 1, false},
		// One byte, all bytes, none.
		{7, 0, 0, 1, true}, {7, 0, 0, 2, false}, {7, 0, 1, 1, false}, {7, 0, -1, 1, false}, {7, 1, -1, 1, true}, {7, 1, -1, 2, false}, {7, 1, 0, 1, false},
		{9, 0, 2047, 1, true}, {9, 0, 2048, 1, false}, {9, 0, 2040, 8, true}, {9, 0, 2041, 8, false}, {9, 2048, -1, 1, true}, {9, 2048, -8, 8, true}, {9, 2048, -7, 8, false}, {9, 2048, -2048, 1, true}, {9, 2048, -2049, 1, false}, {9, 2047, 0, 1, true}, {9, 2047, 1, 1, false},
		{3, 0, 0, 1, false}, {3, 5, -5, 1, false}, {3, 5, 0, 8, false}, {256, 0, 0, 1, false},
	} {
		wantWithin(t, l, at(c.id, c.off), c.by, c.size, c.want)
	}
	// Very great and very small.
	for _, v := range packetPointers() {
		for _, off := range []int{math.MinInt, math.MinInt + 1, math.MinInt + 8, math.MinInt + 2048, math.MinInt + 2049, math.MaxInt, math.MaxInt - 1, math.MaxInt - 7, math.MaxInt - 8, math.MaxInt - 2047, math.MaxInt - 2048, math.MaxInt - 2056, 1 << 32, 1<<32 + 1, -1 << 32, 1 << 31, -1 << 31, 1 << 16, -1 << 16} {
			for size := 1; size <= 8; size++ {
				wantWithin(t, l, v, off, size, false)
				wantWithin(t, whole(api.MaxPacket), v, off, size, false)
			}
		}
	}
}

func TestWithinAsTheWordsGo(t *testing.T) {
	for _, n := range []int{0, 1, 2, 7, 8, 9, 14, 2047, 2048} {
		l := known(1, 1000, 5, n, 9, 1000)
		if n == 0 {
			l = known(1, 1000, 9, 1000)
		}
		for _, off := range []int{0, 1, 2, 7, 8, 12, 14, 2040, 2047, 2048} {
			v := at(5, off)
			for by := -off - 10; by <= n-off+10; by++ {
				for size := 1; size <= 8; size++ {
					wantWithin(t, l, v, by, size, slowWithin(n, v, by, size))
				}
			}
		}
	}
}

func TestWithinErrors(t *testing.T) {
	sizes := []int{0, -1, -8, math.MinInt, 9, 10, math.MaxInt}
	for _, l := range inForm() {
		for _, v := range notPointers() {
			for _, size := range append(sizes, 1, 8) {
				wantNotWithin(t, l, v, 0, size, api.ErrKind)
			}
		}
		for _, v := range packetPointers() {
			for _, size := range sizes {
				for _, off := range []int{0, 1, -1, math.MinInt, math.MaxInt} {
					wantNotWithin(t, l, v, off, size, api.ErrArg)
				}
			}
		}
	}
}

// P16.4: what each comparison says of a pointer that is off further on, and the end.
func TestShown(t *testing.T) {
	const nothing, atMost, below = -1, 0, 1
	for _, c := range []struct {
		op            uint8
		yes           bool
		first, second int // the pointer as a, as b
	}{
		{api.OpJlt, true, below, nothing}, {api.OpJlt, false, nothing, atMost},
		{api.OpJle, true, atMost, nothing}, {api.OpJle, false, nothing, below},
		{api.OpJgt, true, nothing, below}, {api.OpJgt, false, atMost, nothing},
		{api.OpJge, true, nothing, atMost}, {api.OpJge, false, below, nothing},
	} {
		for _, l := range [][]api.Known{nil, known(5, 1), known(5, 8), known(5, 9), known(5, 10), known(5, 2048), two(), known(0, 3, 6, 3), known(4, 3, 5, 2047, 6, 3), whole(9)} {
			for _, off := range []int{0, 1, 7, 8, 9, 2046, 2047, 2048} {
				for i, says := range []int{c.first, c.second} {
					p := provedOf(l)
					if says != nothing {
						p[5] = max(p[5], min(off+says, 2048))
					}
					a, b := at(5, off), end()
					if i == 1 {
						a, b = b, a
					}
					wantShown(t, l, c.op, c.yes, a, b, p.list())
				}
			}
		}
	}
}

func TestShownOfEachPointer(t *testing.T) {
	l := known(3, 14, 7, 4)
	for id := range api.MaxCode + 1 {
		p := provedOf(l)
		p[id] = max(p[id], 10)
		wantShown(t, l, api.OpJle, true, at(id, 10), end(), p.list())
		wantShown(t, l, api.OpJlt, true, at(id, 9), end(), p.list())
		wantShown(t, l, api.OpJle, false, end(), at(id, 9), p.list())
		wantShown(t, l, api.OpJlt, false, end(), at(id, 10), p.list())
		wantShown(t, l, api.OpJle, true, end(), at(id, 10), l)
		wantShown(t, l, api.OpJlt, false, at(id, 10), end(), l)
	}
}

func TestShownErrors(t *testing.T) {
	values := append(append(notPointers(), notEnds()...), packetPointers()...)
	isOne := func(v api.Value) bool { return slices.Contains(packetPointers(), v) }
	for _, l := range [][]api.Known{nil, two(), whole(7)} {
		for op := range 256 {
			order := slices.Contains(orders(), uint8(op))
			for _, yes := range []bool{true, false} {
				for _, v := range values {
					if !order {
						got, e := Shown(l, uint8(op), yes, v, end())
						wantRefused(t, "Shown, operation, a", got, e, api.ErrArg)
						got, e = Shown(l, uint8(op), yes, end(), v)
						wantRefused(t, "Shown, operation, b", got, e, api.ErrArg)
						continue
					}
					if !isOne(v) {
						got, e := Shown(l, uint8(op), yes, v, end())
						wantRefused(t, "Shown, a and the end", got, e, api.ErrKind)
						got, e = Shown(l, uint8(op), yes, end(), v)
						wantRefused(t, "Shown, the end and b", got, e, api.ErrKind)
					}
					if v != end() {
						got, e := Shown(l, uint8(op), yes, v, at(7, 3))
						wantRefused(t, "Shown, a and a pointer", got, e, api.ErrKind)
						got, e = Shown(l, uint8(op), yes, at(7, 3), v)
						wantRefused(t, "Shown, a pointer and b", got, e, api.ErrKind)
					}
				}
			}
		}
	}
}

// calls are all that answer a list; those too that change nothing, and that refuse.
func calls() map[string]func(l []api.Known) ([]api.Known, api.Errno) {
	return map[string]func(l []api.Known) ([]api.Known, api.Errno){
		"Prove, more":      func(l []api.Known) ([]api.Known, api.Errno) { return Prove(l, 7, 2000) },
		"Prove, anew":      func(l []api.Known) ([]api.Known, api.Errno) { return Prove(l, 2, 20) },
		"Prove, behind":    func(l []api.Known) ([]api.Known, api.Errno) { return Prove(l, 256, 20) },
		"Prove, nothing":   func(l []api.Known) ([]api.Known, api.Errno) { return Prove(l, 7, 0) },
		"Prove, refused":   func(l []api.Known) ([]api.Known, api.Errno) { return Prove(l, -1, 0) },
		"Forget":           func(l []api.Known) ([]api.Known, api.Errno) { return Forget(l, 7) },
		"Forget, the last": func(l []api.Known) ([]api.Known, api.Errno) { return Forget(l, 256) },
		"Forget, nothing":  func(l []api.Known) ([]api.Known, api.Errno) { return Forget(l, 2) },
		"Forget, refused":  func(l []api.Known) ([]api.Known, api.Errno) { return Forget(l, 257) },
		"Join, a":          func(l []api.Known) ([]api.Known, api.Errno) { return Join(l, known(0, 3, 8, 8)) },
		"Join, b":          func(l []api.Known) ([]api.Known, api.Errno) { return Join(known(0, 3, 8, 8), l) },
		"Join, all":        func(l []api.Known) ([]api.Known, api.Errno) { return Join(l, whole(2048)) },
		"Join, all, b":     func(l []api.Known) ([]api.Known, api.Errno) { return Join(whole(2048), l) },
		"Join, itself":     func(l []api.Known) ([]api.Known, api.Errno) { return Join(l, l) },
		"Join, none":       func(l []api.Known) ([]api.Known, api.Errno) { return Join(l, nil) },
		"Join, refused":    func(l []api.Known) ([]api.Known, api.Errno) { return Join(l, known(0, 0)) },
		"Shown, more":      func(l []api.Known) ([]api.Known, api.Errno) { return Shown(l, api.OpJle, true, at(7, 99), end()) },
		"Shown, anew":      func(l []api.Known) ([]api.Known, api.Errno) { return Shown(l, api.OpJgt, true, end(), at(2, 99)) },
		"Shown, nothing":   func(l []api.Known) ([]api.Known, api.Errno) { return Shown(l, api.OpJgt, true, at(7, 99), end()) },
		"Shown, no more":   func(l []api.Known) ([]api.Known, api.Errno) { return Shown(l, api.OpJle, true, at(7, 0), end()) },
		"Shown, refused":   func(l []api.Known) ([]api.Known, api.Errno) { return Shown(l, api.OpJle, true, end(), end()) },
		"Shown, operation": func(l []api.Known) ([]api.Known, api.Errno) { return Shown(l, api.OpJeq, true, at(7, 99), end()) },
		"Check, then none": func(l []api.Known) ([]api.Known, api.Errno) { return nil, Check(l) },
		"Bytes, then none": func(l []api.Known) ([]api.Known, api.Errno) { return nil, api.Errno(Bytes(l, 7)) },
		"Within, then none": func(l []api.Known) ([]api.Known, api.Errno) {
			_, e := Within(l, at(7, 0), 0, 4)
			return nil, e
		},
	}
}

// scribble writes over a list and its spare room.
func scribble(l []api.Known) {
	l = l[:cap(l)]
	for i := range l {
		l[i] = api.Known{Id: -77, Bytes: -77}
	}
}

// P16.5: what is handed in is only read, its spare room neither written; what is answered is new memory.
func TestMemory(t *testing.T) {
	lists := inForm()
	for _, c := range outOfForm() {
		lists = append(lists, c.l)
	}
	for name, call := range calls() {
		for _, l := range lists {
			memory := slices.Concat(known(1, 2), l, known(256, 9, 4, 4, 7, 7))
			ahead := slices.Clone(memory)
			handed := memory[1 : 1+len(l)]
			first, e := call(handed)
			if !slices.Equal(memory, ahead) {
				t.Fatalf("%s of %v writes to what was handed in", name, l)
			}
			told := slices.Clone(first)
			second, f := call(handed)
			if !slices.Equal(second, told) || f != e {
				t.Fatalf("%s of %v: %v, %d, then %v, %d", name, l, told, e, second, f)
			}
			scribble(second)
			if !slices.Equal(first, told) {
				t.Fatalf("%s of %v: two answers share their memory", name, l)
			}
			scribble(first)
			if !slices.Equal(memory, ahead) {
				t.Fatalf("%s of %v: the answer shares memory with what was handed in", name, l)
			}
			if third, g := call(handed); !slices.Equal(third, told) || g != e {
				t.Fatalf("%s of %v: %v, %d, behind a write to the answer %v, %d", name, l, told, e, third, g)
			}
		}
	}
}

func TestJoinShareNothing(t *testing.T) {
	a, b := known(0, 3, 7, 9), known(0, 3, 7, 9)
	l, _ := Join(a, b)
	scribble(l)
	if !slices.Equal(a, known(0, 3, 7, 9)) || !slices.Equal(b, known(0, 3, 7, 9)) {
		t.Errorf("%v, %v", a, b)
	}
	l, _ = Join(a, b)
	scribble(a)
	scribble(b)
	if !slices.Equal(l, known(0, 3, 7, 9)) {
		t.Errorf("%v", l)
	}
}

// scene is a packet of so many bytes, and where its pointers lie; some behind its end.
type scene struct {
	bytes  int
	places [api.MaxCode + 1]int
}

func someScene(r *rand.Rand) scene {
	s := scene{bytes: someBytes(r)}
	for id := range s.places {
		s.places[id] = r.Intn(s.bytes + 1)
		if r.Intn(8) == 0 {
			s.places[id] = s.bytes + r.Intn(2048)
		}
	}
	if r.Intn(2) == 0 {
		s.places[0] = 0
	}
	return s
}

func (s scene) isTrue(l []api.Known) bool {
	for _, k := range l {
		if s.places[k.Id]+k.Bytes > s.bytes {
			return false
		}
	}
	return true
}

// trueList is something that is true of the scene, often all that is.
func (s scene) trueList(r *rand.Rand) []api.Known {
	var p proved
	for id, place := range s.places {
		if room := s.bytes - place; room > 0 && r.Intn(3) > 0 {
			p[id] = room
			if r.Intn(2) == 0 {
				p[id] = 1 + r.Intn(room)
			}
		}
	}
	return p.list()
}

// isSo tells whether the comparison is so of two places.
func isSo(op uint8, a, b int) bool {
	switch op {
	case api.OpJlt:
		return a < b
	case api.OpJle:
		return a <= b
	case api.OpJgt:
		return a > b
	}
	return a >= b
}

// wantShownTrue asks, of a pointer that lies in the scene, each comparison as it is.
func wantShownTrue(t *testing.T, s scene, l []api.Known, v api.Value) {
	t.Helper()
	place := s.places[v.Id] + v.Off
	for _, op := range orders() {
		got, e := Shown(l, op, isSo(op, place, s.bytes), v, end())
		if e != api.OK || !s.isTrue(got) {
			t.Fatalf("%d bytes, pointer at %d: Shown(%v, %d, .., %v, end): %v, %d", s.bytes, s.places[v.Id], l, op, v, got, e)
		}
		got, e = Shown(l, op, isSo(op, s.bytes, place), end(), v)
		if e != api.OK || !s.isTrue(got) {
			t.Fatalf("%d bytes, pointer at %d: Shown(%v, %d, .., end, %v): %v, %d", s.bytes, s.places[v.Id], l, op, v, got, e)
		}
	}
}

// wantAccessWithin holds an access that Within tells against the packet.
func wantAccessWithin(t *testing.T, s scene, l []api.Known, v api.Value, off, size int) {
	t.Helper()
	is, e := Within(l, v, off, size)
	first := s.places[v.Id] + v.Off + off
	if e != api.OK || is && (first < 0 || first+size > s.bytes) {
		t.Fatalf("%d bytes, pointer at %d: Within(%v, %v, %d, %d): %v, %d", s.bytes, s.places[v.Id], l, v, off, size, is, e)
	}
}

// P16.6, W2: all that there can be of a small packet and one pointer.
func TestTrueOfSmallPackets(t *testing.T) {
	for n := range 12 {
		for place := range n + 4 {
			s := scene{bytes: n}
			s.places[5] = place
			for proved := 0; proved == 0 || proved <= n-place; proved++ {
				var l []api.Known
				if proved > 0 {
					l = known(5, proved)
				}
				for off := range 14 {
					wantShownTrue(t, s, l, at(5, off))
					for by := -16; by <= 16; by++ {
						for size := 1; size <= 8; size++ {
							wantAccessWithin(t, s, l, at(5, off), by, size)
						}
					}
				}
			}
		}
	}
}

func TestTrueOfManyPackets(t *testing.T) {
	r := rand.New(rand.NewSource(2))
	for range 200 {
		s := someScene(r)
		l := s.trueList(r)
		for range 20 {
			v := at(someId(r), someBytes(r))
			if r.Intn(2) == 0 {
				v.Off = min(max(0, s.bytes-s.places[v.Id]+r.Intn(5)-2), api.MaxPacket)
			}
			wantShownTrue(t, s, l, v)
			for range 20 {
				by := -v.Off + r.Intn(s.bytes+10) - 5
				wantAccessWithin(t, s, l, v, by, 1+r.Intn(8))
				by = Bytes(l, v.Id) - v.Off - r.Intn(12) + 2
				wantAccessWithin(t, s, l, v, by, 1+r.Intn(8))
			}
		}
	}
}

// says tells whether a says all that b says.
func says(a, b []api.Known) bool {
	p, q := provedOf(a), provedOf(b)
	for id := range p {
		if p[id] < q[id] {
			return false
		}
	}
	return true
}

// P16.7: what Join tells follows from each, hangs on no order, and is all that both know.
func TestJoinFollowsFromBoth(t *testing.T) {
	r := rand.New(rand.NewSource(7))
	for range 3000 {
		a, b, c := someList(r), someList(r), someList(r)
		l, e := Join(a, b)
		turned, f := Join(b, a)
		if e != api.OK || f != api.OK || !slices.Equal(l, turned) || Check(l) != api.OK || !says(a, l) || !says(b, l) {
			t.Fatalf("Join(%v, %v): %v, %d; the other way round %v, %d", a, b, l, e, turned, f)
		}
		if both, _ := Join(a, c); says(a, both) && says(b, both) && !says(l, both) {
			t.Fatalf("Join(%v, %v): %v, less than %v", a, b, l, both)
		}
		left, _ := Join(l, c)
		right, _ := Join(b, c)
		right, _ = Join(a, right)
		if !slices.Equal(left, right) {
			t.Fatalf("Join of %v, %v, %v: %v, or %v", a, b, c, left, right)
		}
		wantJoin(t, a, a, a)
	}
	for range 500 {
		s := someScene(r)
		l, e := Join(s.trueList(r), someList(r))
		if e != api.OK || !s.isTrue(l) {
			t.Fatalf("Join: %v, %d is not true of %d bytes", l, e, s.bytes)
		}
	}
}

// P16.7: more proofs take nothing away, in the form and in what Within admits.
func TestProofsStay(t *testing.T) {
	r := rand.New(rand.NewSource(8))
	for range 300 {
		l := someList(r)
		for range 30 {
			ahead := slices.Clone(l)
			v, e := at(someId(r), someBytes(r)), api.OK
			switch r.Intn(3) {
			case 0:
				l, e = Prove(l, v.Id, someBytes(r)+r.Intn(9))
			case 1:
				l, e = Shown(l, orders()[r.Intn(4)], r.Intn(2) == 0, v, end())
			case 2:
				l, e = Shown(l, orders()[r.Intn(4)], r.Intn(2) == 0, end(), v)
			}
			if e != api.OK || Check(l) != api.OK || !says(l, ahead) {
				t.Fatalf("%v, then %v, %d", ahead, l, e)
			}
			v = at(someId(r), someBytes(r))
			off, size := r.Intn(20)-v.Off, 1+r.Intn(8)
			if is, _ := Within(ahead, v, off, size); is {
				wantWithin(t, l, v, off, size, true)
			}
		}
	}
}

// Forgetting takes the one pointer's proof alone; it can be proved again.
func TestForgottenIsProvedAgain(t *testing.T) {
	r := rand.New(rand.NewSource(9))
	for range 2000 {
		l := someList(r)
		id := someId(r)
		n := Bytes(l, id)
		gone, e := Forget(l, id)
		if e != api.OK || Check(gone) != api.OK || Bytes(gone, id) != 0 || !says(l, gone) {
			t.Fatalf("Forget(%v, %d): %v, %d", l, id, gone, e)
		}
		wantWithin(t, gone, at(id, 0), 0, 1, false)
		wantForget(t, gone, id, gone)
		wantProve(t, gone, id, n, l)
	}
}

// The chapter's examples.
func TestExamples(t *testing.T) {
	for i, c := range []struct {
		l []api.Known
		e api.Errno
	}{{two(), api.OK}, {known(7, 4, 0, 14), api.ErrArg}, {known(0, 0), api.ErrArg}, {known(257, 1), api.ErrArg}} {
		if e := Check(c.l); e != c.e {
			t.Errorf("Check %d: %d", i, e)
		}
	}
	if n, m := Bytes(two(), 7), Bytes(two(), 3); n != 4 || m != 0 {
		t.Errorf("Bytes: %d, %d", n, m)
	}
	wantProve(t, two(), 0, 20, known(0, 20, 7, 4))
	wantProve(t, two(), 0, 3, two())
	wantProve(t, two(), 3, 2, known(0, 14, 3, 2, 7, 4))
	wantProve(t, two(), 7, 9999, known(0, 14, 7, 2048))
	wantProve(t, two(), 3, 0, two())
	l, e := Prove(two(), -1, 2)
	wantRefused(t, "Prove", l, e, api.ErrArg)
	wantForget(t, two(), 0, known(7, 4))
	wantForget(t, two(), 9, two())
	wantJoin(t, two(), known(0, 10, 3, 5, 7, 6), known(0, 10, 7, 4))
	wantJoin(t, two(), nil, nil)
	wantWithin(t, two(), at(0, 12), 0, 2, true)
	wantWithin(t, two(), at(0, 12), 0, 4, false)
	wantWithin(t, two(), at(0, 12), -12, 1, true)
	wantWithin(t, two(), at(0, 12), -13, 1, false)
	wantWithin(t, two(), at(3, 0), 0, 1, false)
	wantNotWithin(t, two(), number(0), 0, 1, api.ErrKind)
	wantShown(t, nil, api.OpJle, true, at(0, 20), end(), known(0, 20))
	wantShown(t, nil, api.OpJlt, true, at(0, 20), end(), known(0, 21))
	wantShown(t, nil, api.OpJgt, false, at(0, 20), end(), known(0, 20))
	wantShown(t, nil, api.OpJge, true, at(0, 20), end(), nil)
	wantShown(t, nil, api.OpJge, true, end(), at(5, 8), known(5, 8))
	wantShown(t, nil, api.OpJgt, true, end(), at(5, 8), known(5, 9))
	wantShown(t, nil, api.OpJlt, false, end(), at(5, 8), known(5, 8))
	wantShown(t, nil, api.OpJle, false, end(), at(5, 8), known(5, 9))
	wantShown(t, nil, api.OpJlt, true, end(), at(5, 8), nil)
}
