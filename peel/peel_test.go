package peel

import (
	"bytes"
	"math/rand"
	"slices"
	"testing"

	"sallyport/api"
	"sallyport/dgram"
	"sallyport/link"
	"sallyport/net4"
	"sallyport/net6"
	"sallyport/seg"
	"sallyport/tag"
)

// sizes are the chapters' sizes of the kinds' headers, by the kinds' numbers.
var sizes = [7]int{0, 14, 4, 20, 40, 20, 8}

func linkOf(v uint16) api.Head {
	return api.Head{Kind: api.HeadLink, Link: api.Link{Dst: [6]byte{1, 2, 3, 4, 5, 6}, Src: [6]byte{17, 18, 19, 20, 21, 22}, Type: v}}
}

func tagOf(v uint16) api.Head {
	return api.Head{Kind: api.HeadTag, Tag: api.Tag{Prio: 5, Id: 291, Type: v}}
}

func net4Of(v uint8) api.Head {
	return api.Head{Kind: api.HeadNet4, Net4: api.Net4{Tos: 3, Ttl: 64, Proto: v, Id: 1, Src: [4]byte{10, 0, 0, 1}, Dst: [4]byte{10, 0, 0, 2}}}
}

func net6Of(v uint8) api.Head {
	return api.Head{Kind: api.HeadNet6, Net6: api.Net6{Class: 0x12, Flow: 0x34567, Next: v, Hops: 64, Src: [16]byte{1, 2}, Dst: [16]byte{3, 4}}}
}

func segOf() api.Head {
	return api.Head{Kind: api.HeadSeg, Seg: api.Seg{SrcPort: 80, DstPort: 1024, Seq: 1, Ack: 2, Flags: 2, Window: 512}}
}

func dgramOf() api.Head {
	return api.Head{Kind: api.HeadDgram, Dgram: api.Dgram{SrcPort: 53, DstPort: 1024}}
}

// bytesOf is the bytes of a header ahead of a payload.
func bytesOf(t *testing.T, h api.Head, payload []byte) []byte {
	t.Helper()
	var b []byte
	e := api.ErrHead
	switch h.Kind {
	case api.HeadLink:
		b, e = link.Bytes(h.Link, payload)
	case api.HeadTag:
		b, e = tag.Bytes(h.Tag, payload)
	case api.HeadNet4:
		b, e = net4.Bytes(h.Net4, payload)
	case api.HeadNet6:
		b, e = net6.Bytes(h.Net6, payload)
	case api.HeadSeg:
		b, e = seg.Bytes(h.Seg, payload)
	case api.HeadDgram:
		b, e = dgram.Bytes(h.Dgram, payload)
	}
	if e != api.OK {
		t.Fatalf("the bytes of %v ahead of %d: %d", h, len(payload), e)
	}
	return b
}

// stack is headers ahead of a payload, the last one put there first.
func stack(t *testing.T, payload []byte, l ...api.Head) []byte {
	t.Helper()
	p := bytes.Clone(payload)
	for _, h := range slices.Backward(l) {
		p = append(bytesOf(t, h, p), p...)
	}
	return p
}

// tagged is a Link and so many Tags, each of which says the next one; the last header says what is asked for.
func tagged(tags int, last uint16) []api.Head {
	l := []api.Head{linkOf(0x8100)}
	for range tags {
		l = append(l, tagOf(0x8100))
	}
	if tags == 0 {
		l[0].Link.Type = last
	} else {
		l[tags].Tag.Type = last
	}
	return l
}

// counted are the bytes 1, 2, 3 and on.
func counted(n int) []byte {
	b := make([]byte, n)
	for i := range b {
		b[i] = byte(i + 1)
	}
	return b
}

// ways are lists of headers, each of which says the kind of the next one, and the last one none: each kind is behind each that can say it.
func ways() [][]api.Head {
	l := [][]api.Head{}
	for tags := range 6 {
		l = append(l,
			tagged(tags, 0),
			tagged(tags, 0x0806),
			append(tagged(tags, 0x0800), net4Of(0)),
			append(tagged(tags, 0x86dd), net6Of(59)),
			append(tagged(tags, 0x0800), net4Of(6), segOf()),
			append(tagged(tags, 0x0800), net4Of(17), dgramOf()),
			append(tagged(tags, 0x86dd), net6Of(6), segOf()),
			append(tagged(tags, 0x86dd), net6Of(17), dgramOf()),
		)
	}
	return append(l, tagged(6, 0), append(tagged(6, 0x0800), net4Of(1)), append(tagged(6, 0x86dd), net6Of(0)), tagged(7, 0))
}

func wantPeel(t *testing.T, p []byte, heads []api.Head, rest []byte) {
	t.Helper()
	l, r, e := Peel(p)
	if !slices.Equal(l, heads) || !bytes.Equal(r, rest) || e != api.OK {
		t.Errorf("Peel of %d bytes: %v, %d bytes, %d, not %v, %d bytes", len(p), l, len(r), e, heads, len(rest))
	}
}

// wantError holds of Peel, and of Where, too, whatever kind it looks for.
func wantError(t *testing.T, p []byte, want api.Errno) {
	t.Helper()
	if l, r, e := Peel(p); len(l) != 0 || len(r) != 0 || e != want {
		t.Errorf("Peel of %d bytes: %v, %x, %d, not %d", len(p), l, r, e, want)
	}
	for kind := api.HeadLink; kind <= api.HeadDgram; kind++ {
		if at, is, e := Where(p, kind); at != (api.Range{}) || is || e != want {
			t.Errorf("Where of %d in %d bytes: %v, %v, %d, not %d", kind, len(p), at, is, e, want)
		}
	}
}

func wantNext(t *testing.T, h api.Head, kind uint8) {
	t.Helper()
	if k, is := Next(h); k != kind || is != (kind != 0) {
		t.Errorf("Next of %v: %d, %v, not %d", h, k, is, kind)
	}
}

func wantWhere(t *testing.T, p []byte, kind uint8, at api.Range) {
	t.Helper()
	if r, is, e := Where(p, kind); r != at || !is || e != api.OK {
		t.Errorf("Where of %d in %x: %v, %v, %d, not %v", kind, p, r, is, e, at)
	}
}

func wantNowhere(t *testing.T, p []byte, kind uint8, want api.Errno) {
	t.Helper()
	if r, is, e := Where(p, kind); r != (api.Range{}) || is || e != want {
		t.Errorf("Where of %d in %x: %v, %v, %d, not %d", kind, p, r, is, e, want)
	}
}

// turned is a packet with some bits of one byte turned.
func turned(p []byte, at int, by byte) []byte {
	q := bytes.Clone(p)
	q[at] ^= by
	return q
}

// The chapter's examples, one line after the other.
func TestExamples(t *testing.T) {
	wantNext(t, api.Head{Kind: api.HeadLink, Link: api.Link{Type: 0x8100}}, 2)
	wantNext(t, api.Head{Kind: api.HeadTag, Tag: api.Tag{Type: 0x86dd}}, 4)
	wantNext(t, api.Head{Kind: api.HeadNet4, Net4: api.Net4{Proto: 17}}, 6)
	wantNext(t, segOf(), 0)
	wantNext(t, linkOf(0x0806), 0)

	wantPeel(t, stack(t, []byte{1, 2}, linkOf(0x0806)), []api.Head{linkOf(0x0806)}, []byte{1, 2})
	wantError(t, make([]byte, 13), api.ErrShort)
	wantError(t, stack(t, nil, linkOf(0x0800)), api.ErrShort)

	wantError(t, stack(t, nil, tagged(8, 0x8100)...), api.ErrMany)
	p := stack(t, nil, tagged(1, 0)...)
	wantWhere(t, p, 2, api.Range{At: 14, N: 4})
	wantNowhere(t, p, 3, api.OK)
	wantNowhere(t, p, 7, api.ErrHead)
}

// P11.1: of all Types three say a kind, of a Link as of a Tag.
func TestNextOfEachType(t *testing.T) {
	for v := range 1 << 16 {
		kind := uint8(0)
		switch v {
		case 0x8100:
			kind = 2
		case 0x0800:
			kind = 3
		case 0x86dd:
			kind = 4
		}
		wantNext(t, linkOf(uint16(v)), kind)
		wantNext(t, tagOf(uint16(v)), kind)
	}
}

// P11.1: of all Protos and Nexts two say a kind.
func TestNextOfEachProto(t *testing.T) {
	for v := range 256 {
		kind := uint8(0)
		switch v {
		case 6:
			kind = 5
		case 17:
			kind = 6
		}
		wantNext(t, net4Of(uint8(v)), kind)
		wantNext(t, net6Of(uint8(v)), kind)
	}
}

// P11.1: behind a Seg and a Dgram comes nothing, nor behind what is of no kind, whatever their numbers are.
func TestNextOfOtherKinds(t *testing.T) {
	for _, v := range []uint16{0, 6, 17, 0x0800, 0x8100, 0x86dd, 0xffff} {
		s, d := segOf(), dgramOf()
		s.Seg.SrcPort, s.Seg.DstPort, s.Seg.Window, s.Seg.Flags = v, v, v, uint8(v)
		d.Dgram.SrcPort, d.Dgram.DstPort = v, v
		wantNext(t, s, 0)
		wantNext(t, d, 0)
	}
	for kind := range 256 {
		if kind >= 1 && kind <= 4 {
			continue
		}
		wantNext(t, api.Head{Kind: uint8(kind)}, 0)
		for _, h := range sayers() {
			h.Kind = uint8(kind)
			wantNext(t, h, 0)
		}
	}
}

// sayers are headers in which the fields of all four kinds that can say a kind say one.
func sayers() []api.Head {
	var l []api.Head
	for _, a := range []uint16{0x8100, 0x0800, 0x86dd} {
		for _, b := range []uint16{0x8100, 0x0800, 0x86dd} {
			for _, c := range []uint8{6, 17} {
				for _, d := range []uint8{6, 17} {
					l = append(l, api.Head{Link: api.Link{Type: a}, Tag: api.Tag{Type: b}, Net4: api.Net4{Proto: c}, Net6: api.Net6{Next: d}})
				}
			}
		}
	}
	return l
}

// P11.1: the field of its Kind alone counts, not what other fields say, nor whether the header may be.
func TestNextByItsKindAlone(t *testing.T) {
	behind := map[uint16]uint8{0x8100: 2, 0x0800: 3, 0x86dd: 4, 6: 5, 17: 6}
	for _, h := range sayers() {
		h.Tag.Prio, h.Tag.Id, h.Net6.Flow, h.Seg.Flags = 255, 65535, 1<<32-1, 255
		h.Kind = api.HeadLink
		wantNext(t, h, behind[h.Link.Type])
		h.Kind = api.HeadTag
		wantNext(t, h, behind[h.Tag.Type])
		h.Kind = api.HeadNet4
		wantNext(t, h, behind[uint16(h.Net4.Proto)])
		h.Kind = api.HeadNet6
		wantNext(t, h, behind[uint16(h.Net6.Next)])

		none := h
		none.Kind, none.Link.Type = api.HeadLink, 0x0806
		wantNext(t, none, 0)
		none = h
		none.Kind, none.Tag.Type = api.HeadTag, 0
		wantNext(t, none, 0)
		none = h
		none.Kind, none.Net4.Proto = api.HeadNet4, 1
		wantNext(t, none, 0)
		none = h
		none.Kind, none.Net6.Next = api.HeadNet6, 59
		wantNext(t, none, 0)
	}
}

// P11.1: the number of one kind's field says nothing in another's.
func TestNextOfNumbersOfOthers(t *testing.T) {
	for _, v := range []uint16{6, 17, 0x0600, 0x1100, 0x0081, 0x0008, 0xdd86, 0x80ff, 0x8101, 0x8000, 0x0100, 0x0801, 0x07ff, 0x86dc, 0x86de} {
		wantNext(t, linkOf(v), 0)
		wantNext(t, tagOf(v), 0)
	}
	for _, v := range []uint8{0, 1, 2, 3, 4, 5, 7, 8, 16, 18, 0x81, 0x86, 0xdd, 0xff} {
		wantNext(t, net4Of(v), 0)
		wantNext(t, net6Of(v), 0)
	}
}

// P11.2: headers of each kind are told, in order, with what stands behind them, however much that is, up to MaxPacket.
func TestPeelOfEachWay(t *testing.T) {
	for _, l := range ways() {
		size := 0
		for _, h := range l {
			size += sizes[h.Kind]
		}
		for _, n := range []int{0, 1, 2, 3, 40, 255, api.MaxPacket - size - 1, api.MaxPacket - size} {
			wantPeel(t, stack(t, counted(n), l...), l, counted(n))
			wantPeel(t, stack(t, make([]byte, n), l...), l, make([]byte, n))
		}
	}
}

// P11.2: with a header that says none it ends: what is behind it is not looked at, even if it would be a header.
func TestPeelEndsWithNone(t *testing.T) {
	inner := stack(t, []byte{7}, linkOf(0x8100), tagOf(0x0800), net4Of(17), dgramOf())
	for _, l := range ways() {
		wantPeel(t, stack(t, inner, l...), l, inner)
		wantPeel(t, stack(t, inner[14:], l...), l, inner[14:])
		wantPeel(t, stack(t, inner[18:], l...), l, inner[18:])
		wantPeel(t, stack(t, inner[38:], l...), l, inner[38:])
	}
}

// P11.2: each Type in a packet leads to the kind that it says, read of what is there, or to the end.
func TestPeelByEachType(t *testing.T) {
	behind := stack(t, []byte{9, 9}, net4Of(17), dgramOf())
	behind6 := stack(t, []byte{9, 9}, net6Of(6), segOf())
	for v := range 1 << 16 {
		for tags := range 2 {
			l := tagged(tags, uint16(v))
			switch v {
			case 0x0800:
				wantPeel(t, stack(t, behind, l...), append(l, net4Of(17), dgramOf()), []byte{9, 9})
				wantError(t, stack(t, behind6, l...), api.ErrNet4)
			case 0x86dd:
				wantPeel(t, stack(t, behind6, l...), append(l, net6Of(6), segOf()), []byte{9, 9})
				wantError(t, stack(t, behind, l...), api.ErrShort)
			case 0x8100:
				b := append([]byte{0x40, 0x02, 0, 0}, behind...)
				wantPeel(t, stack(t, b, l...), append(l, api.Head{Kind: api.HeadTag, Tag: api.Tag{Prio: 2, Id: 2}}), behind)
			default:
				wantPeel(t, stack(t, behind, l...), l, behind)
			}
		}
	}
}

// P11.2: each Proto and each Next likewise.
func TestPeelByEachProto(t *testing.T) {
	behindSeg := stack(t, []byte{9}, segOf())
	behindDgram := stack(t, []byte{9}, dgramOf())
	for v := range 256 {
		for _, l := range [][]api.Head{{linkOf(0x0800), net4Of(uint8(v))}, {linkOf(0x86dd), net6Of(uint8(v))}} {
			switch v {
			case 6:
				wantPeel(t, stack(t, behindSeg, l...), append(l, segOf()), []byte{9})
				wantError(t, stack(t, behindDgram, l...), api.ErrShort)
			case 17:
				wantPeel(t, stack(t, behindDgram, l...), append(l, dgramOf()), []byte{9})
				wantError(t, stack(t, behindSeg, l...), api.ErrDgram)
			default:
				wantPeel(t, stack(t, behindSeg, l...), l, behindSeg)
			}
		}
	}
}

// P11.2: fewer bytes than a Link has are none, whatever they are and whatever room is behind them.
func TestPeelOfTooFew(t *testing.T) {
	wantError(t, nil, api.ErrShort)
	p := stack(t, counted(20), linkOf(0))
	for n := range 14 {
		wantError(t, p[:n], api.ErrShort)
		wantError(t, make([]byte, n), api.ErrShort)
		wantError(t, counted(n), api.ErrShort)
	}
	wantPeel(t, p[:14], []api.Head{linkOf(0)}, nil)
}

// P11.2: eight headers may be, of whatever kind the last one is.
func TestPeelOfEight(t *testing.T) {
	for _, l := range [][]api.Head{
		tagged(7, 0),
		tagged(7, 0x0806),
		append(tagged(6, 0x0800), net4Of(255)),
		append(tagged(6, 0x86dd), net6Of(255)),
		append(tagged(5, 0x0800), net4Of(6), segOf()),
		append(tagged(5, 0x0800), net4Of(17), dgramOf()),
		append(tagged(5, 0x86dd), net6Of(6), segOf()),
		append(tagged(5, 0x86dd), net6Of(17), dgramOf()),
	} {
		if len(l) != 8 {
			t.Fatalf("%d headers", len(l))
		}
		wantPeel(t, stack(t, nil, l...), l, nil)
		wantPeel(t, stack(t, counted(99), l...), l, counted(99))
	}
}

// P11.2: a ninth one is too many, whether it would be read or not.
func TestPeelOfNine(t *testing.T) {
	wrong := turned(bytesOf(t, tagOf(0), nil), 0, 0x10)
	for _, behind := range [][]byte{nil, {1}, {0, 0, 0}, bytesOf(t, tagOf(0), nil), bytesOf(t, tagOf(0x8100), nil), wrong, make([]byte, 60), counted(60),
		stack(t, nil, net4Of(0)), stack(t, nil, net6Of(0)), stack(t, nil, segOf()), stack(t, nil, dgramOf())} {
		for _, v := range []uint16{0x8100, 0x0800, 0x86dd} {
			wantError(t, stack(t, behind, tagged(7, v)...), api.ErrMany)
		}
		for _, v := range []uint8{6, 17} {
			wantError(t, stack(t, behind, append(tagged(6, 0x0800), net4Of(v))...), api.ErrMany)
			wantError(t, stack(t, behind, append(tagged(6, 0x86dd), net6Of(v))...), api.ErrMany)
		}
	}
	for tags := 8; tags < 500; tags += 41 {
		wantError(t, stack(t, nil, tagged(tags, 0)...), api.ErrMany)
		wantError(t, stack(t, nil, tagged(tags, 0x8100)...), api.ErrMany)
	}
}

// P11.2: a header of the first eight that is not read is told ahead of there being too many.
func TestPeelOfNineWithOneThatIsNotRead(t *testing.T) {
	p := stack(t, counted(30), tagged(12, 0)...)
	for tags := range 7 {
		wantError(t, turned(p, 14+4*tags, 0x10), api.ErrTag)
	}
	wantError(t, turned(p, 14+4*7, 0x10), api.ErrMany)
	for n := range len(p) {
		if n < 14+4*7 {
			wantError(t, p[:n], api.ErrShort)
		} else {
			wantError(t, p[:n], api.ErrMany)
		}
	}
	wantError(t, turned(stack(t, nil, append(tagged(6, 0x0800), net4Of(6))...), 14+4*6, 1), api.ErrNet4)
	wantError(t, turned(stack(t, nil, append(tagged(6, 0x86dd), net6Of(6))...), 14+4*6, 0x80), api.ErrNet6)
}

// P11.2: a header that is said to be there, but has too few bytes, at each place.
func TestPeelOfHeadersThatAreCut(t *testing.T) {
	for tags := range 7 {
		for _, v := range []uint16{0x8100, 0x0800, 0x86dd} {
			size := map[uint16]int{0x8100: 4, 0x0800: 20, 0x86dd: 40}[v]
			for n := range size {
				wantError(t, stack(t, counted(n), tagged(tags, v)...), api.ErrShort)
			}
		}
	}
	for tags := range 6 {
		for n := range 20 {
			wantError(t, stack(t, counted(n), append(tagged(tags, 0x0800), net4Of(6))...), api.ErrShort)
			wantError(t, stack(t, counted(n), append(tagged(tags, 0x86dd), net6Of(6))...), api.ErrShort)
		}
		for n := range 8 {
			wantError(t, stack(t, counted(n), append(tagged(tags, 0x0800), net4Of(17))...), api.ErrShort)
			wantError(t, stack(t, counted(n), append(tagged(tags, 0x86dd), net6Of(17))...), api.ErrShort)
		}
	}
}

// refuse is a header's bytes with something turned, and what its kind's Read says of that.
type refuse struct {
	at   int
	by   byte
	want api.Errno
}

// P11.2: a header that is not read is told with its kind's error, at each place.
func TestPeelTellsEachError(t *testing.T) {
	refuses := map[uint8][]refuse{
		api.HeadTag:   {{0, 0x10, api.ErrTag}},
		api.HeadNet4:  {{0, 1, api.ErrNet4}, {3, 1, api.ErrNet4}, {6, 0x40, api.ErrNet4}, {10, 1, api.ErrSum}, {19, 1, api.ErrSum}},
		api.HeadNet6:  {{0, 0x20, api.ErrNet6}, {5, 1, api.ErrNet6}},
		api.HeadSeg:   {{12, 0x80, api.ErrSeg}, {13, 0x40, api.ErrSeg}, {19, 1, api.ErrSeg}, {17, 1, api.ErrSum}, {4, 1, api.ErrSum}, {21, 1, api.ErrSum}},
		api.HeadDgram: {{5, 1, api.ErrDgram}, {7, 1, api.ErrSum}, {0, 1, api.ErrSum}, {9, 1, api.ErrSum}},
	}
	for _, l := range ways() {
		p := stack(t, counted(9), l...)
		at := 0
		for _, h := range l {
			for _, r := range refuses[h.Kind] {
				wantError(t, turned(p, at+r.at, r.by), r.want)
			}
			at += sizes[h.Kind]
		}
	}
}

// P11.2: of two headers that are not read the first one's error is told.
func TestPeelTellsTheFirstError(t *testing.T) {
	p := stack(t, counted(5), linkOf(0x8100), tagOf(0x0800), net4Of(6), segOf())
	noSum := turned(p, 18+20+4, 1)
	wantError(t, noSum, api.ErrSum)
	noSeg := turned(noSum, 18+20+19, 1)
	wantError(t, noSeg, api.ErrSeg)
	noNetSum := turned(noSeg, 18+11, 1)
	wantError(t, noNetSum, api.ErrSum)
	noNet := turned(noNetSum, 18, 1)
	wantError(t, noNet, api.ErrNet4)
	noTag := turned(noNet, 14, 0x10)
	wantError(t, noTag, api.ErrTag)
	wantError(t, noTag[:17], api.ErrShort)
	wantError(t, noNet[:30], api.ErrShort)

	q := stack(t, counted(5), linkOf(0x86dd), net6Of(17), dgramOf())
	noSum = turned(q, 14+40, 1)
	wantError(t, noSum, api.ErrSum)
	noDgram := turned(noSum, 14+40+5, 1)
	wantError(t, noDgram, api.ErrDgram)
	noNet = turned(noDgram, 14, 0x10)
	wantError(t, noNet, api.ErrNet6)
	wantError(t, noNet[:53], api.ErrShort)
}

// P11.2: a length that a header tells is that of all that stands behind, so nothing may hang behind the packet's end, nor be missing.
func TestPeelOfOtherLengths(t *testing.T) {
	four := stack(t, counted(9), linkOf(0x0800), net4Of(17), dgramOf())
	six := stack(t, counted(9), linkOf(0x86dd), net6Of(17), dgramOf())
	wantError(t, append(bytes.Clone(four), 0), api.ErrNet4)
	wantError(t, append(bytes.Clone(six), 0), api.ErrNet6)
	for n := 34; n < len(four); n++ {
		wantError(t, four[:n], api.ErrNet4)
	}
	for n := 54; n < len(six); n++ {
		wantError(t, six[:n], api.ErrNet6)
	}
}

// P11.2: what is longer than a packet is told, too, as long as its headers are read.
func TestPeelOfMoreThanAPacket(t *testing.T) {
	for _, n := range []int{api.MaxPacket - 14, api.MaxPacket - 13, api.MaxPacket, 5000, 65535, 65536, 1 << 17} {
		l := []api.Head{linkOf(0x0806)}
		wantPeel(t, append(stack(t, nil, l...), counted(n)...), l, counted(n))
		wantWhere(t, append(stack(t, nil, l...), counted(n)...), api.HeadLink, api.Range{At: 0, N: 14})
		l = tagged(3, 0)
		wantPeel(t, append(stack(t, nil, l...), counted(n)...), l, counted(n))
		wantError(t, append(stack(t, nil, tagged(7, 0x8100)...), counted(n)...), api.ErrMany)
	}
	l := []api.Head{linkOf(0x86dd), net6Of(59)}
	for _, n := range []int{2009, 5000, 65535, 65536, 65537, 1 << 17} {
		p := append(stack(t, nil, l...), counted(n)...)
		p[14+4], p[14+5] = byte(n>>8), byte(n)
		if n > 65535 {
			wantError(t, p, api.ErrNet6)
			continue
		}
		wantPeel(t, p, l, counted(n))
		wantWhere(t, p, api.HeadNet6, api.Range{At: 14, N: 40})
	}
}

// P11.3: the range of each header of each way, and none of those that it does not have.
func TestWhereOfEachKind(t *testing.T) {
	for _, l := range ways() {
		for _, n := range []int{0, 1, 60} {
			p := stack(t, counted(n), l...)
			first := map[uint8]api.Range{}
			at := 0
			for _, h := range l {
				if _, is := first[h.Kind]; !is {
					first[h.Kind] = api.Range{At: at, N: sizes[h.Kind]}
				}
				at += sizes[h.Kind]
			}
			for kind := api.HeadLink; kind <= api.HeadDgram; kind++ {
				if r, is := first[kind]; is {
					wantWhere(t, p, kind, r)
				} else {
					wantNowhere(t, p, kind, api.OK)
				}
			}
		}
	}
}

// P11.3: of several headers of one kind the first one counts.
func TestWhereOfTheFirst(t *testing.T) {
	for tags := 1; tags < 8; tags++ {
		p := stack(t, counted(5), tagged(tags, 0)...)
		wantWhere(t, p, api.HeadTag, api.Range{At: 14, N: 4})
		wantWhere(t, p, api.HeadLink, api.Range{At: 0, N: 14})
	}
}

// P11.3: a kind that is none is told ahead of what is wrong with the packet; a header that stands ahead of what is wrong is not told.
func TestWhereTellsInOrder(t *testing.T) {
	good := stack(t, nil, linkOf(0x0800), net4Of(17), dgramOf())
	packets := [][]byte{nil, counted(13), good, good[:20], turned(good, 14, 1), turned(good, 14+11, 1), turned(good, 14+20+5, 1),
		stack(t, nil, tagged(8, 0)...), turned(stack(t, nil, tagged(2, 0)...), 18, 0x10), make([]byte, api.MaxPacket+1)}
	for _, p := range packets {
		for kind := range 256 {
			if kind < 1 || kind > 6 {
				wantNowhere(t, p, uint8(kind), api.ErrHead)
			}
		}
	}
	for kind := api.HeadLink; kind <= api.HeadDgram; kind++ {
		wantNowhere(t, counted(13), kind, api.ErrShort)
		wantNowhere(t, good[:20], kind, api.ErrShort)
		wantNowhere(t, turned(good, 14, 1), kind, api.ErrNet4)
		wantNowhere(t, turned(good, 14+11, 1), kind, api.ErrSum)
		wantNowhere(t, turned(good, 14+20+5, 1), kind, api.ErrDgram)
		wantNowhere(t, stack(t, nil, tagged(8, 0)...), kind, api.ErrMany)
		wantNowhere(t, turned(stack(t, nil, tagged(2, 0)...), 18, 0x10), kind, api.ErrTag)
	}
}

// P11.4: what is handed in is only read, its spare room too, done or refused.
func TestOnlyReads(t *testing.T) {
	for _, l := range append(ways(), tagged(8, 0)) {
		for _, at := range []int{-1, 14, 18, 25} {
			p := stack(t, counted(20), l...)
			if at >= 0 {
				p = turned(p, at, 0x11)
			}
			all := append(append(counted(9), p...), counted(9)...)
			was := bytes.Clone(all)
			_, rest, _ := Peel(all[9 : 9+len(p)])
			_ = append(rest, 1, 2, 3)
			Peel(all[9 : 9+len(p)/2])
			for kind := range uint8(8) {
				Where(all[9:9+len(p)], kind)
			}
			if !bytes.Equal(all, was) {
				t.Errorf("what was handed in became %x, and was %x", all, was)
			}
		}
	}
}

// P11.4: what is answered is new memory: neither what was handed in nor another answer shows in it.
func TestAnswersNewMemory(t *testing.T) {
	for _, l := range ways() {
		p := stack(t, counted(20), l...)
		first, rest, _ := Peel(p)
		second, other, _ := Peel(p)
		clear(first)
		clear(rest)
		_ = append(first, linkOf(1))
		_ = append(rest, 9, 9)
		wantPeel(t, p, l, counted(20))
		clear(p)
		if !slices.Equal(second, l) || !bytes.Equal(other, counted(20)) {
			t.Errorf("another answer became %v, %x", second, other)
		}
	}
}

// someHead is a header of a kind, the same in every run, which says what it is told to.
func someHead(r *rand.Rand, kind uint8, says uint16) api.Head {
	h := api.Head{Kind: kind}
	some := func() uint16 { return uint16(r.Intn(1 << 16)) }
	switch kind {
	case api.HeadLink:
		h.Link.Type = says
		r.Read(h.Link.Dst[:])
		r.Read(h.Link.Src[:])
	case api.HeadTag:
		h.Tag = api.Tag{Prio: uint8(r.Intn(8)), Id: uint16(r.Intn(4096)), Type: says}
	case api.HeadNet4:
		h.Net4 = api.Net4{Tos: uint8(some()), Ttl: uint8(some()), Proto: uint8(says), Id: some()}
		r.Read(h.Net4.Src[:])
		r.Read(h.Net4.Dst[:])
	case api.HeadNet6:
		h.Net6 = api.Net6{Class: uint8(some()), Flow: uint32(r.Intn(1 << 20)), Next: uint8(says), Hops: uint8(some())}
		r.Read(h.Net6.Src[:])
		r.Read(h.Net6.Dst[:])
	case api.HeadSeg:
		h.Seg = api.Seg{SrcPort: some(), DstPort: some(), Seq: r.Uint32(), Ack: r.Uint32(), Flags: uint8(r.Intn(64)), Window: some()}
	case api.HeadDgram:
		h.Dgram = api.Dgram{SrcPort: some(), DstPort: some()}
	}
	return h
}

// saying is the number by which a header says that a kind comes next.
func saying(kind uint8) uint16 {
	return [7]uint16{0, 0, 0x8100, 0x0800, 0x86dd, 6, 17}[kind]
}

// someHeads are at most eight headers, each of which says the next one, and the last one none.
func someHeads(r *rand.Rand) []api.Head {
	kinds := []uint8{api.HeadLink}
	for range r.Intn(6) {
		kinds = append(kinds, api.HeadTag)
	}
	if r.Intn(4) > 0 {
		kinds = append(kinds, api.HeadNet4+uint8(r.Intn(2)))
		if r.Intn(4) > 0 {
			kinds = append(kinds, api.HeadSeg+uint8(r.Intn(2)))
		}
	}
	var l []api.Head
	for i, kind := range kinds {
		says := uint16(0)
		if i+1 < len(kinds) {
			says = saying(kinds[i+1])
		}
		l = append(l, someHead(r, kind, says))
	}
	return l
}

// P11.5, W6: headers that were put ahead of a payload are told, and that payload; their sizes and what is behind them are the packet.
func TestThereAndBack(t *testing.T) {
	r := rand.New(rand.NewSource(11))
	for range 3000 {
		l := someHeads(r)
		payload := make([]byte, r.Intn(1+r.Intn(1800)))
		r.Read(payload)
		p := stack(t, payload, l...)
		wantPeel(t, p, l, payload)
		size := 0
		for _, h := range l {
			size += sizes[h.Kind]
		}
		if size+len(payload) != len(p) {
			t.Errorf("%d bytes of headers ahead of %d are %d", size, len(payload), len(p))
		}
	}
}

// P11.5: the headers that are told and what is behind them, put together again, are the packet, whatever it was that was read.
func TestBackAndThere(t *testing.T) {
	r := rand.New(rand.NewSource(111))
	for range 3000 {
		p := stack(t, counted(r.Intn(50)), someHeads(r)...)
		p[r.Intn(len(p))] ^= byte(1 << r.Intn(8))
		l, rest, e := Peel(p)
		if e != api.OK {
			wantError(t, p, e)
			continue
		}
		if q := stack(t, rest, l...); !bytes.Equal(p, q) {
			t.Errorf("%x is told as %v and %x, which are %x", p, l, rest, q)
		}
	}
}

// R1: whatever bytes there are, both calls end, and tell the same.
func TestPeelOfAnyBytes(t *testing.T) {
	r := rand.New(rand.NewSource(1111))
	types := []uint16{0x8100, 0x0800, 0x86dd, 0}
	for range 20000 {
		p := make([]byte, r.Intn(80))
		r.Read(p)
		if len(p) >= 14 {
			v := types[r.Intn(4)]
			p[12], p[13] = byte(v>>8), byte(v)
		}
		l, rest, e := Peel(p)
		if e != api.OK {
			wantError(t, p, e)
			continue
		}
		if q := stack(t, rest, l...); !bytes.Equal(p, q) {
			t.Errorf("%x is told as %v and %x, which are %x", p, l, rest, q)
		}
	}
}
