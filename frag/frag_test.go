package frag

import (
	"bytes"
	"fmt"
	"math"
	"math/rand"
	"reflect"
	"testing"

	"portcullis/api"
	"portcullis/plain"
	"portcullis/wire"
)

// counted is so many bytes, of which no two that stand 1 to 250 apart are alike.
func counted(many int) []byte {
	b := make([]byte, many)
	for i := range b {
		b[i] = byte(i % 251)
	}
	return b
}

// packet is an ordinary one with a Body of so many bytes.
func packet(many int) api.Packet {
	return api.Packet{Kind: api.Single, Ttl: 9, Id: 77, Src: 10<<24 | 1, Dst: 192 << 24, Body: counted(many)}
}

// piece is what an ordinary packet has from byte begin on, ahead of byte end.
func piece(begin, end int, more bool) api.Packet {
	p := packet(end)
	p.At, p.More, p.Body = begin/8, more, p.Body[begin:]
	return p
}

func same(p, q api.Packet) bool {
	alike := bytes.Equal(p.Body, q.Body)
	p.Body, q.Body = nil, nil
	return alike && reflect.DeepEqual(p, q)
}

func allSame(l, m []api.Packet) bool {
	for i := 0; i < min(len(l), len(m)); i++ {
		if !same(l[i], m[i]) {
			return false
		}
	}
	return len(l) == len(m)
}

func made(t *testing.T, life int) *Pool {
	t.Helper()
	l, err := New(life)
	if err != nil || l == nil || l.Len() != 0 {
		t.Fatalf("New of %d: got %v, %v, want an empty one", life, l, err)
	}
	return l
}

// wantAdd asks an answer of Add that is no packet, and how many there are behind it.
func wantAdd(t *testing.T, what string, l *Pool, p api.Packet, now int, want api.Errno, many int) {
	t.Helper()
	whole, done, err := l.Add(p, now)
	if !same(whole, api.Packet{}) || done || plain.Told(err) != want {
		t.Errorf("%s: Add at %d: got %v, %v, %v, want none, %v", what, now, whole, done, err, want)
	}
	if l.Len() != many {
		t.Errorf("%s: Len behind Add at %d: got %d, want %d", what, now, l.Len(), many)
	}
}

// wantWhole asks a packet of Add, and how many there are behind it.
func wantWhole(t *testing.T, what string, l *Pool, p api.Packet, now int, want api.Packet, many int) {
	t.Helper()
	whole, done, err := l.Add(p, now)
	if !same(whole, want) || !done || err != nil {
		t.Errorf("%s: Add at %d: got %v, %v, %v, want %v", what, now, whole, done, err, want)
	}
	if l.Len() != many {
		t.Errorf("%s: Len behind Add at %d: got %d, want %d", what, now, l.Len(), many)
	}
}

func wantTick(t *testing.T, what string, l *Pool, now int, gone int, want api.Errno, many int) {
	t.Helper()
	n, err := l.Tick(now)
	if n != gone || plain.Told(err) != want || l.Len() != many {
		t.Errorf("%s: Tick at %d: got %d, %v, Len %d, want %d, %v, Len %d", what, now, n, err, l.Len(), gone, want, many)
	}
}

// wrongPackets are those that chapter 3's Check refuses, and how.
func wrongPackets() []struct {
	name string
	p    api.Packet
	want api.Errno
} {
	with := func(change func(*api.Packet)) api.Packet {
		p := piece(8, 16, true)
		change(&p)
		return p
	}
	return []struct {
		name string
		p    api.Packet
		want api.Errno
	}{
		{"Kind", with(func(p *api.Packet) { p.Kind = 16 }), api.ErrRange},
		{"Ttl", with(func(p *api.Packet) { p.Ttl = -1 }), api.ErrRange},
		{"Id", with(func(p *api.Packet) { p.Id = 65536 }), api.ErrRange},
		{"Src", with(func(p *api.Packet) { p.Src = 1 << 32 }), api.ErrRange},
		{"Dst", with(func(p *api.Packet) { p.Dst = math.MinInt }), api.ErrRange},
		{"At", with(func(p *api.Packet) { p.At = 32768 }), api.ErrRange},
		{"greatest At", with(func(p *api.Packet) { p.At = math.MaxInt }), api.ErrRange},
		{"Body", with(func(p *api.Packet) { p.Body = make([]byte, api.MaxBody+1) }), api.ErrFull},
		{"Body, no piece", packet(api.MaxBody + 1), api.ErrFull},
	}
}

// F1

// lengths of the Bodies that a Body is split into.
func lengths(l []api.Packet) []int {
	var n []int
	for _, p := range l {
		n = append(n, len(p.Body))
	}
	return n
}

// TestSplitLengths: all but the last have the greatest multiple of 8, the last what is left once it is at most size.
func TestSplitLengths(t *testing.T) {
	for _, c := range []struct {
		many, size int
		want       []int
	}{
		{0, 8, []int{0}},
		{1, 8, []int{1}},
		{7, 8, []int{7}},
		{8, 8, []int{8}},
		{9, 8, []int{8, 1}},
		{16, 8, []int{8, 8}},
		{17, 8, []int{8, 8, 1}},
		{9, 9, []int{9}},
		{10, 9, []int{8, 2}},
		{17, 9, []int{8, 9}},
		{18, 9, []int{8, 8, 2}},
		{15, 15, []int{15}},
		{16, 15, []int{8, 8}},
		{23, 15, []int{8, 15}},
		{24, 15, []int{8, 8, 8}},
		{33, 16, []int{16, 16, 1}},
		{39, 23, []int{16, 23}},
		{40, 23, []int{16, 16, 8}},
		{api.MaxBody, api.MaxBody, []int{4000}},
		{api.MaxBody, api.MaxBody - 1, []int{3992, 8}},
		{api.MaxBody, 2000, []int{2000, 2000}},
		{api.MaxBody, 1999, []int{1992, 1992, 16}},
	} {
		l, err := Split(packet(c.many), c.size)
		if got := lengths(l); err != nil || !reflect.DeepEqual(got, c.want) {
			t.Errorf("Split of %d bytes by %d: got %v, %v, want %v", c.many, c.size, got, err, c.want)
		}
	}
}

// TestSplitPieces: places in eights, behind the packet's own, More in all but the last, which has the packet's.
func TestSplitPieces(t *testing.T) {
	for _, more := range []bool{false, true} {
		p := packet(37)
		p.At, p.More = 5, more
		l, err := Split(p, 17)
		want := []api.Packet{p, p, p}
		want[0].More, want[0].Body = true, p.Body[:16]
		want[1].At, want[1].More, want[1].Body = 7, true, p.Body[16:32]
		want[2].At, want[2].Body = 9, p.Body[32:]
		if err != nil || !allSame(l, want) {
			t.Errorf("Split: got %v, %v, want %v", l, err, want)
		}
	}
}

// TestSplitOne: what is at most size is one piece, the packet, also if it is empty or a piece.
func TestSplitOne(t *testing.T) {
	for _, many := range []int{0, 1, 8, 16} {
		for _, more := range []bool{false, true} {
			p := packet(many)
			p.At, p.More = wire.MaxAt, more
			l, err := Split(p, 16)
			if err != nil || !allSame(l, []api.Packet{p}) {
				t.Errorf("Split: got %v, %v, want the packet %v", l, err, p)
			}
		}
	}
}

// TestSplitPlaces: an At of 32767 may be, one above it not.
func TestSplitPlaces(t *testing.T) {
	for _, c := range []struct {
		at, many, size int
		want           api.Errno
	}{
		{32767, 8, 8, api.OK},
		{32767, 9, 8, api.ErrRange},
		{32767, 9, 9, api.OK},
		{32766, 16, 8, api.OK},
		{32766, 17, 8, api.ErrRange},
		{32765, 24, 8, api.OK},
		{32765, 32, 16, api.OK},
		{32766, 32, 16, api.ErrRange},
		{32765, 33, 16, api.ErrRange},
		{32268, 4000, 8, api.OK},
		{32269, 4000, 8, api.ErrRange},
	} {
		p := packet(c.many)
		p.At = c.at
		l, err := Split(p, c.size)
		if plain.Told(err) != c.want || (len(l) == 0) != (c.want != api.OK) {
			t.Errorf("Split of %d bytes at %d by %d: got %d pieces, %v, want %v", c.many, c.at, c.size, len(l), err, c.want)
		}
	}
}

// TestSplitRefused: the size is told ahead of the packet, the packet ahead of its pieces.
func TestSplitRefused(t *testing.T) {
	wantNone := func(what string, p api.Packet, size int, want api.Errno) {
		t.Helper()
		l, err := Split(p, size)
		if len(l) != 0 || plain.Told(err) != want {
			t.Errorf("Split, %s, size %d: got %v, %v, want %v", what, size, l, err, want)
		}
	}
	for _, size := range []int{math.MinInt, -8, -1, 0, 1, 7, api.MaxBody + 1, 1 << 32, math.MaxInt} {
		wantNone("ordinary", packet(20), size, api.ErrRange)
		wantNone("empty", packet(0), size, api.ErrRange)
		wantNone("too long", packet(api.MaxBody+1), size, api.ErrRange)
	}
	for _, c := range wrongPackets() {
		wantNone(c.name, c.p, 8, c.want)
		wantNone(c.name, c.p, api.MaxBody, c.want)
	}
	long := packet(api.MaxBody + 1)
	long.At = wire.MaxAt
	wantNone("too long, at the last place", long, 8, api.ErrFull)
}

// TestSplitFresh: the packet stays as it was, and no piece shares memory with it or with another one.
func TestSplitFresh(t *testing.T) {
	for _, many := range []int{0, 5, 8, 20, 40} {
		room := counted(many + 20)
		p := packet(0)
		p.Body = room[:many]
		l, err := Split(p, 8)
		if err != nil {
			t.Fatal(err)
		}
		for i := range l {
			was := append([]byte(nil), l[i].Body...)
			for j := range l {
				if j != i {
					_ = append(l[j].Body, 99, 98, 97)
					for k := range l[j].Body {
						l[j].Body[k] = ^l[j].Body[k]
					}
				}
			}
			if !bytes.Equal(l[i].Body, was) {
				t.Errorf("pieces of %d bytes share memory", many)
			}
		}
		_ = append(l[len(l)-1].Body, 1, 2, 3)
		if !bytes.Equal(room, counted(many+20)) {
			t.Errorf("Split of %d bytes writes into what it was given", many)
		}
	}
}

// F2

// TestNew: a life of 1 to MaxTime.
func TestNew(t *testing.T) {
	for _, life := range []int{1, 2, api.MaxTime} {
		made(t, life)
	}
	for _, life := range []int{math.MinInt, -1, 0, api.MaxTime + 1, math.MaxInt} {
		if l, err := New(life); l != nil || plain.Told(err) != api.ErrRange {
			t.Errorf("New of %d: got %v, %v, want ErrRange", life, l, err)
		}
	}
}

// TestNoPiece: what is no piece comes out as it is, whatever is there, and is not kept.
func TestNoPiece(t *testing.T) {
	l := made(t, 60)
	for _, many := range []int{0, 1, 8, 20, api.MaxBody} {
		wantWhole(t, "alone", l, packet(many), 1, packet(many), 0)
	}
	wantAdd(t, "a piece", l, piece(0, 8, true), 1, api.OK, 1)
	wantWhole(t, "beside a piece", l, packet(20), 2, packet(20), 1)
	wantWhole(t, "empty, beside a piece", l, packet(0), 2, packet(0), 1)
	wantWhole(t, "the rest", l, piece(8, 20, false), 3, packet(20), 0)
	wantAdd(t, "empty piece", l, piece(8, 8, true), 3, api.ErrShape, 1)
	wantWhole(t, "beside what is bad", l, packet(20), 4, packet(20), 1)
	for i := 1; i < api.MaxPools; i++ {
		p := piece(0, 8, true)
		p.Id = i
		wantAdd(t, "another one", l, p, 4, api.OK, i+1)
	}
	wantWhole(t, "beside all", l, packet(9), 5, packet(9), api.MaxPools)
}

// orders of so many numbers.
func orders(many int) [][]int {
	if many == 0 {
		return [][]int{nil}
	}
	var all [][]int
	for _, o := range orders(many - 1) {
		for i := range many {
			next := append(append(append([]int(nil), o[:i]...), many-1), o[i:]...)
			all = append(all, next)
		}
	}
	return all
}

// TestTogether: pieces in any order come to the packet, with the least Ttl.
func TestTogether(t *testing.T) {
	for _, size := range []int{16, 17, 24, 31} {
		for _, o := range orders(4) {
			p := packet(3*(size/8*8) + 5)
			pieces, err := Split(p, size)
			if err != nil || len(pieces) < 3 {
				t.Fatal(pieces, err)
			}
			l := made(t, 1)
			var left []int
			for _, i := range o {
				if i < len(pieces) {
					left = append(left, i)
				}
			}
			for i, k := range left {
				pieces[k].Ttl = 200 + (k+1)%len(pieces)
				if i < len(left)-1 {
					wantAdd(t, "a piece", l, pieces[k], 3, api.OK, 1)
					continue
				}
				p.Ttl = 200
				wantWhole(t, "the one that lacked", l, pieces[k], 3, p, 0)
			}
		}
	}
}

// TestLeastTtl: whichever piece has it.
func TestLeastTtl(t *testing.T) {
	for _, ttls := range [][3]int{{0, 9, 9}, {9, 0, 9}, {9, 9, 0}, {1, 2, 3}, {255, 255, 255}, {3, 2, 1}, {0, 255, 1}} {
		l := made(t, 5)
		pieces := []api.Packet{piece(0, 8, true), piece(8, 16, true), piece(16, 19, false)}
		want := packet(19)
		want.Ttl = min(ttls[0], ttls[1], ttls[2])
		for i := range pieces {
			pieces[i].Ttl = ttls[i]
		}
		wantAdd(t, "first", l, pieces[0], 0, api.OK, 1)
		wantAdd(t, "second", l, pieces[1], 0, api.OK, 1)
		wantWhole(t, fmt.Sprint(ttls), l, pieces[2], 0, want, 0)
	}
}

// TestForgottenOnceDone: the same packet may come again at once.
func TestForgottenOnceDone(t *testing.T) {
	l := made(t, 5)
	for range 3 {
		wantAdd(t, "last", l, piece(16, 21, false), 2, api.OK, 1)
		wantWhole(t, "first", l, piece(0, 16, true), 2, packet(21), 0)
	}
}

// TestLongest: a packet of MaxBody bytes, in the smallest pieces, and one byte beyond it.
func TestLongest(t *testing.T) {
	pieces, err := Split(packet(api.MaxBody), 8)
	if err != nil || len(pieces) != api.MaxBody/8 {
		t.Fatal(len(pieces), err)
	}
	l := made(t, 5)
	for _, p := range pieces[1:] {
		wantAdd(t, "a piece", l, p, 0, api.OK, 1)
	}
	wantWhole(t, "first", l, pieces[0], 0, packet(api.MaxBody), 0)
	wantAdd(t, "up to the end, More", l, piece(3992, 4000, true), 0, api.OK, 1)
	wantAdd(t, "beyond it", l, piece(4000, 4008, true), 0, api.ErrShape, 1)
}

// TestNames: pieces that differ in Kind, Src, Dst or Id are of different packets.
func TestNames(t *testing.T) {
	for i, change := range []func(*api.Packet){
		func(p *api.Packet) { p.Kind = api.Echo },
		func(p *api.Packet) { p.Src++ },
		func(p *api.Packet) { p.Dst++ },
		func(p *api.Packet) { p.Id++ },
		func(p *api.Packet) { p.Src, p.Dst = p.Dst, p.Src },
	} {
		l := made(t, 5)
		first, last, want := piece(0, 16, true), piece(16, 20, false), packet(20)
		change(&first)
		change(&last)
		change(&want)
		what := fmt.Sprint("change ", i)
		wantAdd(t, what, l, piece(0, 16, true), 0, api.OK, 1)
		wantAdd(t, what, l, last, 0, api.OK, 2)
		wantAdd(t, what+", bad", l, piece(0, 8, true), 0, api.ErrShape, 2)
		wantWhole(t, what, l, first, 0, want, 1)
	}
}

// TestShape: what does not go together, by what came ahead of it.
func TestShape(t *testing.T) {
	for _, c := range []struct {
		name  string
		ahead []api.Packet
		p     api.Packet
		want  api.Errno
	}{
		{"More, 1 byte", nil, piece(0, 1, true), api.ErrShape},
		{"More, 7 bytes", nil, piece(0, 7, true), api.ErrShape},
		{"More, 9 bytes", nil, piece(8, 17, true), api.ErrShape},
		{"More, 8 bytes", nil, piece(8, 16, true), api.OK},
		{"last, 9 bytes", nil, piece(8, 17, false), api.OK},
		{"More, empty", nil, piece(0, 0, true), api.ErrShape},
		{"More, empty, further on", nil, piece(8, 8, true), api.ErrShape},
		{"last, empty", nil, piece(8, 8, false), api.ErrShape},
		{"last, empty, where the bytes end", []api.Packet{piece(0, 8, true)}, piece(8, 8, false), api.ErrShape},
		{"the same again", []api.Packet{piece(8, 16, true)}, piece(8, 16, true), api.ErrShape},
		{"over the first eight", []api.Packet{piece(8, 24, true)}, piece(0, 16, true), api.ErrShape},
		{"over the last eight", []api.Packet{piece(8, 24, true)}, piece(16, 32, true), api.ErrShape},
		{"over all of it", []api.Packet{piece(8, 16, true)}, piece(0, 24, true), api.ErrShape},
		{"inside it", []api.Packet{piece(0, 24, true)}, piece(8, 16, true), api.ErrShape},
		{"over one of two", []api.Packet{piece(0, 8, true), piece(24, 32, true)}, piece(16, 32, true), api.ErrShape},
		{"between two", []api.Packet{piece(0, 8, true), piece(24, 32, true)}, piece(8, 24, true), api.OK},
		{"last, over a piece", []api.Packet{piece(8, 16, true)}, piece(8, 20, false), api.ErrShape},
		{"ahead", []api.Packet{piece(8, 24, true)}, piece(0, 8, true), api.OK},
		{"behind", []api.Packet{piece(8, 24, true)}, piece(24, 32, true), api.OK},
		{"behind the last one", []api.Packet{piece(8, 16, false)}, piece(16, 24, true), api.ErrShape},
		{"far behind the last one", []api.Packet{piece(8, 13, false)}, piece(80, 88, true), api.ErrShape},
		{"over the last one, and behind", []api.Packet{piece(8, 13, false)}, piece(8, 16, true), api.ErrShape},
		{"ahead of the last one", []api.Packet{piece(16, 17, false)}, piece(8, 16, true), api.OK},
		{"second last one, ahead", []api.Packet{piece(24, 32, false)}, piece(8, 16, false), api.ErrShape},
		{"second last one, just ahead", []api.Packet{piece(24, 32, false)}, piece(16, 24, false), api.ErrShape},
		{"second last one, the same", []api.Packet{piece(24, 32, false)}, piece(24, 32, false), api.ErrShape},
		{"second last one, behind", []api.Packet{piece(24, 32, false)}, piece(32, 40, false), api.ErrShape},
		{"last, ahead of what is there", []api.Packet{piece(24, 32, true)}, piece(8, 16, false), api.ErrShape},
		{"last, just ahead of what is there", []api.Packet{piece(24, 32, true)}, piece(16, 24, false), api.ErrShape},
		{"last, ahead of the first of two", []api.Packet{piece(24, 32, true), piece(8, 16, true)}, piece(16, 24, false), api.ErrShape},
		{"last, behind what is there", []api.Packet{piece(8, 16, true)}, piece(16, 24, false), api.OK},
		{"last, up to MaxBody", nil, piece(3992, 4000, false), api.OK},
		{"last, beyond MaxBody", nil, piece(3992, 4001, false), api.ErrShape},
		{"More, beyond MaxBody", nil, piece(3992, 4008, true), api.ErrShape},
		{"begins at MaxBody", nil, piece(4000, 4001, false), api.ErrShape},
		{"at the last place", nil, piece(32767*8, 32767*8+8, true), api.ErrShape},
		{"longest, one eight on", nil, piece(8, 4008, true), api.ErrShape},
		{"longest, More", nil, piece(0, 4000, true), api.OK},
	} {
		l := made(t, 60)
		for _, a := range c.ahead {
			wantAdd(t, c.name+", ahead", l, a, 1, api.OK, 1)
		}
		wantAdd(t, c.name, l, c.p, 1, c.want, 1)
		if c.want == api.ErrShape {
			wantAdd(t, c.name+", then", l, piece(320, 328, true), 2, api.ErrState, 1)
		}
	}
}

// TestBad: what is bad stays so, and refuses all that comes of it, also what has a wrong shape, till it is forgotten.
func TestBad(t *testing.T) {
	l := made(t, 10)
	wantAdd(t, "good", l, piece(0, 8, true), 5, api.OK, 1)
	wantAdd(t, "bad", l, piece(0, 8, true), 8, api.ErrShape, 1)
	wantAdd(t, "the rest", l, piece(8, 16, false), 9, api.ErrState, 1)
	wantAdd(t, "empty", l, piece(8, 8, true), 9, api.ErrState, 1)
	wantAdd(t, "too far", l, piece(4000, 4008, true), 9, api.ErrState, 1)
	wantAdd(t, "shortly before", l, piece(0, 8, true), 14, api.ErrState, 1)
	wantAdd(t, "forgotten", l, piece(0, 8, true), 15, api.OK, 1)
	wantWhole(t, "new", l, piece(8, 16, false), 24, packet(16), 0)
	wantAdd(t, "bad from the first on", l, piece(0, 9, true), 30, api.ErrShape, 1)
	wantAdd(t, "bad from the first on", l, piece(0, 8, true), 39, api.ErrState, 1)
	wantTick(t, "bad from the first on", l, 40, 1, api.OK, 0)
	wantAdd(t, "begun again", l, piece(0, 8, true), 40, api.OK, 1)
}

// TestFull: at most MaxPools, of which those that are bad count, and ErrFull is ahead of ErrShape.
func TestFull(t *testing.T) {
	l := made(t, 10)
	numbered := func(p api.Packet, id int) api.Packet {
		p.Id = id
		return p
	}
	for i := range api.MaxPools {
		if i == 3 {
			wantAdd(t, "bad", l, numbered(piece(8, 8, true), i), i, api.ErrShape, i+1)
			continue
		}
		wantAdd(t, "good", l, numbered(piece(0, 8, true), i), i, api.OK, i+1)
	}
	wantAdd(t, "one more", l, numbered(piece(0, 8, true), 50), 8, api.ErrFull, 8)
	wantAdd(t, "one more, of a wrong shape", l, numbered(piece(0, 9, true), 50), 8, api.ErrFull, 8)
	wantAdd(t, "one more, empty", l, numbered(piece(8, 8, false), 50), 8, api.ErrFull, 8)
	wantAdd(t, "what is there", l, numbered(piece(16, 24, true), 2), 8, api.OK, 8)
	wantAdd(t, "what is there, of a wrong shape", l, numbered(piece(16, 24, true), 2), 8, api.ErrShape, 8)
	wantAdd(t, "what is bad", l, numbered(piece(0, 8, true), 3), 8, api.ErrState, 8)
	want := packet(12)
	want.Id = 5
	wantWhole(t, "what gets whole", l, numbered(piece(8, 12, false), 5), 8, want, 7)
	wantAdd(t, "in its place", l, numbered(piece(0, 8, true), 50), 9, api.OK, 8)
	wantAdd(t, "full again", l, numbered(piece(0, 8, true), 51), 9, api.ErrFull, 8)
	wantAdd(t, "as one is forgotten", l, numbered(piece(0, 8, true), 51), 10, api.OK, 8)
	wantAdd(t, "what was forgotten", l, numbered(piece(8, 12, false), 0), 10, api.ErrFull, 8)
}

// TestForgotten: what began life ago, or earlier, goes by any call; it counts from the first piece.
func TestForgotten(t *testing.T) {
	other := piece(0, 8, true)
	other.Id++
	for _, life := range []int{1, 2, 10, api.MaxTime - 5} {
		l := made(t, life)
		wantAdd(t, "begins", l, piece(0, 8, true), 5, api.OK, 1)
		wantAdd(t, "goes on", l, piece(16, 24, true), 5+life-1, api.OK, 1)
		wantTick(t, "nothing yet", l, 5+life-1, 0, api.OK, 1)
		wantAdd(t, "begins anew", l, piece(8, 16, false), 5+life, api.OK, 1)
		l = made(t, life)
		wantAdd(t, "begins", l, piece(0, 8, true), 0, api.OK, 1)
		wantAdd(t, "another one", l, other, life, api.OK, 1)
		wantWhole(t, "no piece", l, packet(3), life, packet(3), 1)
	}
	l := made(t, 10)
	wantAdd(t, "begins", l, piece(0, 8, true), 0, api.OK, 1)
	wantWhole(t, "by what is no piece", l, packet(3), 10, packet(3), 0)
	wantAdd(t, "begins", l, piece(0, 8, true), 10, api.OK, 1)
	wantAdd(t, "another one", l, other, 15, api.OK, 2)
	wantTick(t, "none", l, 19, 0, api.OK, 2)
	wantTick(t, "one", l, 24, 1, api.OK, 1)
	wantTick(t, "the other one", l, api.MaxTime, 1, api.OK, 0)
	wantAdd(t, "at the last time", l, other, api.MaxTime, api.OK, 1)
	wantTick(t, "no more", l, api.MaxTime, 0, api.OK, 1)
}

// TestTickMany: all that are old, at once.
func TestTickMany(t *testing.T) {
	l := made(t, 4)
	for i := range api.MaxPools {
		p := piece(0, 8, true)
		p.Id = i
		wantAdd(t, "one more", l, p, i/2, api.OK, i+1)
	}
	wantTick(t, "none", l, 3, 0, api.OK, 8)
	wantTick(t, "two", l, 4, 2, api.OK, 6)
	wantTick(t, "four", l, 6, 4, api.OK, 2)
	wantTick(t, "two", l, 999, 2, api.OK, 0)
	wantTick(t, "none", l, 999, 0, api.OK, 0)
}

// TestErrorsAhead: the packet's, then those of now, change nothing.
func TestErrorsAhead(t *testing.T) {
	l := made(t, 10)
	wantAdd(t, "begins", l, piece(0, 8, true), 5, api.OK, 1)
	for _, c := range wrongPackets() {
		for _, now := range []int{-1, 0, 5, 900, api.MaxTime, api.MaxTime + 1} {
			wantAdd(t, c.name, l, c.p, now, c.want, 1)
		}
	}
	for _, now := range []int{math.MinInt, -1, api.MaxTime + 1, math.MaxInt} {
		wantAdd(t, "no time", l, piece(8, 12, false), now, api.ErrRange, 1)
		wantAdd(t, "no time, wrong shape", l, piece(0, 8, true), now, api.ErrRange, 1)
		wantAdd(t, "no time, no piece", l, packet(3), now, api.ErrRange, 1)
		wantTick(t, "no time", l, now, 0, api.ErrRange, 1)
	}
	for _, now := range []int{0, 4} {
		wantAdd(t, "earlier", l, piece(8, 12, false), now, api.ErrState, 1)
		wantAdd(t, "earlier, wrong shape", l, piece(0, 8, true), now, api.ErrState, 1)
		wantAdd(t, "earlier, no piece", l, packet(3), now, api.ErrState, 1)
		wantTick(t, "earlier", l, now, 0, api.ErrState, 1)
	}
	wantWhole(t, "still there", l, piece(8, 12, false), 5, packet(12), 0)
}

// TestTimeGoesOn: by all calls but those with the errors ahead, also by those with others.
func TestTimeGoesOn(t *testing.T) {
	l := made(t, 5)
	steps := []struct {
		name string
		p    api.Packet
		want api.Errno
	}{
		{"ErrShape", piece(0, 9, true), api.ErrShape},
		{"ErrState", piece(0, 8, true), api.ErrState},
	}
	now := 10
	for _, s := range steps {
		wantAdd(t, s.name, l, s.p, now, s.want, 1)
		wantTick(t, "behind "+s.name, l, now-1, 0, api.ErrState, 1)
		now++
	}
	wantWhole(t, "no piece", l, packet(1), 13, packet(1), 1)
	wantTick(t, "behind no piece", l, 12, 0, api.ErrState, 1)
	wantTick(t, "alike", l, 13, 0, api.OK, 1)
	wantTick(t, "on", l, 14, 0, api.OK, 1)
	wantAdd(t, "behind Tick", l, piece(0, 8, true), 13, api.ErrState, 1)
	for i := range api.MaxPools {
		p := piece(0, 8, true)
		p.Id = 1000 + i
		wantAdd(t, "one more", l, p, 20, api.OK, i+1)
	}
	wantAdd(t, "ErrFull", l, piece(0, 8, true), 22, api.ErrFull, api.MaxPools)
	wantTick(t, "behind ErrFull", l, 21, 0, api.ErrState, api.MaxPools)
	wantAdd(t, "forgets, and has a wrong shape", l, piece(0, 9, true), 25, api.ErrShape, 1)
}

// TestPoolFresh: what is handed in is neither written into nor kept, and what comes out is not kept either.
func TestPoolFresh(t *testing.T) {
	l := made(t, 5)
	room := counted(60)
	first := piece(0, 16, true)
	first.Body = room[:16]
	wantAdd(t, "first", l, first, 0, api.OK, 1)
	if !bytes.Equal(room, counted(60)) {
		t.Error("Add writes into what it was given")
	}
	clear(room)
	whole, done, err := l.Add(piece(16, 20, false), 0)
	if !done || err != nil || !same(whole, packet(20)) {
		t.Errorf("Add keeps what it was given: got %v, %v, %v", whole, done, err)
	}
	for _, many := range []int{0, 9} {
		room = counted(60)
		p := packet(0)
		p.Body = room[:many]
		whole, done, err = l.Add(p, 0)
		if !done || err != nil {
			t.Fatal(whole, done, err)
		}
		_ = append(whole.Body, 99)
		clear(whole.Body)
		if !bytes.Equal(room, counted(60)) {
			t.Error("what comes out shares memory with what was handed in")
		}
	}
}

// TestPoolsApart: two Pools know nothing of each other.
func TestPoolsApart(t *testing.T) {
	l, m := made(t, 5), made(t, 5)
	wantAdd(t, "one", l, piece(0, 8, true), 9, api.OK, 1)
	wantAdd(t, "other", m, piece(8, 12, false), 3, api.OK, 1)
	wantWhole(t, "other", m, piece(0, 8, true), 3, packet(12), 0)
	wantWhole(t, "one", l, piece(8, 12, false), 9, packet(12), 0)
}

// slow is a Pool by the words of the chapter: it keeps all pieces, and looks at bytes one by one.
type slow struct {
	life, last int
	begun      []*slowOne
}

type slowOne struct {
	began  int
	bad    bool
	pieces []api.Packet
}

func (s *slow) tick(now int) (int, api.Errno) {
	if now < 0 || now > api.MaxTime {
		return 0, api.ErrRange
	}
	if now < s.last {
		return 0, api.ErrState
	}
	s.last = now
	var left []*slowOne
	for _, o := range s.begun {
		if o.began+s.life > now {
			left = append(left, o)
		}
	}
	gone := len(s.begun) - len(left)
	s.begun = left
	return gone, api.OK
}

func (s *slow) add(p api.Packet, now int) (api.Packet, bool, api.Errno) {
	if err := wire.Check(p); err != nil {
		return api.Packet{}, false, plain.Told(err)
	}
	if _, err := s.tick(now); err != api.OK {
		return api.Packet{}, false, err
	}
	if p.At == 0 && !p.More {
		return p, true, api.OK
	}
	at := -1
	for i, o := range s.begun {
		q := o.pieces[0]
		if q.Kind == p.Kind && q.Src == p.Src && q.Dst == p.Dst && q.Id == p.Id {
			at = i
		}
	}
	if at < 0 {
		if len(s.begun) == 8 {
			return api.Packet{}, false, api.ErrFull
		}
		at = len(s.begun)
		s.begun = append(s.begun, &slowOne{began: now})
	}
	o := s.begun[at]
	if o.bad {
		return api.Packet{}, false, api.ErrState
	}
	o.pieces = append(o.pieces, p)
	if !together(o.pieces) {
		o.bad = true
		return api.Packet{}, false, api.ErrShape
	}
	whole, done := joined(o.pieces)
	if done {
		s.begun = append(s.begun[:at:at], s.begun[at+1:]...)
	}
	return whole, done, api.OK
}

// together tells whether pieces can all be of one packet.
func together(l []api.Packet) bool {
	times := map[int]int{}
	end, lasts := 1<<40, 0
	for _, p := range l {
		if len(p.Body) == 0 || p.More && len(p.Body)%8 != 0 {
			return false
		}
		for i := range p.Body {
			times[p.At*8+i]++
		}
		if !p.More {
			lasts++
			end = p.At*8 + len(p.Body)
		}
	}
	for at, n := range times {
		if n > 1 || at >= end || at >= 4000 {
			return false
		}
	}
	return lasts <= 1
}

func joined(l []api.Packet) (api.Packet, bool) {
	known := map[int]byte{}
	end := -1
	whole := l[0]
	for _, p := range l {
		for i, c := range p.Body {
			known[p.At*8+i] = c
		}
		if !p.More {
			end = p.At*8 + len(p.Body)
		}
		whole.Ttl = min(whole.Ttl, p.Ttl)
	}
	if end < 0 || len(known) != end {
		return api.Packet{}, false
	}
	whole.At, whole.More, whole.Body = 0, false, nil
	for i := range end {
		whole.Body = append(whole.Body, known[i])
	}
	return whole, true
}

// randomPiece is mostly one of the pieces of a packet of one of some names.
func randomPiece(r *rand.Rand, names int) api.Packet {
	size, id := 8*(1+r.Intn(2)), r.Intn(names)
	many := 9 + id*5%24
	begin := size * r.Intn((many+size-1)/size)
	p := piece(begin, min(begin+size, many), begin+size < many)
	p.Id, p.Ttl = id, r.Intn(256)
	r.Read(p.Body)
	switch r.Intn(60) {
	case 0:
		p.Body = p.Body[:len(p.Body)-1]
	case 1:
		p.More = !p.More
	case 2:
		p.At = r.Intn(600)
	case 3:
		p.Kind = r.Intn(18)
	case 4:
		p.Src = p.Dst
	case 5:
		p.Body = make([]byte, []int{3999, 4000, 4001}[r.Intn(3)])
	}
	return p
}

// TestPoolRandom: many calls, held against the slow one.
func TestPoolRandom(t *testing.T) {
	r := rand.New(rand.NewSource(5))
	dones := 0
	for round := range 600 {
		life := 1 + r.Intn(40)
		l, s := made(t, life), &slow{life: life}
		names := 1 + r.Intn(12)
		now := 0
		for range 60 {
			now = max(now+r.Intn(3)*r.Intn(2)-r.Intn(15)/14, -1)
			if r.Intn(12) == 0 {
				n, err := l.Tick(now)
				wantN, want := s.tick(now)
				if n != wantN || plain.Told(err) != want || l.Len() != len(s.begun) {
					t.Fatalf("round %d: Tick at %d: got %d, %v, Len %d, want %d, %v, Len %d", round, now, n, err, l.Len(), wantN, want, len(s.begun))
				}
				continue
			}
			p := randomPiece(r, names)
			whole, done, err := l.Add(p, now)
			wantP, wantDone, want := s.add(p, now)
			if !same(whole, wantP) || done != wantDone || plain.Told(err) != want || l.Len() != len(s.begun) {
				t.Fatalf("round %d: Add of %v at %d: got %v, %v, %v, Len %d, want %v, %v, %v, Len %d", round, p, now, whole, done, err, l.Len(), wantP, wantDone, want, len(s.begun))
			}
			if done && (p.At != 0 || p.More) {
				dones++
			}
		}
	}
	if dones < 500 {
		t.Errorf("only %d packets were put together", dones)
	}
}

// TestSplitAdd: pieces of packets, shuffled among each other, come to what was split.
func TestSplitAdd(t *testing.T) {
	r := rand.New(rand.NewSource(6))
	for range 200 {
		l := made(t, 1)
		var all []api.Packet
		whole := map[int]api.Packet{}
		for id := range 1 + r.Intn(api.MaxPools) {
			p := packet(r.Intn(200))
			p.Id = id
			r.Read(p.Body)
			whole[id] = p
			pieces, err := Split(p, 8+r.Intn(60))
			if err != nil {
				t.Fatal(err)
			}
			all = append(all, pieces...)
		}
		r.Shuffle(len(all), func(i, j int) { all[i], all[j] = all[j], all[i] })
		for _, p := range all {
			got, done, err := l.Add(p, 7)
			if err != nil {
				t.Fatal(err)
			}
			if done && !same(got, whole[p.Id]) {
				t.Fatalf("got %v, want %v", got, whole[p.Id])
			}
			if done {
				delete(whole, p.Id)
			}
		}
		if len(whole) != 0 || l.Len() != 0 {
			t.Fatalf("%d did not come out, %d are left", len(whole), l.Len())
		}
	}
}
