package seg

import (
	"bytes"
	"fmt"
	"math"
	"math/rand"
	"reflect"
	"slices"
	"testing"

	"portcullis/api"
	"portcullis/plain"
)

// kind is a kind of segment, and what its bytes are like.
type kind struct {
	number, head, at int // head: bytes ahead of the Body; at: where the sum stands
	has              []string
}

func kinds() []kind {
	return []kind{
		{api.Stream, 17, 15, []string{"From", "To", "Seq", "Ack", "Win", "Flags"}},
		{api.Single, 6, 4, []string{"From", "To"}},
		{api.Echo, 8, 6, []string{"From", "To", "Seq"}},
	}
}

// field is a number of a segment, and the greatest that it may be.
type field struct {
	name string
	most int
	of   func(*api.Segment) *int
}

func numbers(k int) []field {
	l := []field{
		{"From", 65535, func(s *api.Segment) *int { return &s.From }},
		{"To", 65535, func(s *api.Segment) *int { return &s.To }},
		{"Seq", 1<<32 - 1, func(s *api.Segment) *int { return &s.Seq }},
		{"Ack", 1<<32 - 1, func(s *api.Segment) *int { return &s.Ack }},
		{"Win", 65535, func(s *api.Segment) *int { return &s.Win }},
		{"Flags", 15, func(s *api.Segment) *int { return &s.Flags }},
	}
	if k == api.Echo {
		l[0].most, l[2].most = 1, 65535
	}
	return l
}

const (
	sampleSrc = 10<<24 | 1
	sampleDst = 192<<24 | 168<<16 | 7
)

// sample is an ordinary segment of a kind, and sampleBytes are its bytes.
func sample(k int) api.Segment {
	switch k {
	case api.Stream:
		return api.Segment{From: 4660, To: 80, Seq: 0x01020304, Ack: 0xfffefdfc, Win: 500, Flags: api.Syn | api.Ack, Body: []byte{1, 2, 255}}
	case api.Single:
		return api.Segment{From: 4660, To: 53, Body: []byte{1, 2, 255}}
	}
	return api.Segment{From: 1, To: 4660, Seq: 513, Body: []byte{1, 2, 255}}
}

func sampleBytes(k int) []byte {
	// The ends are 0a00 + 0001 + c0a8 + 0007, so cab0, and the kind.
	switch k {
	case api.Stream:
		// cab1 + 1234 + 0050 + 0102 + 0304 + fffe + fdfc + 0a01 + f400 + 0001 + 02ff are 3e036, so e039, of which 1fc6 is the rest.
		return []byte{0x12, 0x34, 0, 80, 1, 2, 3, 4, 255, 254, 253, 252, 10, 1, 244, 0x1f, 0xc6, 1, 2, 255}
	case api.Single:
		// cab2 + 1234 + 0035 + 0102 + ff00 are 1dd1d, so dd1e, of which 22e1 is the rest.
		return []byte{0x12, 0x34, 0, 53, 0x22, 0xe1, 1, 2, 255}
	}
	// cab3 + 0112 + 3402 + 0100 + 0102 + ff00 are 200c9, so 00cb, of which ff34 is the rest.
	return []byte{1, 0x12, 0x34, 2, 1, 0, 0xff, 0x34, 1, 2, 255}
}

// sealed is a copy of bytes with the sum that a kind of segment has, worked out by remainders.
func sealed(k kind, b []byte, src, dst int) []byte {
	b = bytes.Clone(b)
	b[k.at], b[k.at+1] = 0, 0
	total := src>>16 + src&65535 + dst>>16 + dst&65535 + k.number
	for i, c := range b {
		total += int(c) << (8 * (1 - i%2))
	}
	s := 65535 - ((total+65534)%65535 + 1) // kind is not 0, so neither is total
	b[k.at], b[k.at+1] = byte(s>>8), byte(s)
	return b
}

func randomSegment(r *rand.Rand, k kind) api.Segment {
	s := api.Segment{Body: make([]byte, r.Intn(40))}
	if r.Intn(20) == 0 {
		s.Body = make([]byte, api.MaxBody-k.head-r.Intn(3))
	}
	r.Read(s.Body)
	for _, f := range numbers(k.number) {
		if slices.Contains(k.has, f.name) {
			*f.of(&s) = []int{0, 1, f.most, f.most - 1, r.Intn(f.most + 1), r.Intn(f.most + 1)}[r.Intn(6)]
		}
	}
	return s
}

func randomAddr(r *rand.Rand) int {
	return []int{0, 1, api.MaxAddr, r.Intn(api.MaxAddr + 1), r.Intn(api.MaxAddr + 1)}[r.Intn(5)]
}

func same(s, t api.Segment) bool {
	alike := bytes.Equal(s.Body, t.Body)
	s.Body, t.Body = nil, nil
	return alike && reflect.DeepEqual(s, t)
}

func wantBytes(t *testing.T, what string, got []byte, err error, want []byte) {
	t.Helper()
	if err != nil || !bytes.Equal(got, want) {
		t.Errorf("%s: got %v, %v, want %v", what, got, err, want)
	}
}

func wantNoBytes(t *testing.T, what string, got []byte, err error, want api.Errno) {
	t.Helper()
	if len(got) != 0 || plain.Told(err) != want {
		t.Errorf("%s: got %v, %v, want %v", what, got, err, want)
	}
}

func wantSegment(t *testing.T, what string, got api.Segment, err error, want api.Segment) {
	t.Helper()
	if err != nil || !same(got, want) {
		t.Errorf("%s: got %v, %v, want %v", what, got, err, want)
	}
}

func wantNoSegment(t *testing.T, what string, got api.Segment, err error, want api.Errno) {
	t.Helper()
	if !same(got, api.Segment{}) || plain.Told(err) != want {
		t.Errorf("%s: got %v, %v, want %v", what, got, err, want)
	}
}

// wantNoKey asks for an error of KeyOf, with nothing beside it.
func wantNoKey(t *testing.T, what string, p api.Packet, want api.Errno) {
	t.Helper()
	k, s, err := KeyOf(p)
	if k != (api.Key{}) {
		t.Errorf("%s: got a key %v", what, k)
	}
	wantNoSegment(t, what, s, err, want)
}

// wrong are numbers that are not from 0 to most.
func wrong(most int) []int {
	return []int{-1, -most - 1, most + 1, 1 << 32, 1 << 40, math.MinInt, math.MaxInt}
}

// G1

func TestEncode(t *testing.T) {
	for _, k := range kinds() {
		got, err := Encode(k.number, sample(k.number), sampleSrc, sampleDst)
		wantBytes(t, fmt.Sprint("Encode of kind ", k.number), got, err, sampleBytes(k.number))
	}
}

func TestEncodeOfNothing(t *testing.T) {
	for _, c := range []struct {
		kind int
		want []byte
	}{
		{api.Stream, []byte{0, 0, 0, 0, 0, 0, 0, 0, 0, 0, 0, 0, 0, 0, 0, 0xff, 0xfe}},
		{api.Single, []byte{0, 0, 0, 0, 0xff, 0xfd}},
		{api.Echo, []byte{0, 0, 0, 0, 0, 0, 0xff, 0xfc}},
	} {
		got, err := Encode(c.kind, api.Segment{}, 0, 0)
		wantBytes(t, fmt.Sprint("Encode of nothing of kind ", c.kind), got, err, c.want)
	}
}

// The greatest number of each field alone, so that its place in the bytes is seen.
func TestEncodePlaces(t *testing.T) {
	for _, c := range []struct {
		kind  int
		field string
		at    []int // the bytes that are 255, or what the field's most is
		byte
	}{
		{api.Stream, "From", []int{0, 1}, 255},
		{api.Stream, "To", []int{2, 3}, 255},
		{api.Stream, "Seq", []int{4, 5, 6, 7}, 255},
		{api.Stream, "Ack", []int{8, 9, 10, 11}, 255},
		{api.Stream, "Flags", []int{12}, 15},
		{api.Stream, "Win", []int{13, 14}, 255},
		{api.Single, "From", []int{0, 1}, 255},
		{api.Single, "To", []int{2, 3}, 255},
		{api.Echo, "From", []int{0}, 1},
		{api.Echo, "To", []int{1, 2}, 255},
		{api.Echo, "Seq", []int{3, 4}, 255},
	} {
		var s api.Segment
		for _, f := range numbers(c.kind) {
			if f.name == c.field {
				*f.of(&s) = f.most
			}
		}
		k := kinds()[c.kind-1]
		want := make([]byte, k.head)
		for _, i := range c.at {
			want[i] = c.byte
		}
		got, err := Encode(c.kind, s, sampleSrc, 0)
		wantBytes(t, fmt.Sprint("Encode of kind ", c.kind, " with the greatest ", c.field), got, err, sealed(k, want, sampleSrc, 0))
	}
}

func TestEncodeRange(t *testing.T) {
	for _, k := range kinds() {
		for _, f := range numbers(k.number) {
			for _, n := range wrong(f.most) {
				// ErrRange is told ahead of ErrFull, and of fields that the kind does not have.
				for _, many := range []int{3, 4000} {
					s := sample(k.number)
					s.Body = make([]byte, many)
					*f.of(&s) = n
					got, err := Encode(k.number, s, 1, 2)
					wantNoBytes(t, fmt.Sprint("Encode of kind ", k.number, " with ", f.name, " ", n), got, err, api.ErrRange)
				}
			}
		}
	}
	s := api.Segment{Win: 1, Flags: 16}
	got, err := Encode(api.Single, s, 1, 2)
	wantNoBytes(t, "Encode with a wrong number behind one that is not had", got, err, api.ErrRange)
}

// A number of a field that is had may be the greatest; whether it is had is not looked at ahead of that.
func TestEncodeEdges(t *testing.T) {
	for _, k := range kinds() {
		for _, f := range numbers(k.number) {
			for _, n := range []int{0, 1, f.most - 1, f.most} {
				s := sample(k.number)
				*f.of(&s) = n
				got, err := Encode(k.number, s, 1, 2)
				what := fmt.Sprint("Encode of kind ", k.number, " with ", f.name, " ", n)
				if n != 0 && !slices.Contains(k.has, f.name) {
					wantNoBytes(t, what, got, err, api.ErrShape)
				} else if err != nil || len(got) != k.head+3 {
					t.Errorf("%s: got %v, %v", what, got, err)
				}
			}
		}
	}
}

func TestEncodeKindsAndAddresses(t *testing.T) {
	for _, n := range []int{-1, 0, 4, 5, 15, 16, 257, 258, 259, 1 << 32, 1<<32 + 1, math.MinInt, math.MaxInt} {
		got, err := Encode(n, api.Segment{}, 1, 2)
		wantNoBytes(t, fmt.Sprint("Encode of kind ", n), got, err, api.ErrRange)
		seg, err := Read(n, sampleBytes(api.Single), 1, 2)
		wantNoSegment(t, fmt.Sprint("Read of kind ", n), seg, err, api.ErrRange)
	}
	for _, k := range kinds() {
		for _, a := range wrong(api.MaxAddr) {
			for _, ends := range [][2]int{{a, 1}, {1, a}, {a, a}} {
				got, err := Encode(k.number, sample(k.number), ends[0], ends[1])
				wantNoBytes(t, fmt.Sprint("Encode from, to ", ends), got, err, api.ErrRange)
				// Read tells it ahead of ErrShort and of ErrFull.
				for _, b := range [][]byte{nil, sampleBytes(k.number), make([]byte, 4001)} {
					s, err := Read(k.number, b, ends[0], ends[1])
					wantNoSegment(t, fmt.Sprint("Read from, to ", ends), s, err, api.ErrRange)
				}
			}
		}
		for _, ends := range [][2]int{{0, 0}, {api.MaxAddr, api.MaxAddr}, {0, api.MaxAddr}, {api.MaxAddr, 0}} {
			b, err := Encode(k.number, sample(k.number), ends[0], ends[1])
			wantBytes(t, fmt.Sprint("Encode from, to ", ends), b, err, sealed(k, sampleBytes(k.number), ends[0], ends[1]))
			s, err := Read(k.number, b, ends[0], ends[1])
			wantSegment(t, fmt.Sprint("Read from, to ", ends), s, err, sample(k.number))
		}
	}
}

func TestEncodeFull(t *testing.T) {
	for _, k := range kinds() {
		s := sample(k.number)
		s.Body = bytes.Repeat([]byte{200, 7}, 2000)[:api.MaxBody-k.head]
		got, err := Encode(k.number, s, 1, 2)
		if err != nil || len(got) != api.MaxBody || !bytes.Equal(got, sealed(k, got, 1, 2)) || !bytes.Equal(got[k.head:], s.Body) {
			t.Errorf("Encode of the longest of kind %d: got %d bytes, %v", k.number, len(got), err)
		}
		for _, n := range []int{api.MaxBody - k.head + 1, api.MaxBody, api.MaxBody + 1, 1 << 17} {
			s.Body = make([]byte, n)
			got, err := Encode(k.number, s, 1, 2)
			wantNoBytes(t, fmt.Sprint("Encode of kind ", k.number, " with a Body of ", n), got, err, api.ErrFull)
		}
	}
	got, err := Encode(api.Echo, api.Segment{Ack: 1, Body: make([]byte, 4000)}, 1, 2)
	wantNoBytes(t, "Encode with a field that is not had, and too much", got, err, api.ErrShape)
}

func TestEncodeLeavesTheBodyAlone(t *testing.T) {
	for _, k := range kinds() {
		memory := []byte{1, 2, 255, 77, 78, 79}
		before := bytes.Clone(memory)
		s := sample(k.number)
		s.Body = memory[:3]
		got, err := Encode(k.number, s, sampleSrc, sampleDst)
		wantBytes(t, "Encode", got, err, sampleBytes(k.number))
		for i := range got {
			got[i] = 99
		}
		if !bytes.Equal(memory, before) {
			t.Errorf("Encode wrote into %v", memory)
		}
	}
}

// G2

func TestRead(t *testing.T) {
	for _, k := range kinds() {
		got, err := Read(k.number, sampleBytes(k.number), sampleSrc, sampleDst)
		wantSegment(t, fmt.Sprint("Read of kind ", k.number), got, err, sample(k.number))
		got, err = Read(k.number, sealed(k, make([]byte, k.head), 5, 6), 5, 6)
		wantSegment(t, fmt.Sprint("Read of nothing of kind ", k.number), got, err, api.Segment{})
	}
}

func TestReadIsOfEncode(t *testing.T) {
	r := rand.New(rand.NewSource(1))
	for range 3000 {
		k := kinds()[r.Intn(3)]
		s, src, dst := randomSegment(r, k), randomAddr(r), randomAddr(r)
		b, err := Encode(k.number, s, src, dst)
		if err != nil || len(b) != k.head+len(s.Body) {
			t.Fatalf("Encode of kind %d of %v: got %v, %v", k.number, s, b, err)
		}
		wantBytes(t, "its sum", b, nil, sealed(k, b, src, dst))
		got, err := Read(k.number, b, src, dst)
		wantSegment(t, "Read", got, err, s)
	}
}

func TestReadLengths(t *testing.T) {
	for _, k := range kinds() {
		for n := range k.head {
			s, err := Read(k.number, make([]byte, n), 1, 2)
			wantNoSegment(t, fmt.Sprint("Read of ", n, " bytes of kind ", k.number), s, err, api.ErrShort)
			// What lies behind the length is not there, though it is in memory.
			s, err = Read(k.number, sampleBytes(k.number)[:n], sampleSrc, sampleDst)
			wantNoSegment(t, fmt.Sprint("Read of the first ", n, " of kind ", k.number), s, err, api.ErrShort)
		}
		for _, n := range []int{k.head, k.head + 1, api.MaxBody - 1, api.MaxBody} {
			s, err := Read(k.number, sealed(k, make([]byte, n), 1, 2), 1, 2)
			wantSegment(t, fmt.Sprint("Read of ", n, " bytes"), s, err, api.Segment{Body: make([]byte, n-k.head)})
			s, err = Read(k.number, make([]byte, n), 1, 2)
			wantNoSegment(t, fmt.Sprint("Read of ", n, " bytes without a sum"), s, err, api.ErrSum)
		}
		for _, n := range []int{api.MaxBody + 1, api.MaxBody + 2, 1 << 17} {
			s, err := Read(k.number, sealed(k, make([]byte, n), 1, 2), 1, 2)
			wantNoSegment(t, fmt.Sprint("Read of ", n, " bytes"), s, err, api.ErrFull)
			s, err = Read(k.number, make([]byte, n), 1, 2)
			wantNoSegment(t, fmt.Sprint("Read of ", n, " bytes without a sum"), s, err, api.ErrFull)
		}
	}
}

// Each bit that is turned is seen, in all the bytes, in who it is from and to, and in the kind.
func TestReadSum(t *testing.T) {
	for _, k := range kinds() {
		for bit := range 8 * len(sampleBytes(k.number)) {
			b := sampleBytes(k.number)
			b[bit/8] ^= 1 << (bit % 8)
			s, err := Read(k.number, b, sampleSrc, sampleDst)
			wantNoSegment(t, fmt.Sprint("Read of kind ", k.number, " with bit ", bit, " turned"), s, err, api.ErrSum)
		}
		for bit := range 32 {
			s, err := Read(k.number, sampleBytes(k.number), sampleSrc^1<<bit, sampleDst)
			wantNoSegment(t, "Read from another one", s, err, api.ErrSum)
			s, err = Read(k.number, sampleBytes(k.number), sampleSrc, sampleDst^1<<bit)
			wantNoSegment(t, "Read to another one", s, err, api.ErrSum)
		}
		// The same bytes with the sum of another kind.
		for _, other := range kinds() {
			if other.number != k.number {
				b := sealed(kind{other.number, k.head, k.at, nil}, sampleBytes(k.number), sampleSrc, sampleDst)
				s, err := Read(k.number, b, sampleSrc, sampleDst)
				wantNoSegment(t, "Read with the sum of another kind", s, err, api.ErrSum)
			}
		}
	}
}

// Where the sum is 0, 65535 is another one, though both add up alike.
func TestReadOneZero(t *testing.T) {
	for _, k := range kinds() {
		b := make([]byte, k.head)
		src := 65535 - k.number
		b = sealed(k, b, src, 0)
		if b[k.at] != 0 || b[k.at+1] != 0 {
			t.Fatalf("got %v", b)
		}
		s, err := Read(k.number, b, src, 0)
		wantSegment(t, "Read with 0", s, err, api.Segment{})
		b[k.at], b[k.at+1] = 255, 255
		s, err = Read(k.number, b, src, 0)
		wantNoSegment(t, "Read with 65535", s, err, api.ErrSum)
	}
}

func TestReadRangeAndShape(t *testing.T) {
	stream, echo := kinds()[0], kinds()[2]
	for c := range 256 {
		b := sampleBytes(api.Stream)
		b[12] = byte(c)
		got, err := Read(api.Stream, sealed(stream, b, 1, 2), 1, 2)
		want := sample(api.Stream)
		want.Flags = c
		if c <= 15 {
			wantSegment(t, fmt.Sprint("Read with Flags ", c), got, err, want)
		} else {
			wantNoSegment(t, fmt.Sprint("Read with Flags ", c), got, err, api.ErrRange)
		}
		for gap := range 256 {
			b := sampleBytes(api.Echo)
			b[0], b[5] = byte(c), byte(gap)
			got, err := Read(api.Echo, sealed(echo, b, 1, 2), 1, 2)
			what := fmt.Sprint("Read of an Echo with From ", c, " and, for 0, ", gap)
			want := sample(api.Echo)
			want.From = c
			switch {
			case c > 1:
				wantNoSegment(t, what, got, err, api.ErrRange)
			case gap != 0:
				wantNoSegment(t, what, got, err, api.ErrShape)
			default:
				wantSegment(t, what, got, err, want)
			}
		}
	}
	b := sampleBytes(api.Echo)
	b[0], b[5] = 7, 9
	s, err := Read(api.Echo, b, sampleSrc, sampleDst)
	wantNoSegment(t, "Read of an Echo with all wrong", s, err, api.ErrSum)
}

func TestReadLeavesItsBytesAlone(t *testing.T) {
	for _, k := range kinds() {
		memory := append(sampleBytes(k.number), 80, 81, 82)
		before := bytes.Clone(memory)
		b := memory[:k.head+3]
		s, err := Read(k.number, b, sampleSrc, sampleDst)
		wantSegment(t, "Read", s, err, sample(k.number))
		for i := range s.Body {
			s.Body[i] = 99
		}
		s.Body = append(s.Body, 99)
		_, s, err = KeyOf(api.Packet{Kind: k.number, Src: sampleSrc, Dst: sampleDst, Body: b})
		wantSegment(t, "KeyOf", s, err, sample(k.number))
		s.Body = append(s.Body[:0], 99, 99, 99, 99)
		if !bytes.Equal(memory, before) {
			t.Errorf("a Body is a piece of %v", memory)
		}
	}
}

func TestKeyOf(t *testing.T) {
	for _, c := range []struct {
		kind int
		want api.Key
	}{
		{api.Stream, api.Key{Kind: api.Stream, Src: sampleSrc, From: 4660, Dst: sampleDst, To: 80}},
		{api.Single, api.Key{Kind: api.Single, Src: sampleSrc, From: 4660, Dst: sampleDst, To: 53}},
		{api.Echo, api.Key{Kind: api.Echo, Src: sampleSrc, From: 4660, Dst: sampleDst, To: 4660}},
	} {
		p := api.Packet{Kind: c.kind, Ttl: 3, Id: 9, Src: sampleSrc, Dst: sampleDst, Body: sampleBytes(c.kind)}
		k, s, err := KeyOf(p)
		if k != c.want {
			t.Errorf("KeyOf of kind %d: got %v, want %v", c.kind, k, c.want)
		}
		wantSegment(t, "KeyOf", s, err, sample(c.kind))
	}
}

// What asks and what answers have keys that are each other's turn.
func TestKeyOfBothWays(t *testing.T) {
	for _, c := range []struct {
		kind        int
		ask, answer api.Segment
	}{
		{api.Stream, api.Segment{From: 5000, To: 80, Flags: api.Syn}, api.Segment{From: 80, To: 5000, Flags: api.Syn | api.Ack}},
		{api.Single, api.Segment{From: 5000, To: 53}, api.Segment{From: 53, To: 5000}},
		{api.Echo, api.Segment{From: 0, To: 77, Seq: 3}, api.Segment{From: 1, To: 77, Seq: 3}},
	} {
		there := keyOf(t, c.kind, c.ask, 1, 2)
		back := keyOf(t, c.kind, c.answer, 2, 1)
		if Turn(there) != back || First(there) != there || First(back) != there {
			t.Errorf("kind %d: got %v and %v", c.kind, there, back)
		}
	}
}

func keyOf(t *testing.T, kind int, s api.Segment, src, dst int) api.Key {
	t.Helper()
	b, err := Encode(kind, s, src, dst)
	if err != nil {
		t.Fatal(err)
	}
	k, got, err := KeyOf(api.Packet{Kind: kind, Src: src, Dst: dst, Body: b})
	wantSegment(t, "KeyOf", got, err, s)
	return k
}

func TestKeyOfErrors(t *testing.T) {
	good := func() api.Packet {
		return api.Packet{Kind: api.Single, Src: sampleSrc, Dst: sampleDst, Body: sampleBytes(api.Single)}
	}
	for _, c := range []struct {
		what   string
		change func(*api.Packet)
		want   api.Errno
	}{
		{"a piece that others follow", func(p *api.Packet) { p.More = true }, api.ErrShape},
		{"a piece that stands behind", func(p *api.Packet) { p.At = 1 }, api.ErrShape},
		{"the furthest piece", func(p *api.Packet) { p.At, p.More = 32767, true }, api.ErrShape},
		{"a piece of no kind", func(p *api.Packet) { p.Kind, p.More = 0, true }, api.ErrShape},
		{"a piece that is too short", func(p *api.Packet) { p.Body, p.At = nil, 1 }, api.ErrShape},
		{"a piece with a wrong Ttl", func(p *api.Packet) { p.Ttl, p.More = 256, true }, api.ErrRange},
		{"a piece that is too long", func(p *api.Packet) { p.Body, p.More = make([]byte, 4001), true }, api.ErrFull},
		{"a wrong Ttl", func(p *api.Packet) { p.Ttl = -1 }, api.ErrRange},
		{"a wrong Id", func(p *api.Packet) { p.Id = 65536 }, api.ErrRange},
		{"a wrong At", func(p *api.Packet) { p.At = -1 }, api.ErrRange},
		{"an At too far", func(p *api.Packet) { p.At = 32768 }, api.ErrRange},
		{"a wrong Src", func(p *api.Packet) { p.Src = -1 }, api.ErrRange},
		{"a wrong Dst", func(p *api.Packet) { p.Dst = 1 << 32 }, api.ErrRange},
		{"no kind", func(p *api.Packet) { p.Kind = 0 }, api.ErrRange},
		{"kind 4", func(p *api.Packet) { p.Kind = 4 }, api.ErrRange},
		{"kind 15", func(p *api.Packet) { p.Kind = 15 }, api.ErrRange},
		{"kind 16", func(p *api.Packet) { p.Kind = 16 }, api.ErrRange},
		{"no bytes", func(p *api.Packet) { p.Body = nil }, api.ErrShort},
		{"too few bytes", func(p *api.Packet) { p.Body = p.Body[:5] }, api.ErrShort},
		{"too many bytes", func(p *api.Packet) { p.Body = make([]byte, 4001) }, api.ErrFull},
		{"another sum", func(p *api.Packet) { p.Body[5]++ }, api.ErrSum},
		{"another end", func(p *api.Packet) { p.Dst++ }, api.ErrSum},
	} {
		p := good()
		c.change(&p)
		wantNoKey(t, c.what, p, c.want)
	}
	b := sampleBytes(api.Echo)
	b[5] = 1
	p := api.Packet{Kind: api.Echo, Src: 1, Dst: 2, Body: sealed(kinds()[2], b, 1, 2)}
	wantNoKey(t, "an Echo with another byte than 0", p, api.ErrShape)
	b[0] = 2
	p.Body = sealed(kinds()[2], b, 1, 2)
	wantNoKey(t, "an Echo that is neither", p, api.ErrRange)
}

func TestTurnAndFirst(t *testing.T) {
	for _, c := range []struct{ k, turn, first api.Key }{
		{api.Key{Kind: 1, Src: 2, From: 3, Dst: 4, To: 5}, api.Key{Kind: 1, Src: 4, From: 5, Dst: 2, To: 3}, api.Key{Kind: 1, Src: 2, From: 3, Dst: 4, To: 5}},
		{api.Key{Kind: 2, Src: 4, From: 3, Dst: 2, To: 5}, api.Key{Kind: 2, Src: 2, From: 5, Dst: 4, To: 3}, api.Key{Kind: 2, Src: 2, From: 5, Dst: 4, To: 3}},
		// Of one address the ports decide.
		{api.Key{Kind: 1, Src: 7, From: 9, Dst: 7, To: 8}, api.Key{Kind: 1, Src: 7, From: 8, Dst: 7, To: 9}, api.Key{Kind: 1, Src: 7, From: 8, Dst: 7, To: 9}},
		{api.Key{Kind: 1, Src: 7, From: 8, Dst: 7, To: 9}, api.Key{Kind: 1, Src: 7, From: 9, Dst: 7, To: 8}, api.Key{Kind: 1, Src: 7, From: 8, Dst: 7, To: 9}},
		{api.Key{Kind: 3, Src: 7, From: 9, Dst: 7, To: 9}, api.Key{Kind: 3, Src: 7, From: 9, Dst: 7, To: 9}, api.Key{Kind: 3, Src: 7, From: 9, Dst: 7, To: 9}},
		// Addresses go ahead of ports.
		{api.Key{Kind: 1, Src: 1, From: 9, Dst: 2, To: 0}, api.Key{Kind: 1, Src: 2, From: 0, Dst: 1, To: 9}, api.Key{Kind: 1, Src: 1, From: 9, Dst: 2, To: 0}},
		// Any numbers are turned, whether there is such a key or not.
		{api.Key{Kind: -1, Src: math.MaxInt, From: 0, Dst: math.MinInt, To: -5}, api.Key{Kind: -1, Src: math.MinInt, From: -5, Dst: math.MaxInt, To: 0}, api.Key{Kind: -1, Src: math.MinInt, From: -5, Dst: math.MaxInt, To: 0}},
		{api.Key{}, api.Key{}, api.Key{}},
	} {
		if got := Turn(c.k); got != c.turn {
			t.Errorf("Turn of %v: got %v, want %v", c.k, got, c.turn)
		}
		if got := First(c.k); got != c.first {
			t.Errorf("First of %v: got %v, want %v", c.k, got, c.first)
		}
		if got := First(c.turn); got != c.first {
			t.Errorf("First of %v: got %v, want %v", c.turn, got, c.first)
		}
	}
}

func TestFirstIsTheLess(t *testing.T) {
	r := rand.New(rand.NewSource(2))
	for range 3000 {
		k := api.Key{Kind: r.Intn(4), Src: r.Intn(3), From: r.Intn(3), Dst: r.Intn(3), To: r.Intn(3)}
		turn := api.Key{Kind: k.Kind, Src: k.Dst, From: k.To, Dst: k.Src, To: k.From}
		want := k
		if slices.Compare([]int{turn.Kind, turn.Src, turn.From, turn.Dst, turn.To}, []int{k.Kind, k.Src, k.From, k.Dst, k.To}) < 0 {
			want = turn
		}
		if got := First(k); got != want {
			t.Errorf("First of %v: got %v, want %v", k, got, want)
		}
	}
}

func TestNear(t *testing.T) {
	for _, c := range []struct {
		a, b, most int
		want       bool
	}{
		{10, 10, 0, true},
		{9, 10, 0, false},
		{11, 10, 0, false},
		{5, 10, 5, true},
		{4, 10, 5, false},
		{15, 10, 5, true},
		{16, 10, 5, false},
		// Round the end, either way.
		{api.MaxAddr, 0, 1, true},
		{api.MaxAddr, 0, 0, false},
		{api.MaxAddr - 1, 0, 1, false},
		{0, api.MaxAddr, 1, true},
		{1, api.MaxAddr, 1, false},
		{2, api.MaxAddr - 2, 5, true},
		{3, api.MaxAddr - 2, 5, false},
		{api.MaxAddr - 2, 2, 5, true},
		{api.MaxAddr - 3, 2, 5, false},
		// The greatest most, and what is beyond it.
		{1 << 30, 0, 1 << 30, true},
		{1<<30 + 1, 0, 1 << 30, false},
		{3 << 30, 0, 1 << 30, true},
		{3<<30 - 1, 0, 1 << 30, false},
		{1 << 31, 0, 1 << 30, false},
		{0, 0, 1<<30 + 1, false},
		{0, 0, 1 << 31, false},
		{0, 0, 1 << 32, false},
		{0, 0, math.MaxInt, false},
		{0, 0, -1, false},
		{0, 0, -1 << 32, false},
		{0, 0, math.MinInt, false},
		// Numbers beyond 2^32, and below 0.
		{1 << 32, 0, 0, true},
		{1<<32 + 5, 5, 0, true},
		{5, 1<<32 + 5, 0, true},
		{-1, api.MaxAddr, 0, true},
		{-1, 0, 1, true},
		{-2, 0, 1, false},
		{math.MinInt, 0, 0, true},
		{math.MaxInt, math.MinInt, 1, true},
		{math.MaxInt, math.MinInt, 0, false},
		{math.MinInt, math.MaxInt, 1, true},
		{math.MinInt, math.MaxInt, 0, false},
	} {
		if got := Near(c.a, c.b, c.most); got != c.want {
			t.Errorf("Near of %d, %d, %d: got %v", c.a, c.b, c.most, got)
		}
	}
}

// One goes from b less most on, step by step, up to b and most.
func TestNearIsEachStep(t *testing.T) {
	const round = 1 << 32
	for _, b := range []int{0, 1, 3, 100, 1 << 31, round - 4, round - 1} {
		for most := range 6 {
			near := map[int]int{}
			for i := b - most; i <= b+most; i++ {
				near[(i+round)%round]++
			}
			for i := b - 10; i <= b+10; i++ {
				a := (i + round) % round
				if got := Near(a, b, most); got != (near[a] > 0) {
					t.Errorf("Near of %d, %d, %d: got %v", a, b, most, got)
				}
			}
		}
	}
}

// Whatever bytes come, a call ends, and what is read is what Encode writes.
func TestAnyBytes(t *testing.T) {
	r := rand.New(rand.NewSource(3))
	read := 0
	for range 20000 {
		k := kinds()[r.Intn(3)]
		b := make([]byte, r.Intn(40))
		r.Read(b)
		src, dst := randomAddr(r), randomAddr(r)
		if len(b) >= k.head && r.Intn(5) > 0 {
			switch k.number {
			case api.Stream:
				b[12] %= 20
			case api.Echo:
				b[0] %= 3
				b[5] %= 2
			}
			b = sealed(k, b, src, dst)
		}
		s, err := Read(k.number, b, src, dst)
		if err != nil {
			wantNoSegment(t, "Read of some bytes", s, err, plain.Told(err))
			continue
		}
		read++
		again, err := Encode(k.number, s, src, dst)
		wantBytes(t, "Encode of what was read", again, err, b)
	}
	if read < 1000 {
		t.Errorf("of some bytes only %d were read", read)
	}
}
