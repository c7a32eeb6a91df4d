package wire

import (
	"bytes"
	"fmt"
	"math"
	"math/rand"
	"reflect"
	"slices"
	"testing"

	"portcullis/api"
	"portcullis/plain"
)

// field is a number of a packet, and the greatest that it may be.
type field struct {
	name string
	most int
	of   func(*api.Packet) *int
}

func fields() []field {
	return []field{
		{"Kind", 15, func(p *api.Packet) *int { return &p.Kind }},
		{"Ttl", 255, func(p *api.Packet) *int { return &p.Ttl }},
		{"Id", 65535, func(p *api.Packet) *int { return &p.Id }},
		{"Src", 1<<32 - 1, func(p *api.Packet) *int { return &p.Src }},
		{"Dst", 1<<32 - 1, func(p *api.Packet) *int { return &p.Dst }},
		{"At", 32767, func(p *api.Packet) *int { return &p.At }},
	}
}

// sample is an ordinary packet, and sampleBytes are its bytes.
func sample() api.Packet {
	return api.Packet{Kind: 1, Ttl: 9, Id: 0x1234, Src: 10<<24 | 1, Dst: 192<<24 | 168<<16 | 7, At: 5, More: true, Body: []byte{1, 2, 255}}
}

func sampleBytes() []byte {
	// 5109 + 0015 + 1234 + 8005 + 0a00 + 0001 + c0a8 + 0007 are 1ae07, so ae08, of which 51f7 is the rest.
	return []byte{0x51, 9, 0, 21, 0x12, 0x34, 0x80, 5, 0x51, 0xf7, 10, 0, 0, 1, 192, 168, 0, 7, 1, 2, 255}
}

// total adds the first 18 bytes up two by two by remainders; of what is not all 0 that is 1 to 65535.
func total(b []byte) int {
	t := 0
	for i := 0; i < 18; i += 2 {
		t += int(b[i])*256 + int(b[i+1])
	}
	return (t+65534)%65535 + 1
}

// sealed is a copy of bytes with the sum that the others ask for.
func sealed(b []byte) []byte {
	b = bytes.Clone(b)
	b[8], b[9] = 0, 0
	s := 65535 - total(b)
	b[8], b[9] = byte(s>>8), byte(s)
	return b
}

// saying is the bytes of a head that says how many all are, and of so many behind it.
func saying(all, behind int) []byte {
	b := make([]byte, 18+behind)
	b[0], b[1], b[2], b[3] = 82, 7, byte(all>>8), byte(all)
	return sealed(b)
}

func randomPacket(r *rand.Rand) api.Packet {
	p := api.Packet{More: r.Intn(2) == 0, Body: make([]byte, r.Intn(60))}
	if r.Intn(20) == 0 {
		p.Body = make([]byte, api.MaxBody-r.Intn(3))
	}
	r.Read(p.Body)
	for _, f := range fields() {
		*f.of(&p) = []int{0, 1, f.most, f.most - 1, r.Intn(f.most + 1), r.Intn(f.most + 1)}[r.Intn(6)]
	}
	return p
}

func same(p, q api.Packet) bool {
	alike := bytes.Equal(p.Body, q.Body)
	p.Body, q.Body = nil, nil
	return alike && reflect.DeepEqual(p, q)
}

func wantBytes(t *testing.T, what string, got []byte, err error, want []byte) {
	t.Helper()
	if err != nil || !bytes.Equal(got, want) {
		t.Errorf("%s: got %v, %v, want %v", what, got, err, want)
	}
}

func wantNoBytes(t *testing.T, what string, got []byte, err error, want api.Errno) {
	t.Helper()
	if len(got) != 0 || plain.Told(err) != want {
		t.Errorf("%s: got %v, %v, want %v", what, got, err, want)
	}
}

func wantPacket(t *testing.T, what string, b []byte, want api.Packet, many int) {
	t.Helper()
	p, used, err := Read(b)
	if err != nil || used != many || !same(p, want) {
		t.Errorf("%s: got %v, %d, %v, want %v, %d", what, p, used, err, want, many)
	}
}

// wantRefused asks the same error of Read and of Step.
func wantRefused(t *testing.T, what string, b []byte, want api.Errno) {
	t.Helper()
	p, used, err := Read(b)
	if !same(p, api.Packet{}) || used != 0 || plain.Told(err) != want {
		t.Errorf("Read of %s: got %v, %d, %v, want %v", what, p, used, err, want)
	}
	next, err := Step(b)
	wantNoBytes(t, "Step of "+what, next, err, want)
}

// W1

func TestCheckEdges(t *testing.T) {
	if err := Check(api.Packet{}); err != nil {
		t.Errorf("Check of an empty one: got %v", err)
	}
	for _, f := range fields() {
		for _, n := range []int{0, 1, f.most - 1, f.most} {
			p := sample()
			*f.of(&p) = n
			if err := Check(p); err != nil {
				t.Errorf("Check with %s %d: got %v", f.name, n, err)
			}
		}
	}
	for _, n := range []int{0, 1, 3999, 4000} {
		p := sample()
		p.Body = make([]byte, n)
		if err := Check(p); err != nil {
			t.Errorf("Check with a Body of %d: got %v", n, err)
		}
	}
}

func TestCheckRange(t *testing.T) {
	for _, f := range fields() {
		for _, n := range []int{-1, -f.most, -f.most - 1, f.most + 1, f.most + 2, 1 << 32, 1 << 40, math.MinInt, math.MinInt + 1, math.MaxInt} {
			for _, many := range []int{3, 4001} { // ErrRange is told ahead of ErrFull
				p := sample()
				p.Body = make([]byte, many)
				*f.of(&p) = n
				what := fmt.Sprintf("with %s %d, a Body of %d", f.name, n, many)
				if err := Check(p); plain.Told(err) != api.ErrRange {
					t.Errorf("Check %s: got %v, want ErrRange", what, err)
				}
				b, err := Encode(p)
				wantNoBytes(t, "Encode "+what, b, err, api.ErrRange)
			}
		}
	}
}

func TestCheckFull(t *testing.T) {
	for _, n := range []int{4001, 4018, 4019, 65517, 65518, 65536, 1 << 20} {
		p := sample()
		p.Body = make([]byte, n)
		if err := Check(p); plain.Told(err) != api.ErrFull {
			t.Errorf("Check with a Body of %d: got %v, want ErrFull", n, err)
		}
		b, err := Encode(p)
		wantNoBytes(t, "Encode of too much", b, err, api.ErrFull)
	}
}

func TestEncode(t *testing.T) {
	greatest := api.Packet{Kind: 15, Ttl: 255, Id: 65535, Src: api.MaxAddr, Dst: api.MaxAddr, At: 32767, More: true}
	for _, c := range []struct {
		p    api.Packet
		want []byte
	}{
		{sample(), sampleBytes()},
		{api.Packet{}, []byte{80, 0, 0, 18, 0, 0, 0, 0, 0xaf, 0xed, 0, 0, 0, 0, 0, 0, 0, 0}},
		{greatest, []byte{95, 255, 0, 18, 255, 255, 255, 255, 0x9f, 0xee, 255, 255, 255, 255, 255, 255, 255, 255}},
		{api.Packet{At: 32767}, []byte{80, 0, 0, 18, 0, 0, 127, 255, 0x2f, 0xee, 0, 0, 0, 0, 0, 0, 0, 0}},
		{api.Packet{More: true}, []byte{80, 0, 0, 18, 0, 0, 128, 0, 0x2f, 0xed, 0, 0, 0, 0, 0, 0, 0, 0}},
		{api.Packet{Src: 0x01020304, Dst: 0x05060708}, []byte{80, 0, 0, 18, 0, 0, 0, 0, 0x9f, 0xd9, 1, 2, 3, 4, 5, 6, 7, 8}},
		// What adds up to 65535 has a sum of 0.
		{api.Packet{Id: 0xafed}, []byte{80, 0, 0, 18, 0xaf, 0xed, 0, 0, 0, 0, 0, 0, 0, 0, 0, 0, 0, 0}},
	} {
		got, err := Encode(c.p)
		wantBytes(t, fmt.Sprint("Encode of ", c.p), got, err, c.want)
	}
}

func TestEncodeLongest(t *testing.T) {
	p := sample()
	p.Body = bytes.Repeat([]byte{7, 0, 255, 80}, 1000)
	b, err := Encode(p)
	if err != nil || len(b) != 4018 || b[2] != 0x0f || b[3] != 0xb2 || !bytes.Equal(b[18:], p.Body) || total(b) != 65535 {
		t.Errorf("got %d bytes, %v", len(b), err)
	}
}

// The Body is not summed: only how many its bytes are is told in the head.
func TestEncodeSumsTheHeadAlone(t *testing.T) {
	p, q := sample(), sample()
	q.Body = []byte{9, 9, 9}
	a, _ := Encode(p)
	b, _ := Encode(q)
	if len(a) != 21 || len(b) != 21 || !bytes.Equal(a[:18], b[:18]) {
		t.Errorf("got %v and %v", a, b)
	}
}

func TestEncodeLeavesTheBodyAlone(t *testing.T) {
	p := sample()
	memory := []byte{1, 2, 255, 77, 78, 79}
	before := bytes.Clone(memory)
	p.Body = memory[:3]
	got, err := Encode(p)
	wantBytes(t, "Encode", got, err, sampleBytes())
	for i := range got {
		got[i] = 99
	}
	if !bytes.Equal(memory, before) {
		t.Errorf("Encode wrote into %v", memory)
	}
	got, err = Encode(p)
	wantBytes(t, "Encode once more", got, err, sampleBytes())
}

// W2

func TestRead(t *testing.T) {
	wantPacket(t, "Read", sampleBytes(), sample(), 21)
	wantPacket(t, "Read of a packet with bytes behind", append(sampleBytes(), 80, 1, 2), sample(), 21)
	wantPacket(t, "Read of two packets", append(sampleBytes(), sampleBytes()...), sample(), 21)
	wantPacket(t, "Read of a head alone", saying(18, 0), api.Packet{Kind: 2, Ttl: 7}, 18)
	wantPacket(t, "Read of a head with a byte behind", saying(18, 1), api.Packet{Kind: 2, Ttl: 7}, 18)
	wantPacket(t, "Read of the longest", saying(4018, 4000), api.Packet{Kind: 2, Ttl: 7, Body: make([]byte, 4000)}, 4018)
}

func TestReadIsOfEncode(t *testing.T) {
	r := rand.New(rand.NewSource(1))
	for range 3000 {
		p := randomPacket(r)
		b, err := Encode(p)
		if err != nil || len(b) != 18+len(p.Body) || total(b) != 65535 {
			t.Fatalf("Encode of %v: got %v, %v", p, b, err)
		}
		wantPacket(t, "Read", b, p, len(b))
		behind := make([]byte, r.Intn(30))
		r.Read(behind)
		wantPacket(t, "Read with bytes behind", slices.Concat(b, behind), p, len(b))
	}
}

func TestReadShort(t *testing.T) {
	wantRefused(t, "nil", nil, api.ErrShort)
	all := sampleBytes()
	for n := range all {
		wantRefused(t, fmt.Sprint("the first ", n), all[:n:n], api.ErrShort)
		// What lies behind the length is not there, though it is in memory.
		wantRefused(t, fmt.Sprint("the first, of more, ", n), all[:n], api.ErrShort)
	}
	wantRefused(t, "17 that are no packet", make([]byte, 17), api.ErrShort)
	wantRefused(t, "one too few", saying(4018, 3999), api.ErrShort)
	wantRefused(t, "a head alone that says 19", saying(19, 0), api.ErrShort)
}

func TestReadSyntax(t *testing.T) {
	for c := range 256 {
		b := sampleBytes()
		b[0] = byte(c)
		if c >= 80 && c <= 95 {
			want := sample()
			want.Kind = c - 80
			wantPacket(t, fmt.Sprint("Read from ", c), sealed(b), want, 21)
			continue
		}
		wantRefused(t, fmt.Sprint("a first byte ", c), sealed(b), api.ErrSyntax)
		wantRefused(t, fmt.Sprint("a first byte and a wrong sum ", c), b, api.ErrSyntax)
	}
	wantRefused(t, "18 bytes of 0", make([]byte, 18), api.ErrSyntax)
	wantRefused(t, "18 bytes of 255", bytes.Repeat([]byte{255}, 18), api.ErrSyntax)
}

// Each bit of the head but the first four is seen by the sum alone.
func TestReadSum(t *testing.T) {
	for bit := 4; bit < 18*8; bit++ {
		b := sampleBytes()
		b[bit/8] ^= 1 << (7 - bit%8)
		wantRefused(t, fmt.Sprint("bit ", bit), b, api.ErrSum)
	}
}

// The sum is of the head alone: bytes of a Body are read as they are.
func TestReadAnyBody(t *testing.T) {
	for i := 18; i < 21; i++ {
		b, want := sampleBytes(), sample()
		b[i] ^= 0x55
		want.Body[i-18] ^= 0x55
		wantPacket(t, "Read of another Body", b, want, 21)
	}
}

func TestReadLengths(t *testing.T) {
	for all := range 65536 {
		b := saying(all, 5)
		switch {
		case all < 18:
			wantRefused(t, fmt.Sprint("one that says ", all), b, api.ErrShape)
		case all > 4018:
			wantRefused(t, fmt.Sprint("one that says ", all), b, api.ErrFull)
		case all > 23:
			wantRefused(t, fmt.Sprint("one that says ", all), b, api.ErrShort)
		default:
			wantPacket(t, fmt.Sprint("Read of one that says ", all), b, api.Packet{Kind: 2, Ttl: 7, Body: make([]byte, all-18)}, all)
		}
	}
	wantRefused(t, "one too many, all there", saying(4019, 4001), api.ErrFull)
}

// A wrong sum is told ahead of what the head says, and of what is missing.
func TestReadSumAheadOfLengths(t *testing.T) {
	for _, all := range []int{0, 17, 18, 19, 4018, 4019, 65535} {
		b := saying(all, 0)
		b[9] ^= 1
		wantRefused(t, fmt.Sprint("a wrong sum, saying ", all), b, api.ErrSum)
	}
}

// Of 0 and 65535, which add up alike, both are Valid where 0 is the sum.
func TestReadBothZeros(t *testing.T) {
	b, err := Encode(api.Packet{Id: 0xafed})
	if err != nil || b[8] != 0 || b[9] != 0 {
		t.Fatalf("got %v, %v", b, err)
	}
	wantPacket(t, "Read with 0", b, api.Packet{Id: 0xafed}, 18)
	b[8], b[9] = 255, 255
	wantPacket(t, "Read with 65535", b, api.Packet{Id: 0xafed}, 18)
}

func TestReadLeavesItsBytesAlone(t *testing.T) {
	memory := append(sampleBytes(), 80, 81, 82)
	before := bytes.Clone(memory)
	p, _, err := Read(memory[:21])
	if err != nil {
		t.Fatal(err)
	}
	for i := range p.Body {
		p.Body[i] = 99
	}
	p.Body = append(p.Body, 99)
	if !bytes.Equal(memory, before) {
		t.Errorf("Read: its Body is a piece of %v", memory)
	}
	p, _, _ = Read(memory)
	memory[18] = 99
	if p.Body[0] != 1 {
		t.Error("Read: its Body changes with what was read")
	}
}

func TestStep(t *testing.T) {
	want := sampleBytes()
	want[1], want[9] = 8, 0xf8
	got, err := Step(sampleBytes())
	wantBytes(t, "Step", got, err, want)
}

// A Step is the Encode of the packet with a Ttl of one less.
func TestStepIsOfEncode(t *testing.T) {
	r := rand.New(rand.NewSource(2))
	for range 3000 {
		p := randomPacket(r)
		b, err := Encode(p)
		if err != nil {
			t.Fatal(err)
		}
		got, err := Step(b)
		if p.Ttl == 0 {
			wantNoBytes(t, "Step of Ttl 0", got, err, api.ErrState)
			continue
		}
		p.Ttl--
		want, _ := Encode(p)
		wantBytes(t, "Step", got, err, want)
	}
}

func TestStepsDownToNone(t *testing.T) {
	p := sample()
	p.Ttl = 255
	b, err := Encode(p)
	for ttl := 254; ttl >= 0 && err == nil; ttl-- {
		b, err = Step(b)
		p.Ttl = ttl
		wantPacket(t, "Step", b, p, 21)
	}
	if err != nil {
		t.Fatal(err)
	}
	b, err = Step(b)
	wantNoBytes(t, "Step of Ttl 0", b, err, api.ErrState)
}

// The sum goes round: from 0 (or 65535, which adds up alike) to 1, and from 65534 to 0.
func TestStepOverTheEnd(t *testing.T) {
	for _, zero := range []byte{0, 255} {
		b := sealed([]byte{80, 1, 0, 18, 0xaf, 0xec, 0, 0, 0, 0, 0, 0, 0, 0, 0, 0, 0, 0})
		if b[8] != 0 || b[9] != 0 {
			t.Fatalf("got %v", b)
		}
		b[8], b[9] = zero, zero
		got, err := Step(b)
		wantBytes(t, "Step from 0", got, err, []byte{80, 0, 0, 18, 0xaf, 0xec, 0, 0, 0, 1, 0, 0, 0, 0, 0, 0, 0, 0})
	}
	b := []byte{80, 1, 0, 18, 0xaf, 0xed, 0, 0, 0xff, 0xfe, 0, 0, 0, 0, 0, 0, 0, 0}
	got, err := Step(b)
	wantBytes(t, "Step from 65534", got, err, []byte{80, 0, 0, 18, 0xaf, 0xed, 0, 0, 0, 0, 0, 0, 0, 0, 0, 0, 0, 0})
}

func TestStepErrors(t *testing.T) {
	old := sampleBytes()
	old[1] = 0
	old = sealed(old)
	for _, c := range []struct {
		what string
		b    []byte
		want api.Errno
	}{
		{"one with a byte behind", append(sampleBytes(), 0), api.ErrShape},
		{"two", append(sampleBytes(), sampleBytes()...), api.ErrShape},
		{"one of Ttl 0", old, api.ErrState},
		{"one of Ttl 0 with a byte behind", append(bytes.Clone(old), 0), api.ErrShape},
		{"one of Ttl 0 that is not all there", old[:20], api.ErrShort},
	} {
		got, err := Step(c.b)
		wantNoBytes(t, "Step of "+c.what, got, err, c.want)
	}
	wantPacket(t, "Read of Ttl 0", old, api.Packet{Kind: 1, Id: 0x1234, Src: 10<<24 | 1, Dst: 192<<24 | 168<<16 | 7, At: 5, More: true, Body: []byte{1, 2, 255}}, 21)
}

func TestStepLeavesItsBytesAlone(t *testing.T) {
	memory := append(sampleBytes(), 80, 81, 82)
	before := bytes.Clone(memory)
	got, err := Step(memory[:21])
	if err != nil || !bytes.Equal(memory, before) {
		t.Fatalf("Step wrote into %v, %v", memory, err)
	}
	for i := range got {
		got[i] = 99
	}
	got = append(got, 99)
	if !bytes.Equal(memory, before) || len(got) != 22 {
		t.Errorf("Step: what it answers is a piece of %v", memory)
	}
}

// Whatever bytes come, a call ends, and what is read is what Encode writes, but for a sum of 65535.
func TestAnyBytes(t *testing.T) {
	r := rand.New(rand.NewSource(3))
	for range 20000 {
		b := make([]byte, r.Intn(60))
		r.Read(b)
		if len(b) >= 18 && r.Intn(4) > 0 {
			b[0], b[2] = 80+b[0]%16, 0
			b[3] %= 64
			b = sealed(b)
		}
		p, used, err := Read(b)
		next, bad := Step(b)
		if err != nil {
			wantRefused(t, "some bytes", b, plain.Told(err))
			continue
		}
		again, err := Encode(p)
		wantBytes(t, "Encode of what was read", again, err, b[:used])
		if bad == nil && (used != len(b) || len(next) != len(b) || next[1] != b[1]-1) {
			t.Errorf("Step of %v: got %v", b, next)
		}
	}
}
