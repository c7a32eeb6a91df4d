package sum

import (
	"bytes"
	"math"
	"math/rand"
	"testing"

	"portcullis/api"
	"portcullis/plain"
)

// outside are numbers that are no sums.
var outside = []int{-1, -65535, 65536, 65537, 1 << 32, math.MinInt, math.MaxInt}

// within are sums at the edges, and some between.
var within = []int{0, 1, 2, 255, 256, 32767, 32768, 65279, 65280, 65533, 65534, 65535}

func wantNumber(t *testing.T, what string, got int, err error, want int) {
	t.Helper()
	if err != nil || got != want {
		t.Errorf("%s: got %d, %v, want %d", what, got, err, want)
	}
}

func wantRange(t *testing.T, what string, got int, err error) {
	t.Helper()
	if got != 0 || plain.Told(err) != api.ErrRange {
		t.Errorf("%s: got %d, %v, want 0, ErrRange", what, got, err)
	}
}

// reference works a sum out by remainders instead of by carries.
func reference(b []byte) int {
	rest, empty := 0, true
	for i, c := range b {
		weight := 256
		if i%2 == 1 {
			weight = 1
		}
		rest = (rest + int(c)*weight) % 65535
		empty = empty && c == 0
	}
	if rest == 0 && !empty {
		rest = 65535 // 0 and 65535 leave the same remainder, but only zeros add up to 0
	}
	return 65535 - rest
}

// samples are bytes of many lengths, with many at the edges 0 and 255.
func samples(r *rand.Rand) [][]byte {
	var all [][]byte
	for n := range 300 {
		b := make([]byte, n)
		for i := range b {
			switch r.Intn(4) {
			case 0:
				b[i] = 0
			case 1:
				b[i] = 255
			default:
				b[i] = byte(r.Intn(256))
			}
		}
		all = append(all, b)
	}
	return all
}

// S1

func TestAdd(t *testing.T) {
	for _, c := range [][3]int{
		{0, 0, 0},
		{1, 2, 3},
		{0, 65535, 65535},
		{65535, 0, 65535},
		{65534, 1, 65535},
		{65535, 1, 1},
		{65534, 2, 1},
		{65535, 65535, 65535},
		{65535, 65534, 65534},
		{32768, 32768, 1},
		{51038, 29130, 14633},
	} {
		got, err := Add(c[0], c[1])
		wantNumber(t, "Add", got, err, c[2])
	}
}

func TestAddStaysASum(t *testing.T) {
	for _, a := range within {
		for _, b := range within {
			want := a + b
			if want > 65535 {
				want = want - 65536 + 1
			}
			got, err := Add(a, b)
			wantNumber(t, "Add", got, err, want)
		}
	}
}

func TestAddRange(t *testing.T) {
	for _, bad := range outside {
		for _, good := range within {
			got, err := Add(bad, good)
			wantRange(t, "Add, first", got, err)
			got, err = Add(good, bad)
			wantRange(t, "Add, second", got, err)
		}
		got, err := Add(bad, bad)
		wantRange(t, "Add, both", got, err)
		got, err = Add(bad, -bad)
		wantRange(t, "Add, both, that cancel out", got, err)
	}
}

func TestSum(t *testing.T) {
	for _, c := range []struct {
		b    []byte
		want int
	}{
		{nil, 65535},
		{[]byte{}, 65535},
		{[]byte{0}, 65535},
		{[]byte{0, 0, 0, 0}, 65535},
		{[]byte{1}, 65535 - 256},
		{[]byte{0, 1}, 65534},
		{[]byte{1, 2}, 65535 - 258},
		{[]byte{255}, 255},
		{[]byte{255, 255}, 0},
		{[]byte{255, 255, 255, 255}, 0},
		{[]byte{255, 255, 0, 1}, 65534},
		{[]byte{255, 255, 1}, 65535 - 256},
		{[]byte{0xff, 0x9c, 0, 0, 0xff, 0x7e, 0xff}, 483},
	} {
		if got := Sum(c.b); got != c.want {
			t.Errorf("Sum of %v: got %d, want %d", c.b, got, c.want)
		}
	}
}

func TestSumByRemainders(t *testing.T) {
	for _, b := range samples(rand.New(rand.NewSource(1))) {
		if got, want := Sum(b), reference(b); got != want {
			t.Errorf("Sum of %v: got %d, want %d", b, got, want)
		}
	}
}

func TestSumOfMany(t *testing.T) {
	b := bytes.Repeat([]byte{255, 254, 255}, 1<<20)
	if got, want := Sum(b), reference(b); got != want {
		t.Errorf("Sum of %d bytes: got %d, want %d", len(b), got, want)
	}
}

func TestValid(t *testing.T) {
	for _, c := range []struct {
		b    []byte
		want bool
	}{
		{nil, false},
		{[]byte{0, 0}, false},
		{[]byte{255}, false},
		{[]byte{255, 255}, true},
		{[]byte{255, 255, 0}, true},
		{[]byte{255, 255, 255, 255}, true},
		{[]byte{255, 254}, false},
		{[]byte{255, 254, 0, 1}, true},
		{[]byte{254, 255, 1}, true},
		{[]byte{255, 254, 1}, false},
		{[]byte{0, 1, 255, 255}, false},
	} {
		if got := Valid(c.b); got != c.want {
			t.Errorf("Valid of %v: got %v, want %v", c.b, got, c.want)
		}
	}
}

func TestValidWithItsSum(t *testing.T) {
	r := rand.New(rand.NewSource(2))
	for _, b := range samples(r) {
		if len(b) < 2 {
			continue
		}
		at := r.Intn(len(b)/2) * 2
		b[at], b[at+1] = 0, 0
		s := Sum(b)
		b[at], b[at+1] = byte(s>>8), byte(s)
		if !Valid(b) {
			t.Errorf("%v, with its Sum at %d, is not Valid", b, at)
		}
		spoilt := r.Intn(len(b))
		b[spoilt] ^= 1 << r.Intn(8)
		if Valid(b) {
			t.Errorf("%v, spoilt at %d, is Valid", b, spoilt)
		}
	}
}

// What lies behind a list's length is not read, and nothing is written.
func TestBytesAreLeftAlone(t *testing.T) {
	memory := []byte{1, 2, 3, 77, 88}
	before := bytes.Clone(memory)
	if got, want := Sum(memory[:3]), 65535-258-768; got != want {
		t.Errorf("Sum: got %d, want %d", got, want)
	}
	Valid(memory[:3])
	if !bytes.Equal(memory, before) {
		t.Errorf("got %v, want %v", memory, before)
	}
	if odd := []byte{254, 255, 1, 9}; !Valid(odd[:3]) {
		t.Error("Valid: what is behind the length was read")
	}
}

// S2

func TestUpdate(t *testing.T) {
	for _, c := range [][4]int{
		{32716, 14731, 37585, 9862},
		{65535, 0, 0, 0},
		{65535, 0, 1, 65534},
		{65535, 0, 65535, 0},
		{65534, 1, 0, 0},
		{0, 65535, 0, 0},
		{0, 0, 0, 0},
		{0, 65535, 65535, 0},
		{65534, 1, 2, 65533},
		{65535, 65535, 0, 65535},
	} {
		got, err := Update(c[0], c[1], c[2])
		wantNumber(t, "Update", got, err, c[3])
	}
}

func TestUpdateIsTheSum(t *testing.T) {
	r := rand.New(rand.NewSource(3))
	for _, b := range samples(r) {
		if len(b) < 2 {
			continue
		}
		at := r.Intn(len(b)/2) * 2
		for _, now := range within {
			before, old := Sum(b), int(b[at])<<8|int(b[at+1])
			b[at], b[at+1] = byte(now>>8), byte(now)
			want := Sum(b)
			if want == 65535 {
				want = 0 // all bytes are 0
			}
			got, err := Update(before, old, now)
			wantNumber(t, "Update", got, err, want)
		}
	}
}

func TestUpdateOfZeros(t *testing.T) {
	b := []byte{0, 0, 18, 52}
	before := Sum(b)
	b[2], b[3] = 0, 0
	got, err := Update(before, 18<<8|52, 0)
	wantNumber(t, "Update", got, err, 0)
	if got := Sum(b); got != 65535 {
		t.Errorf("Sum: got %d, want 65535", got)
	}
}

func TestUpdateRange(t *testing.T) {
	for _, bad := range outside {
		for _, good := range within {
			got, err := Update(bad, good, good)
			wantRange(t, "Update, sum", got, err)
			got, err = Update(good, bad, good)
			wantRange(t, "Update, old", got, err)
			got, err = Update(good, good, bad)
			wantRange(t, "Update, now", got, err)
		}
		got, err := Update(bad, bad, bad)
		wantRange(t, "Update, all", got, err)
	}
}

func TestPad(t *testing.T) {
	for _, c := range [][3]int{
		{0, 1, 0},
		{0, 64, 0},
		{1, 1, 1},
		{1, 64, 64},
		{63, 64, 64},
		{64, 64, 64},
		{65, 64, 128},
		{47, 8, 48},
		{48, 8, 48},
		{49, 8, 56},
		{13, 6, 18},
		{999_999, 64, 1_000_000},
		{1_000_000, 1, 1_000_000},
		{1_000_000, 64, 1_000_000},
		{1_000_000, 63, 1_000_062},
	} {
		got, err := Pad(c[0], c[1])
		wantNumber(t, "Pad", got, err, c[2])
	}
}

func TestPadIsTheLeast(t *testing.T) {
	for size := 1; size <= 64; size++ {
		want := 0
		for n := range 300 {
			if want < n {
				want += size
			}
			got, err := Pad(n, size)
			wantNumber(t, "Pad", got, err, want)
		}
	}
}

func TestPadRange(t *testing.T) {
	for _, c := range [][2]int{
		{-1, 8},
		{1_000_001, 8},
		{math.MinInt, 8},
		{math.MaxInt, 8},
		{8, 0},
		{8, -1},
		{8, 65},
		{8, math.MinInt},
		{8, math.MaxInt},
		{0, 0},
		{-1, -1},
		{math.MaxInt, math.MaxInt},
		{math.MinInt, -1},
	} {
		got, err := Pad(c[0], c[1])
		wantRange(t, "Pad", got, err)
	}
}
