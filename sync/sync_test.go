package sync

import (
	"bytes"
	"math"
	"slices"
	"testing"

	"portcullis/api"
	"portcullis/plain"
	"portcullis/track"
)

// notePut is of a Stream; no two of its numbers are alike, but for What and Kind.
func notePut() api.Note {
	return api.Note{What: api.Put, Seq: 9, Flow: api.Flow{
		Key:   api.Key{Kind: api.Stream, Src: 11, From: 12, Dst: 13, To: 14},
		State: api.Half, Until: 15, Stamp: 16,
		High: [2]int{17, 18}, Win: [2]int{19, 20}, Done: [2]bool{false, true}, Number: 21,
	}}
}

func noteGone() api.Note {
	return api.Note{What: api.Gone, Seq: 9, Flow: api.Flow{Key: api.Key{Kind: api.Single, Src: 11, From: 12, Dst: 13, To: 14}}}
}

// noteOfKind is a Put of a flow of a kind, as it began.
func noteOfKind(kind int) api.Note {
	k := api.Key{Kind: kind, Src: 11, From: 7, Dst: 13, To: 7}
	return api.Note{What: api.Put, Seq: 9, Flow: api.Flow{Key: k, State: api.Asked, Until: 30, Stamp: 1}}
}

// notes are right ones of all sorts, with the least and the greatest numbers among them.
func notes() []api.Note {
	l := []api.Note{notePut(), noteGone()}
	for _, seq := range []int{0, 1, api.MaxTime - 1, api.MaxTime} {
		l = append(l, api.Note{What: api.Got, Seq: seq}, api.Note{What: api.Want, Seq: seq}, api.Note{What: api.All, Seq: seq})
		put, gone := notePut(), noteGone()
		put.Seq, gone.Seq = seq, seq
		l = append(l, put, gone)
	}
	for kind := api.Stream; kind <= api.Echo; kind++ {
		asked := noteOfKind(kind)
		both := asked
		both.Flow.State = api.Both
		l = append(l, asked, both, api.Note{What: api.Gone, Seq: 9, Flow: api.Flow{Key: asked.Flow.Key}})
		least := api.Note{What: api.Put, Flow: api.Flow{Key: api.Key{Kind: kind}, State: api.Asked, Stamp: 1, Number: -1}}
		greatest := api.Note{What: api.Put, Seq: api.MaxTime, Flow: api.Flow{
			Key:   api.Key{Kind: kind, Src: api.MaxAddr, From: api.MaxPort, Dst: api.MaxAddr, To: api.MaxPort},
			State: api.Both, Until: 2 * api.MaxTime, Stamp: api.MaxTime, Number: api.MaxList,
		}}
		if kind == api.Stream {
			greatest.Flow.State = api.Ended
			greatest.Flow.High, greatest.Flow.Win = [2]int{api.MaxAddr, api.MaxAddr}, [2]int{api.MaxPort, api.MaxPort}
			greatest.Flow.Done = [2]bool{true, true}
		}
		for _, n := range []api.Note{least, greatest} {
			l = append(l, n, api.Note{What: api.Gone, Seq: n.Seq, Flow: api.Flow{Key: n.Flow.Key}})
		}
	}
	return l
}

// outside are numbers that are not from low to high.
func outside(low, high int) []int {
	return []int{low - 1, high + 1, math.MinInt, math.MaxInt, low - 1<<32, high + 1<<32}
}

func wantEncode(t *testing.T, n api.Note, want []byte) {
	t.Helper()
	got, err := Encode(n)
	if !bytes.Equal(got, want) || err != nil {
		t.Errorf("Encode(%v): got %v, %v, want %v", n, got, err, want)
	}
}

func wantEncodeRefused(t *testing.T, what string, n api.Note, want api.Errno) {
	t.Helper()
	got, err := Encode(n)
	if len(got) != 0 || plain.Told(err) != want {
		t.Errorf("%s: Encode(%v): got %v, %v, want %v", what, n, got, err, want)
	}
}

func wantRead(t *testing.T, b []byte, want api.Note, many int) {
	t.Helper()
	got, used, err := Read(b)
	if got != want || used != many || err != nil {
		t.Errorf("Read(%v): got %v, %d, %v, want %v, %d", b, got, used, err, want, many)
	}
}

func wantReadRefused(t *testing.T, what string, b []byte, want api.Errno) {
	t.Helper()
	got, used, err := Read(b)
	if got != (api.Note{}) || used != 0 || plain.Told(err) != want {
		t.Errorf("%s: Read(%v): got %v, %d, %v, want %v", what, b, got, used, err, want)
	}
}

// N1: Encode

// TestEncode: each What has its numbers, in their order.
func TestEncode(t *testing.T) {
	wantEncode(t, notePut(), []byte{2, 18, 2, 22, 24, 26, 28, 6, 30, 32, 34, 36, 38, 40, 4, 42})
	wantEncode(t, noteGone(), []byte{4, 18, 4, 22, 24, 26, 28})
	wantEncode(t, api.Note{What: api.Got, Seq: 9}, []byte{6, 18})
	wantEncode(t, api.Note{What: api.Want, Seq: 9}, []byte{8, 18})
	wantEncode(t, api.Note{What: api.All, Seq: 9}, []byte{10, 18})
}

// TestEncodeNumbers: seven bits a byte, the low ones first; below 0 odd.
func TestEncodeNumbers(t *testing.T) {
	for _, c := range []struct {
		number int
		want   []byte
	}{
		{0, []byte{0}},
		{1, []byte{2}},
		{63, []byte{126}},
		{64, []byte{128, 1}},
		{127, []byte{254, 1}},
		{128, []byte{128, 2}},
		{300, []byte{216, 4}},
		{8191, []byte{254, 127}},
		{8192, []byte{128, 128, 1}},
		{api.MaxTime, []byte{128, 137, 122}},
	} {
		wantEncode(t, api.Note{What: api.Got, Seq: c.number}, append([]byte{6}, c.want...))
	}
	for _, c := range []struct {
		number int
		want   []byte
	}{
		{1<<20 - 1, []byte{254, 255, 127}},
		{1 << 20, []byte{128, 128, 128, 1}},
		{1<<27 - 1, []byte{254, 255, 255, 127}},
		{1 << 27, []byte{128, 128, 128, 128, 1}},
		{api.MaxAddr, []byte{254, 255, 255, 255, 31}},
	} {
		n := noteGone()
		n.Flow.Key.Src = c.number
		wantEncode(t, n, slices.Concat([]byte{4, 18, 4}, c.want, []byte{24, 26, 28}))
	}
	n := noteOfKind(api.Single)
	n.Flow.Number = -1
	wantEncode(t, n, []byte{2, 18, 4, 22, 14, 26, 14, 2, 60, 2, 0, 0, 0, 0, 0, 1})
}

// TestEncodeDone: 1 of side 0, 2 of side 1, both of both.
func TestEncodeDone(t *testing.T) {
	for done, want := range map[[2]bool]byte{{}: 0, {true, false}: 2, {false, true}: 4, {true, true}: 6} {
		n := notePut()
		n.Flow.Done = done
		b, err := Encode(n)
		if err != nil || len(b) != 16 || b[14] != want {
			t.Errorf("Done %v: got %v, %v, want %d in it", done, b, err, want)
		}
		wantRead(t, b, n, 16)
	}
}

// TestEncodeRange: each number that may not be.
func TestEncodeRange(t *testing.T) {
	for _, what := range outside(1, 5) {
		for _, n := range []api.Note{notePut(), noteGone(), {Seq: 9}} {
			n.What = what
			wantEncodeRefused(t, "What", n, api.ErrRange)
		}
	}
	for _, seq := range outside(0, api.MaxTime) {
		for _, n := range []api.Note{notePut(), noteGone(), {What: api.Got}, {What: api.Want}, {What: api.All}} {
			n.Seq = seq
			wantEncodeRefused(t, "Seq", n, api.ErrRange)
		}
	}
	for _, n := range []api.Note{notePut(), noteGone()} {
		for _, c := range keyParts(&n.Flow.Key) {
			wantRefused(t, &n, c, api.ErrRange)
		}
	}
	n := notePut()
	f := &n.Flow
	for _, c := range []part{
		{&f.State, api.Asked, api.Ended},
		{&f.Until, 0, 2 * api.MaxTime},
		{&f.Stamp, 1, api.MaxTime},
		{&f.High[0], 0, api.MaxAddr},
		{&f.High[1], 0, api.MaxAddr},
		{&f.Win[0], 0, api.MaxPort},
		{&f.Win[1], 0, api.MaxPort},
		{&f.Number, -1, api.MaxList},
	} {
		wantRefused(t, &n, c, api.ErrRange)
	}
	for _, kind := range []int{api.Single, api.Echo} {
		n := noteOfKind(kind)
		wantRefused(t, &n, part{&n.Flow.State, api.Asked, api.Both}, api.ErrRange)
	}
}

// part of a note: where it stands, and from which number to which one it may be.
type part struct {
	at        *int
	low, high int
}

func keyParts(k *api.Key) []part {
	return []part{
		{&k.Kind, api.Stream, api.Echo},
		{&k.Src, 0, api.MaxAddr},
		{&k.Dst, 0, api.MaxAddr},
		{&k.From, 0, api.MaxPort},
		{&k.To, 0, api.MaxPort},
	}
}

// wantRefused wants the numbers just outside of a note's part to be refused, and those at its ends not.
func wantRefused(t *testing.T, n *api.Note, c part, want api.Errno) {
	t.Helper()
	was := *c.at
	for _, *c.at = range outside(c.low, c.high) {
		wantEncodeRefused(t, "a part", *n, want)
	}
	for _, *c.at = range []int{c.low, c.high} {
		if n.Flow.Key.Kind == api.Echo && n.Flow.Key.From != n.Flow.Key.To {
			continue // Its ports are to be alike besides.
		}
		if b, err := Encode(*n); len(b) == 0 || err != nil {
			t.Errorf("Encode(%v): got %v, %v, want bytes", *n, b, err)
		}
	}
	*c.at = was
}

// flowParts are all numbers of a flow beside its key.
func flowParts(f *api.Flow) []*int {
	return []*int{&f.State, &f.Until, &f.Stamp, &f.High[0], &f.High[1], &f.Win[0], &f.Win[1], &f.Number}
}

// TestEncodeShape: what the What, or the kind, does not have.
func TestEncodeShape(t *testing.T) {
	for _, what := range []int{api.Got, api.Want, api.All} {
		n := api.Note{What: what, Seq: 9}
		k := &n.Flow.Key
		for _, at := range append(flowParts(&n.Flow), &k.Kind, &k.Src, &k.From, &k.Dst, &k.To) {
			wantShape(t, &n, at)
		}
		for side := range 2 {
			n.Flow.Done = [2]bool{}
			n.Flow.Done[side] = true
			wantEncodeRefused(t, "Done", n, api.ErrShape)
		}
		wantEncodeRefused(t, "all of a Put", api.Note{What: what, Seq: 9, Flow: notePut().Flow}, api.ErrShape)
		wantEncodeRefused(t, "all of a Gone", api.Note{What: what, Seq: 9, Flow: noteGone().Flow}, api.ErrShape)
	}
	n := noteGone()
	for _, at := range flowParts(&n.Flow) {
		wantShape(t, &n, at)
	}
	for side := range 2 {
		n := noteGone()
		n.Flow.Done[side] = true
		wantEncodeRefused(t, "Done", n, api.ErrShape)
	}
	wantEncodeRefused(t, "a Gone of all", api.Note{What: api.Gone, Seq: 9, Flow: notePut().Flow}, api.ErrShape)
	for _, kind := range []int{api.Single, api.Echo} {
		n := noteOfKind(kind)
		for _, at := range []*int{&n.Flow.High[0], &n.Flow.High[1], &n.Flow.Win[0], &n.Flow.Win[1]} {
			*at = 1
			wantEncodeRefused(t, "of a Stream alone", n, api.ErrShape)
			*at = 0
		}
		n.Flow.Done[1] = true
		wantEncodeRefused(t, "Done", n, api.ErrShape)
	}
	for _, n := range []api.Note{noteOfKind(api.Echo), {What: api.Gone, Seq: 9, Flow: api.Flow{Key: noteOfKind(api.Echo).Flow.Key}}} {
		n.Flow.Key.From++
		wantEncodeRefused(t, "ports of an Echo", n, api.ErrShape)
	}
}

// wantShape wants a number to be refused that the note does not have, whatever it is.
func wantShape(t *testing.T, n *api.Note, at *int) {
	t.Helper()
	for _, *at = range []int{1, -1, math.MaxInt, math.MinInt} {
		wantEncodeRefused(t, "not its own", *n, api.ErrShape)
	}
	*at = 0
}

// TestEncodeOrder: of several errors that which is named first.
func TestEncodeOrder(t *testing.T) {
	wantEncodeRefused(t, "What ahead of shape", api.Note{What: 6, Seq: 9, Flow: notePut().Flow}, api.ErrRange)
	wantEncodeRefused(t, "What ahead of shape", api.Note{What: 0, Seq: 9, Flow: notePut().Flow}, api.ErrRange)
	for _, what := range []int{api.Gone, api.Got, api.Want, api.All} {
		wantEncodeRefused(t, "Seq ahead of shape", api.Note{What: what, Seq: -1, Flow: notePut().Flow}, api.ErrRange)
	}
	n := noteOfKind(api.Echo)
	n.Flow.Key.To = 8
	n.Seq = -1
	wantEncodeRefused(t, "Seq ahead of Check", n, api.ErrRange)
	n.Seq, n.Flow.Stamp = 9, 0
	wantEncodeRefused(t, "range ahead of shape", n, api.ErrRange)

	n = noteGone()
	n.Flow.Key.Src, n.Flow.Stamp = -1, 1
	wantEncodeRefused(t, "the key ahead of shape", n, api.ErrRange)
	n.Flow.Key = api.Key{}
	wantEncodeRefused(t, "no key, ahead of shape", n, api.ErrRange)
}

// TestEncodeKeyAlone: of a Gone the key is looked at alone: all that Check asks of the rest is to be 0 here.
func TestEncodeKeyAlone(t *testing.T) {
	for kind := api.Stream; kind <= api.Echo; kind++ {
		n := api.Note{What: api.Gone, Seq: 9, Flow: api.Flow{Key: noteOfKind(kind).Flow.Key}}
		if track.Check(n.Flow) == nil {
			t.Fatalf("Check takes %v", n.Flow)
		}
		wantEncode(t, n, bytesOf(api.Gone, 9, kind, 11, 7, 13, 7))
	}
}

// TestEncodeFresh: what is answered is the caller's.
func TestEncodeFresh(t *testing.T) {
	a, _ := Encode(notePut())
	b, _ := Encode(notePut())
	want := bytes.Clone(b)
	for i := range a[:cap(a)] {
		a[:cap(a)][i] = 77
	}
	if !bytes.Equal(b, want) {
		t.Errorf("written into the one, the other one became %v", b)
	}
	wantEncode(t, notePut(), want)
}

// N1: Read

// TestReadBack: what goes out comes in as it was, whatever stands behind it.
func TestReadBack(t *testing.T) {
	for _, n := range notes() {
		b, err := Encode(n)
		if err != nil {
			t.Fatalf("Encode(%v): got %v", n, err)
		}
		wantRead(t, b, n, len(b))
		for _, behind := range [][]byte{{0}, {255}, {128}, {128, 0}, b, bytes.Repeat([]byte{255}, 99)} {
			wantRead(t, slices.Concat(b, behind), n, len(b))
		}
	}
}

// TestReadOneByOne: notes one behind the other.
func TestReadOneByOne(t *testing.T) {
	var b []byte
	for _, n := range notes() {
		one, _ := Encode(n)
		b = append(b, one...)
	}
	for _, want := range notes() {
		n, used, err := Read(b)
		if n != want || used < 2 || err != nil {
			t.Fatalf("got %v, %d, %v, want %v", n, used, err, want)
		}
		b = b[used:]
	}
	if len(b) != 0 {
		t.Errorf("left are %v", b)
	}
}

// TestReadShort: a note that is cut anywhere, in a number or between two, is lacking a number.
func TestReadShort(t *testing.T) {
	wantReadRefused(t, "nil", nil, api.ErrShort)
	for _, n := range notes() {
		b, _ := Encode(n)
		for i := range b {
			wantReadRefused(t, "cut", bytes.Clone(b[:i]), api.ErrShort)
			// What lies behind the length is not read.
			wantReadRefused(t, "cut", b[:i], api.ErrShort)
		}
	}
}

// TestReadShortNumbers: a number that ends nowhere is lacking, as long as it could become one.
func TestReadShortNumbers(t *testing.T) {
	for _, ahead := range [][]byte{{}, {6}, {2, 18, 2}} {
		for i := 1; i <= 9; i++ {
			for _, c := range []byte{128, 129, 255} {
				wantReadRefused(t, "unended", slices.Concat(ahead, bytes.Repeat([]byte{c}, i)), api.ErrShort)
			}
		}
	}
}

// TestReadWhat: a What that is none is told from the left, whatever is lacking behind it.
func TestReadWhat(t *testing.T) {
	for _, what := range append(outside(1, 5), -2, -3, 7, 100) {
		for _, behind := range [][]byte{{}, {18}, {128}, {128, 0}, bytes.Repeat([]byte{2}, 30)} {
			wantReadRefused(t, "What", slices.Concat(bytesOf(what), behind), api.ErrSyntax)
		}
	}
	// The odd ones are numbers below 0.
	for _, c := range []byte{0, 1, 3, 5, 7, 9, 11, 12, 13, 127} {
		wantReadRefused(t, "What", []byte{c, 18, 2, 22, 24, 26, 28}, api.ErrSyntax)
	}
}

// spoilt are bytes that are no number, nor the beginning of one.
func spoilt() [][]byte {
	nine := bytes.Repeat([]byte{255}, 9)
	zeros := bytes.Repeat([]byte{128}, 9)
	return [][]byte{
		{128, 0}, {130, 0}, {255, 0}, {128, 128, 0}, {129, 128, 128, 0},
		append(bytes.Clone(zeros), 0),
		append(bytes.Clone(nine), 0),
		append(bytes.Clone(zeros), 2),
		append(bytes.Clone(nine), 2),
		append(bytes.Clone(nine), 127),
		append(bytes.Clone(nine), 128),
		append(bytes.Clone(zeros), 128),
		append(bytes.Clone(zeros), 129),
		append(bytes.Clone(nine), 255),
		append(bytes.Clone(nine), 129, 0),
		append(bytes.Clone(nine), 129, 1),
		bytes.Repeat([]byte{255}, 99),
		bytes.Repeat([]byte{128}, 99),
	}
}

// TestReadForm: a number with a needless 0 at its end, or of more than 64 bits, is none, at each place, whatever is lacking behind it.
func TestReadForm(t *testing.T) {
	for _, n := range []api.Note{notePut(), noteGone(), {What: api.All, Seq: 9}} {
		whole, _ := Encode(n) // a byte a number
		for i := range whole {
			for _, bad := range spoilt() {
				b := slices.Concat(whole[:i], bad)
				wantReadRefused(t, "form", b, api.ErrSyntax)
				wantReadRefused(t, "form", slices.Concat(b, whole[i+1:]), api.ErrSyntax)
				wantReadRefused(t, "form", slices.Concat(b, whole), api.ErrSyntax)
			}
		}
	}
	// The same number, with a needless byte, would be right.
	wantReadRefused(t, "needless", []byte{6, 146, 0}, api.ErrSyntax)
	wantReadRefused(t, "needless", []byte{134, 0, 18}, api.ErrSyntax)
}

// TestReadLeft: of several errors the one that stands more to the left.
func TestReadLeft(t *testing.T) {
	wantReadRefused(t, "none, ahead of short", []byte{12, 255}, api.ErrSyntax)
	wantReadRefused(t, "form, ahead of short", []byte{2, 128, 0, 255}, api.ErrSyntax)
	wantReadRefused(t, "form, ahead of short", []byte{2, 128, 0}, api.ErrSyntax)
	// What Encode does not write is told last: there is a number lacking here.
	wantReadRefused(t, "short, ahead of range", bytesOf(api.Gone, -1), api.ErrShort)
	wantReadRefused(t, "short, ahead of range", bytesOf(api.Put, api.MaxTime+1, 9, -1, -1, -1, -1), api.ErrShort)
	wantReadRefused(t, "short, ahead of range", append(bytesOf(api.Gone, 9, 0, -1, 0, 0), 255), api.ErrShort)
	// The longest numbers are of their form.
	for _, far := range []int{math.MinInt, math.MaxInt} {
		wantReadRefused(t, "short, ahead of range", bytesOf(api.Gone, far, far), api.ErrShort)
		wantReadRefused(t, "range", bytesOf(api.Gone, far, far, far, far, far, far), api.ErrSyntax)
		wantReadRefused(t, "range", bytesOf(api.Got, far), api.ErrSyntax)
	}
}

// TestReadNotEncoded: each number that Encode does not write, at each place.
func TestReadNotEncoded(t *testing.T) {
	put := []int{1, 9, 1, 11, 12, 13, 14, 3, 15, 16, 17, 18, 19, 20, 2, 21}
	wantRead(t, bytesOf(put...), notePut(), 16)
	ends := [16][2]int{
		1:  {0, api.MaxTime},
		2:  {1, 3},
		3:  {0, api.MaxAddr},
		4:  {0, api.MaxPort},
		5:  {0, api.MaxAddr},
		6:  {0, api.MaxPort},
		7:  {1, 4},
		8:  {0, 2 * api.MaxTime},
		9:  {1, api.MaxTime},
		10: {0, api.MaxAddr},
		11: {0, api.MaxAddr},
		12: {0, api.MaxPort},
		13: {0, api.MaxPort},
		14: {0, 3},
		15: {-1, api.MaxList},
	}
	for i := 1; i < 16; i++ {
		for _, number := range append(outside(ends[i][0], ends[i][1]), ends[i][1]+4) {
			l := slices.Clone(put)
			l[i] = number
			wantReadRefused(t, "a Put's", bytesOf(l...), api.ErrSyntax)
			if i < 7 {
				l[0] = api.Gone
				wantReadRefused(t, "a Gone's", bytesOf(l[:7]...), api.ErrSyntax)
			}
		}
	}
	for _, kind := range []int{api.Single, api.Echo} {
		for i := 10; i < 15; i++ {
			l := []int{1, 9, kind, 11, 7, 13, 7, 1, 15, 16, 0, 0, 0, 0, 0, 21}
			l[i] = 1
			wantReadRefused(t, "of a Stream alone", bytesOf(l...), api.ErrSyntax)
		}
	}
	wantReadRefused(t, "ports of an Echo", bytesOf(api.Gone, 9, api.Echo, 11, 7, 13, 8), api.ErrSyntax)
	wantReadRefused(t, "ports of an Echo", bytesOf(1, 9, api.Echo, 11, 7, 13, 8, 1, 15, 16, 0, 0, 0, 0, 0, 21), api.ErrSyntax)
}

// TestReadLeavesBytes: what is handed in is not written into.
func TestReadLeavesBytes(t *testing.T) {
	b, _ := Encode(notePut())
	for _, in := range [][]byte{b, append(bytes.Clone(b), 1, 2, 3), b[:5], {2, 128, 0}} {
		all := in[:cap(in)]
		was := bytes.Clone(all)
		Read(in)
		if !bytes.Equal(all, was) {
			t.Errorf("Read made %v of %v", all, was)
		}
	}
}
