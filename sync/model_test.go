package sync

import (
	"bytes"
	"fmt"
	"math/big"
	"math/rand"
	"slices"
	"testing"

	"portcullis/api"
	"portcullis/plain"
	"portcullis/track"
)

// form of a number, by the chapter's words, in numbers that have no bound.
func form(n *big.Int) (b []byte) {
	z := new(big.Int).Mul(n, big.NewInt(2))
	if n.Sign() < 0 {
		z.Neg(z).Sub(z, big.NewInt(1))
	}
	low := new(big.Int)
	for {
		z.DivMod(z, big.NewInt(128), low)
		if z.Sign() == 0 {
			return append(b, byte(low.Int64()))
		}
		b = append(b, byte(low.Int64()+128))
	}
}

// bytesOf are numbers, one behind the other.
func bytesOf(numbers ...int) (b []byte) {
	for _, n := range numbers {
		b = append(b, form(big.NewInt(int64(n)))...)
	}
	return b
}

// unform is the number whose form bytes begin with.
func unform(b []byte) (n, used int, err api.Errno) {
	end := slices.IndexFunc(b, func(c byte) bool { return c < 128 })
	if end < 0 {
		if len(b) < 10 {
			return 0, 0, api.ErrShort
		}
		return 0, 0, api.ErrSyntax // as whatever came would have more than 64 bits
	}
	z := new(big.Int)
	for i := end; i >= 0; i-- {
		z.Mul(z, big.NewInt(128)).Add(z, big.NewInt(int64(b[i]%128)))
	}
	if z.Bit(0) == 1 {
		z.Add(z, big.NewInt(1)).Neg(z)
	}
	z.Quo(z, big.NewInt(2))
	if !z.IsInt64() || !bytes.Equal(form(z), b[:end+1]) {
		return 0, 0, api.ErrSyntax
	}
	return int(z.Int64()), end + 1, api.OK
}

// listed are the numbers of a note, by the chapter's words.
func listed(n api.Note) []int {
	l := []int{n.What, n.Seq}
	if f := n.Flow; n.What == api.Put || n.What == api.Gone {
		l = append(l, f.Key.Kind, f.Key.Src, f.Key.From, f.Key.Dst, f.Key.To)
	}
	if f := n.Flow; n.What == api.Put {
		done := map[[2]bool]int{{}: 0, {true, false}: 1, {false, true}: 2, {true, true}: 3}[f.Done]
		l = append(l, f.State, f.Until, f.Stamp, f.High[0], f.High[1], f.Win[0], f.Win[1], done, f.Number)
	}
	return l
}

// wrong tells what Encode is to find.
func wrong(n api.Note) api.Errno {
	if n.What < 1 || n.What > 5 || n.Seq < 0 || n.Seq > 1_000_000 {
		return api.ErrRange
	}
	if n.What == api.Put {
		return plain.Told(track.Check(n.Flow))
	}
	k := n.Flow.Key
	if n.What == api.Gone {
		isAddr := func(a int) bool { return a >= 0 && a < 1<<32 }
		isPort := func(p int) bool { return p >= 0 && p < 1<<16 }
		if k.Kind < 1 || k.Kind > 3 || !isAddr(k.Src) || !isAddr(k.Dst) || !isPort(k.From) || !isPort(k.To) {
			return api.ErrRange
		}
		if k.Kind == api.Echo && k.From != k.To {
			return api.ErrShape
		}
		n.Flow.Key = api.Key{}
	}
	if n.Flow != (api.Flow{}) {
		return api.ErrShape
	}
	return api.OK
}

// readModel reads by the chapter's words.
func readModel(b []byte) (n api.Note, used int, err api.Errno) {
	var l []int
	many := 1
	for i := 0; i < many; i++ {
		number, wide, err := unform(b[used:])
		if err != api.OK {
			return api.Note{}, 0, err
		}
		l = append(l, number)
		used += wide
		if i == 0 {
			of := map[int]int{api.Put: 16, api.Gone: 7, api.Got: 2, api.Want: 2, api.All: 2}
			if many = of[number]; many == 0 {
				return api.Note{}, 0, api.ErrSyntax
			}
		}
	}
	n = api.Note{What: l[0], Seq: l[1]}
	if many >= 7 {
		n.Flow.Key = api.Key{Kind: l[2], Src: l[3], From: l[4], Dst: l[5], To: l[6]}
	}
	if many >= 16 {
		if l[14] < 0 || l[14] > 3 {
			return api.Note{}, 0, api.ErrSyntax
		}
		n.Flow.State, n.Flow.Until, n.Flow.Stamp, n.Flow.Number = l[7], l[8], l[9], l[15]
		n.Flow.High, n.Flow.Win = [2]int{l[10], l[11]}, [2]int{l[12], l[13]}
		n.Flow.Done = [2]bool{l[14]%2 == 1, l[14] >= 2}
	}
	if wrong(n) != api.OK {
		return api.Note{}, 0, api.ErrSyntax
	}
	return n, used, api.OK
}

// randomNote is right, mostly.
func randomNote(r *rand.Rand) api.Note {
	l := notes()
	n := l[r.Intn(len(l))]
	f, k := &n.Flow, &n.Flow.Key
	for range r.Intn(4) {
		at := []*int{&n.What, &n.Seq, &k.Kind, &k.Src, &k.From, &k.Dst, &k.To, &f.State, &f.Until, &f.Stamp, &f.High[0], &f.High[1], &f.Win[0], &f.Win[1], &f.Number}[r.Intn(15)]
		switch r.Intn(6) {
		case 0:
			*at += r.Intn(5) - 2
		case 1:
			*at = int(r.Uint64() >> r.Intn(64))
		case 2:
			*at = 0
		case 3:
			f.Done[r.Intn(2)] = r.Intn(2) == 0
		default:
			*at = r.Intn(4)
		}
	}
	return n
}

// TestEncodeAgainstModel: what Encode writes, and what is wrong.
func TestEncodeAgainstModel(t *testing.T) {
	r := rand.New(rand.NewSource(14))
	seen := map[string]int{}
	for range 50_000 {
		n := randomNote(r)
		var want []byte
		if wrong(n) == api.OK {
			want = bytesOf(listed(n)...)
		}
		got, err := Encode(n)
		if !bytes.Equal(got, want) || plain.Told(err) != wrong(n) {
			t.Fatalf("Encode(%v): got %v, %v, want %v, %v", n, got, err, want, wrong(n))
		}
		if n.What >= 1 && n.What <= 5 {
			seen[fmt.Sprint(n.What, " ", wrong(n))]++
		}
	}
	for what := api.Put; what <= api.All; what++ {
		for _, err := range []api.Errno{api.OK, api.ErrRange, api.ErrShape} {
			if name := fmt.Sprint(what, " ", err); seen[name] < 20 {
				t.Errorf("%s was seen %d times", name, seen[name])
			}
		}
	}
}

// randomBytes are numbers of a note, mostly; some of them spoilt, and cut somewhere.
func randomBytes(r *rand.Rand) []byte {
	l := listed(randomNote(r))
	var b []byte
	for _, n := range l {
		if r.Intn(40) == 0 {
			b = append(b, spoilt()[r.Intn(len(spoilt()))]...)
			continue
		}
		b = append(b, bytesOf(n)...)
	}
	for range r.Intn(3) {
		switch r.Intn(4) {
		case 0:
			b[r.Intn(len(b))] ^= 1 << r.Intn(8)
		case 1:
			b = append(b, byte(r.Intn(256)))
		case 2:
			b = b[:1+r.Intn(len(b))]
		}
	}
	return b
}

// TestReadAgainstModel: what Read reads, and what is wrong; and what it reads is just what Encode writes.
func TestReadAgainstModel(t *testing.T) {
	r := rand.New(rand.NewSource(15))
	seen := map[string]int{}
	for range 50_000 {
		b := randomBytes(r)
		n, many, wrong := readModel(b)
		got, used, err := Read(b)
		if got != n || used != many || plain.Told(err) != wrong {
			t.Fatalf("Read(%v): got %v, %d, %v, want %v, %d, %v", b, got, used, err, n, many, wrong)
		}
		if err == nil {
			wantEncode(t, got, b[:used])
		}
		seen[fmt.Sprint(n.What, " ", wrong)]++
	}
	for _, name := range []string{"1 OK", "2 OK", "3 OK", "4 OK", "5 OK", "0 ErrSyntax", "0 ErrShort"} {
		if seen[name] < 20 {
			t.Errorf("%s was seen %d times", name, seen[name])
		}
	}
}

// told is a note of a teller: when it was told last, if it was.
type told struct {
	note api.Note
	once bool
	at   int
}

// tellerModel is a teller as the chapter's words have it: a list of all that was ever told.
type tellerModel struct {
	again, now, heard int
	all               []told
}

func (m *tellerModel) wrongTime(now int) api.Errno {
	if now < 0 || now > api.MaxTime {
		return api.ErrRange
	}
	if now < m.now {
		return api.ErrState
	}
	return api.OK
}

func (m *tellerModel) tell(n api.Note, now int) (int, api.Errno) {
	if err := m.wrongTime(now); err != api.OK {
		return 0, err
	}
	n.Seq = len(m.all) + 1
	if err := wrong(n); err != api.OK {
		return 0, err
	}
	if len(m.all)-m.heard == api.MaxList {
		return 0, api.ErrFull
	}
	m.now = now
	m.all = append(m.all, told{note: n})
	return n.Seq, api.OK
}

func (m *tellerModel) due(now int) (l []api.Note, err api.Errno) {
	if err := m.wrongTime(now); err != api.OK {
		return nil, err
	}
	m.now = now
	for i := m.heard; i < len(m.all); i++ {
		if one := &m.all[i]; !one.once || now-one.at >= m.again {
			l = append(l, one.note)
			one.once, one.at = true, now
		}
	}
	return l, api.OK
}

func (m *tellerModel) hear(seq int) api.Errno {
	if seq < 0 || seq > len(m.all) {
		return api.ErrRange
	}
	m.heard = max(m.heard, seq)
	return api.OK
}

// hearerModel is a hearer as the chapter's words have it: a list of all that came, the first of each Seq.
type hearerModel struct {
	seq  int
	came []api.Note
}

func (m *hearerModel) hear(n api.Note) (l []api.Note, err api.Errno) {
	if err := wrong(n); err != api.OK {
		return nil, err
	}
	if n.Seq == 0 {
		return nil, api.ErrRange
	}
	if n.Seq > m.seq+api.MaxList {
		return nil, api.ErrFull
	}
	if !slices.ContainsFunc(m.came, func(o api.Note) bool { return o.Seq == n.Seq }) {
		m.came = append(m.came, n)
	}
	for {
		i := slices.IndexFunc(m.came, func(o api.Note) bool { return o.Seq == m.seq+1 })
		if i < 0 {
			return l, api.OK
		}
		l = append(l, m.came[i])
		m.seq++
	}
}

// randomTime goes on, mostly by little.
func randomTime(r *rand.Rand, last int) int {
	switch r.Intn(30) {
	case 0:
		return last - 1 - r.Intn(3)
	case 1:
		return api.MaxTime + 1
	case 2:
		return last + r.Intn(20)
	}
	return last + r.Intn(3)
}

// TestAgainstModel: long runs of random calls on a teller and on a hearer; and each outcome was seen.
func TestAgainstModel(t *testing.T) {
	r := rand.New(rand.NewSource(16))
	seen := map[string]int{}
	for range 60 {
		again := 1 + r.Intn(8)
		l, m := teller(t, again), &tellerModel{again: again}
		h, o := NewHearer(), &hearerModel{}
		eager := r.Intn(2) == 0 // some tell much, and are heard of seldom
		for range 500 {
			got, want, name := bothTell(r, l, m, eager)
			if got != want || l.Left() != len(m.all)-m.heard {
				t.Fatalf("%s: got %s, %d left, want %s, %d left", name, got, l.Left(), want, len(m.all)-m.heard)
			}
			seen[name]++
			got, want, name = bothHear(r, h, o)
			if got != want || h.Seq() != o.seq {
				t.Fatalf("%s: got %s, Seq %d, want %s, Seq %d", name, got, h.Seq(), want, o.seq)
			}
			seen[name]++
		}
	}
	for _, name := range []string{
		"tell OK", "tell ErrRange", "tell ErrState", "tell ErrShape", "tell ErrFull",
		"due none OK", "due some OK", "due ErrRange", "due ErrState", "heard OK", "heard ErrRange",
		"hear none OK", "hear one OK", "hear some OK", "hear ErrRange", "hear ErrShape", "hear ErrFull",
	} {
		if seen[name] < 20 {
			t.Errorf("%s was seen %d times", name, seen[name])
		}
	}
}

// amount names how many came out.
func amount(many int) string {
	return []string{"none", "one", "some"}[min(many, 2)]
}

// bothTell makes one random call on a teller and on its model: what each answers, and a name of the outcome.
func bothTell(r *rand.Rand, l *Teller, m *tellerModel, eager bool) (got, want, name string) {
	now := randomTime(r, m.now)
	switch which := r.Intn(10); {
	case which < 4 || eager && which < 9:
		n := notes()[r.Intn(len(notes()))]
		if r.Intn(10) == 0 {
			n = randomNote(r)
		}
		seq, err := l.Tell(n, now)
		number, wrong := m.tell(n, now)
		return fmt.Sprint(seq, plain.Told(err)), fmt.Sprint(number, wrong), fmt.Sprint("tell ", wrong)
	case which < 8 || eager && r.Intn(4) > 0:
		due, err := l.Due(now)
		is, wrong := m.due(now)
		name = fmt.Sprint("due ", wrong)
		if wrong == api.OK {
			name = fmt.Sprint("due ", amount(min(len(is), 1)*2), " ", wrong)
		}
		return fmt.Sprint(due, plain.Told(err)), fmt.Sprint(is, wrong), name
	}
	seq := m.heard - 2 + r.Intn(max(len(m.all)-m.heard, 1)+3)
	err := l.Heard(seq)
	wrong := m.hear(seq)
	return fmt.Sprint(plain.Told(err)), fmt.Sprint(wrong), fmt.Sprint("heard ", wrong)
}

// bothHear is the same of a hearer.
func bothHear(r *rand.Rand, h *Hearer, m *hearerModel) (got, want, name string) {
	n := notes()[r.Intn(len(notes()))]
	if r.Intn(10) == 0 {
		n = randomNote(r)
	}
	n.Seq = max(0, m.seq-2+r.Intn(7))
	switch r.Intn(20) {
	case 0:
		n.Seq = m.seq + api.MaxList - 2 + r.Intn(5)
	case 1:
		n.Seq = api.MaxTime + r.Intn(2)
	}
	l, err := h.Hear(n)
	is, wrong := m.hear(n)
	name = fmt.Sprint("hear ", wrong)
	if wrong == api.OK {
		name = fmt.Sprint("hear ", amount(len(is)), " ", wrong)
	}
	return fmt.Sprint(l, plain.Told(err)), fmt.Sprint(is, wrong), name
}

// TestTold: over a way that loses, doubles and turns round, all that one tells the other one hears, once, in order; and both find an end.
func TestTold(t *testing.T) {
	r := rand.New(rand.NewSource(17))
	for range 40 {
		l, h := teller(t, 1+r.Intn(6)), NewHearer()
		var sent, came []api.Note
		for now := 0; now < 400 && (now < 60 || l.Left() > 0); now++ {
			for now < 60 && r.Intn(3) > 0 {
				n := notes()[r.Intn(len(notes()))]
				seq, err := l.Tell(n, now)
				if err != nil {
					t.Fatalf("Tell: got %v", err)
				}
				n.Seq = seq
				sent = append(sent, n)
			}
			came = append(came, carry(t, r, l, h, now)...)
		}
		if l.Left() != 0 || !slices.Equal(came, sent) {
			t.Fatalf("%d were told, %d came, %d are left", len(sent), len(came), l.Left())
		}
	}
}

// carry brings what is due as bytes, each lost, or once, or twice, in no order; and back what was heard, or not.
func carry(t *testing.T, r *rand.Rand, l *Teller, h *Hearer, now int) (came []api.Note) {
	t.Helper()
	due, err := l.Due(now)
	if err != nil {
		t.Fatalf("Due: got %v", err)
	}
	var way [][]byte
	for _, n := range due {
		b, err := Encode(n)
		if err != nil {
			t.Fatalf("Encode: got %v", err)
		}
		for range r.Intn(3) {
			way = append(way, b)
		}
	}
	r.Shuffle(len(way), func(i, j int) { way[i], way[j] = way[j], way[i] })
	for _, b := range way {
		n, _, err := Read(b)
		if err != nil {
			t.Fatalf("Read: got %v", err)
		}
		out, err := h.Hear(n)
		if err != nil {
			t.Fatalf("Hear: got %v", err)
		}
		came = append(came, out...)
	}
	if r.Intn(3) > 0 {
		if err := l.Heard(h.Seq()); err != nil {
			t.Fatalf("Heard: got %v", err)
		}
	}
	return came
}
