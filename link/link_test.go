package link_test

import (
	"math"
	"math/rand"
	"slices"
	"testing"

	"caravan/api"
	"caravan/link"
)

const mostLeft = 1 << 18

// noEnds are none, some of them one of the two, if some of their bits are lost, or their sign.
var noEnds = []int{0, 3, 4, 5, 127, 128, 255, 256, 257, 258, 1<<16 + 1, 1<<16 + 2, 1<<32 + 1, 1<<32 + 2, -1, -2, -3, -254, -255, 1 - 1<<32, 2 - 1<<32, math.MaxInt32, math.MinInt32, math.MaxInt, math.MaxInt - 1, math.MinInt, math.MinInt + 1, math.MinInt + 2, math.MinInt + 3}

// below are numbers below 0.
var below = []int{-1, -2, -255, -256, -mostLeft, math.MinInt32, -1 << 32, 1 - 1<<32, math.MinInt, math.MinInt + 1}

// beyond are numbers above all that can be in flight.
var beyond = []int{mostLeft + 1, 1 << 19, math.MaxInt32, math.MaxInt32 + 1, 1 << 32, 1<<32 + 1, math.MaxInt - 1, math.MaxInt}

// noise answers n bytes that look like no pattern, always the same ones.
func noise(n int) []byte {
	out := make([]byte, n)
	rand.New(rand.NewSource(12)).Read(out)
	return out
}

func other(end int) int { return 3 - end }

// sends holds Send against what it is to answer, and what is in flight behind it.
func sends(t *testing.T, l *link.Link, from int, b []byte, want api.Errno) {
	t.Helper()
	before := [2]int{l.Left(1), l.Left(2)}
	if want == api.OK {
		before[other(from)-1] += len(b)
	}
	if err := l.Send(from, b); err != want {
		t.Fatalf("Send(%d) of %d bytes = %d, not %d", from, len(b), err, want)
	}
	left(t, l, before[0], before[1])
}

// delivers holds Deliver against the bytes that are to come; they are in flight no more, and nothing else is changed.
func delivers(t *testing.T, l *link.Link, to, n int, want []byte) {
	t.Helper()
	before := [2]int{l.Left(1), l.Left(2)}
	got, err := l.Deliver(to, n)
	if !slices.Equal(got, want) || err != api.OK {
		t.Fatalf("Deliver(%d, %d) = %d bytes, %d, not %d bytes, or others", to, n, len(got), err, len(want))
	}
	before[to-1] -= len(want)
	left(t, l, before[0], before[1])
}

// refuses holds Deliver against an error, beside which there is nothing, and by which nothing is changed.
func refuses(t *testing.T, l *link.Link, to, n int, want api.Errno) {
	t.Helper()
	before := [2]int{l.Left(1), l.Left(2)}
	if got, err := l.Deliver(to, n); len(got) != 0 || err != want {
		t.Fatalf("Deliver(%d, %d) = %d bytes, %d, not %d", to, n, len(got), err, want)
	}
	left(t, l, before[0], before[1])
}

// left holds how many bytes are in flight to each end against what they are to be.
func left(t *testing.T, l *link.Link, one, two int) {
	t.Helper()
	if l.Left(1) != one || l.Left(2) != two {
		t.Fatalf("Left = %d and %d, not %d and %d", l.Left(1), l.Left(2), one, two)
	}
}

// resets holds Reset against what it does.
func resets(t *testing.T, l *link.Link) {
	t.Helper()
	epoch := l.Epoch()
	if err := l.Reset(); err != api.OK {
		t.Fatalf("Reset = %d", err)
	}
	left(t, l, 0, 0)
	if l.Epoch() != epoch+1 {
		t.Fatalf("Epoch = %d, behind %d", l.Epoch(), epoch)
	}
}

// with answers a link on which these bytes are in flight to the ends 1 and 2.
func with(t *testing.T, one, two []byte) *link.Link {
	t.Helper()
	l := link.New()
	sends(t, l, 2, one, api.OK)
	sends(t, l, 1, two, api.OK)
	return l
}

// holds takes all that is in flight, and holds it against what it is to be.
func holds(t *testing.T, l *link.Link, one, two []byte) {
	t.Helper()
	delivers(t, l, 1, math.MaxInt, one)
	delivers(t, l, 2, math.MaxInt, two)
	left(t, l, 0, 0)
}

// The chapter's examples.
func TestExamples(t *testing.T) {
	l := link.New()
	sends(t, l, 1, []byte("abc"), api.OK)
	sends(t, l, 1, []byte("de"), api.OK)
	left(t, l, 0, 5)
	delivers(t, l, 2, 4, []byte("abcd"))
	delivers(t, l, 2, 4, []byte("e"))
	delivers(t, l, 2, 4, nil)
	sends(t, l, 2, []byte("x"), api.OK)
	resets(t, l)
	left(t, l, 0, 0)
	if l.Epoch() != 1 {
		t.Errorf("Epoch = %d", l.Epoch())
	}
	sends(t, l, 3, []byte("x"), api.ErrArg)
	refuses(t, l, 1, -1, api.ErrArg)
	sends(t, l, 1, make([]byte, mostLeft+1), api.ErrFull)
}

// A new link: nothing is in flight, and the epoch is 0.
func TestNew(t *testing.T) {
	l := link.New()
	left(t, l, 0, 0)
	if l.Epoch() != 0 {
		t.Errorf("Epoch = %d", l.Epoch())
	}
	holds(t, l, nil, nil)
}

// P12.1: bytes stand behind those that are in flight, to the other end alone.
func TestSend(t *testing.T) {
	for from := 1; from <= 2; from++ {
		l := link.New()
		for _, b := range [][]byte{{1}, nil, {2, 3}, {}, {4, 5, 6}} {
			sends(t, l, from, b, api.OK)
		}
		delivers(t, l, from, 10, nil)
		delivers(t, l, other(from), 10, []byte{1, 2, 3, 4, 5, 6})
		sends(t, l, from, noise(1000), api.OK)
		delivers(t, l, other(from), 1000, noise(1000))
	}
}

// P12.1: of no end ErrArg, ahead of ErrFull.
func TestSendFromNoEnd(t *testing.T) {
	l := with(t, []byte("one"), noise(mostLeft))
	for _, from := range noEnds {
		for _, b := range [][]byte{nil, {7}, noise(mostLeft), make([]byte, mostLeft+1)} {
			sends(t, l, from, b, api.ErrArg)
		}
	}
	holds(t, l, []byte("one"), noise(mostLeft))
}

// P12.1: up to 2^18 bytes are in flight each way, in whatever parts; of more nothing is sent.
func TestSendFull(t *testing.T) {
	all := noise(mostLeft)
	for from := 1; from <= 2; from++ {
		for _, part := range []int{1000, 1 << 14, 1 << 17, mostLeft - 1, mostLeft} {
			l := link.New()
			sends(t, l, from, make([]byte, mostLeft+1), api.ErrFull)
			sends(t, l, from, make([]byte, 1<<20), api.ErrFull)
			for b := range slices.Chunk(all, part) {
				sends(t, l, from, make([]byte, mostLeft+1-l.Left(other(from))), api.ErrFull)
				sends(t, l, from, b, api.OK)
			}
			for _, n := range []int{1, 2, mostLeft, mostLeft + 1} {
				sends(t, l, from, make([]byte, n), api.ErrFull)
			}
			sends(t, l, from, nil, api.OK)
			delivers(t, l, other(from), mostLeft, all)
		}
	}
}

// P12.1: what is full one way leaves all room the other way.
func TestFullOneWay(t *testing.T) {
	for from := 1; from <= 2; from++ {
		l := link.New()
		sends(t, l, from, noise(mostLeft), api.OK)
		sends(t, l, from, []byte{1}, api.ErrFull)
		sends(t, l, other(from), make([]byte, mostLeft), api.OK)
		sends(t, l, other(from), []byte{1}, api.ErrFull)
		delivers(t, l, from, mostLeft, make([]byte, mostLeft))
		sends(t, l, from, []byte{1}, api.ErrFull)
		delivers(t, l, other(from), mostLeft, noise(mostLeft))
	}
}

// P12.2: what was delivered makes room for as many bytes, and no more.
func TestSendBehindDeliver(t *testing.T) {
	all := noise(mostLeft + 100)
	l := link.New()
	sends(t, l, 1, all[:mostLeft], api.OK)
	delivers(t, l, 2, 100, all[:100])
	sends(t, l, 1, make([]byte, 101), api.ErrFull)
	sends(t, l, 1, all[mostLeft:], api.OK)
	sends(t, l, 1, []byte{1}, api.ErrFull)
	delivers(t, l, 2, mostLeft, all[100:])
}

// P12.2: Deliver of each number of bytes; of more than there are all come.
func TestDeliver(t *testing.T) {
	all := noise(40)
	for to := 1; to <= 2; to++ {
		for n := range 60 {
			l := link.New()
			sends(t, l, other(to), all, api.OK)
			sends(t, l, to, []byte("back"), api.OK)
			first := min(n, len(all))
			delivers(t, l, to, n, all[:first])
			delivers(t, l, to, 0, nil)
			delivers(t, l, to, len(all), all[first:])
			delivers(t, l, to, len(all), nil)
			delivers(t, l, other(to), 4, []byte("back"))
		}
		for _, n := range beyond {
			for _, b := range [][]byte{nil, {1}, all, noise(mostLeft)} {
				l := link.New()
				sends(t, l, other(to), b, api.OK)
				delivers(t, l, to, n, b)
			}
		}
	}
}

// P12.2: of no end, or of a number below 0, ErrArg, whatever is in flight.
func TestDeliverErrors(t *testing.T) {
	for _, l := range []*link.Link{link.New(), with(t, []byte("one"), []byte("two")), with(t, nil, noise(mostLeft))} {
		for _, n := range slices.Concat(below, []int{0, 1, 3}, beyond) {
			for _, to := range noEnds {
				refuses(t, l, to, n, api.ErrArg)
			}
		}
		for _, n := range below {
			refuses(t, l, 1, n, api.ErrArg)
			refuses(t, l, 2, n, api.ErrArg)
		}
	}
	l := with(t, []byte("one"), []byte("two"))
	refuses(t, l, 0, 1, api.ErrArg)
	refuses(t, l, 1, -1, api.ErrArg)
	holds(t, l, []byte("one"), []byte("two"))
}

// P12.2: Left of no end.
func TestLeftOfNoEnd(t *testing.T) {
	l := with(t, []byte("one"), noise(1000))
	for _, to := range noEnds {
		if n := l.Left(to); n != 0 {
			t.Errorf("Left(%d) = %d", to, n)
		}
	}
}

// P12.3: a reset loses what is in flight, either way, and gives all room back; bytes go on behind it.
func TestReset(t *testing.T) {
	l := link.New()
	for i := range 5 {
		sends(t, l, 1, noise(mostLeft), api.OK)
		sends(t, l, 2, noise(mostLeft-1), api.OK)
		delivers(t, l, 2, 10, noise(10))
		resets(t, l)
		holds(t, l, nil, nil)
		sends(t, l, 1, []byte("new"), api.OK)
		sends(t, l, 2, []byte("also"), api.OK)
		holds(t, l, []byte("also"), []byte("new"))
		if l.Epoch() != int64(i+1) {
			t.Errorf("Epoch = %d behind %d resets", l.Epoch(), i+1)
		}
	}
	for range 1000 {
		resets(t, l)
	}
}

// P12.3: the epoch is changed by resets alone.
func TestEpoch(t *testing.T) {
	l := link.New()
	resets(t, l)
	sends(t, l, 1, noise(mostLeft), api.OK)
	sends(t, l, 1, []byte{1}, api.ErrFull)
	sends(t, l, 0, []byte{1}, api.ErrArg)
	delivers(t, l, 2, mostLeft, noise(mostLeft))
	refuses(t, l, 1, -1, api.ErrArg)
	l.Copy().Reset()
	if l.Epoch() != 1 {
		t.Errorf("Epoch = %d", l.Epoch())
	}
}

// P12.3: a copy has all the same.
func TestCopy(t *testing.T) {
	for _, n := range []int{0, 1, 100, mostLeft} {
		for _, gone := range []int{0, 1, 50, mostLeft} {
			l := with(t, noise(n), noise(n + 1)[1:])
			resets(t, l)
			sends(t, l, 2, noise(n), api.OK)
			sends(t, l, 1, noise(n + 1)[1:], api.OK)
			gone := min(gone, n)
			delivers(t, l, 1, gone, noise(n)[:gone])
			for _, c := range []*link.Link{l.Copy(), l.Copy().Copy()} {
				left(t, c, n-gone, n)
				if c.Epoch() != 1 {
					t.Errorf("Epoch = %d", c.Epoch())
				}
				holds(t, c, noise(n)[gone:], noise(n + 1)[1:])
			}
			holds(t, l, noise(n)[gone:], noise(n + 1)[1:])
		}
	}
}

// P12.3: a copy lives apart, whatever is done to either.
func TestCopyLivesApart(t *testing.T) {
	one, two := noise(100), noise(300)[100:]
	for _, do := range []func(l *link.Link){
		func(l *link.Link) { resets(t, l) },
		func(l *link.Link) { delivers(t, l, 1, 7, one[3:10]) },
		func(l *link.Link) { delivers(t, l, 2, 7, two[5:12]) },
		func(l *link.Link) { sends(t, l, 1, []byte("more"), api.OK) },
		func(l *link.Link) { sends(t, l, 2, make([]byte, mostLeft-97), api.OK) },
		func(l *link.Link) {
			b, _ := l.Deliver(1, 50)
			clear(b[:cap(b)])
			b, _ = l.Deliver(2, 50)
			clear(b[:cap(b)])
		},
	} {
		for _, first := range []bool{true, false} {
			l := with(t, one, two)
			delivers(t, l, 1, 3, one[:3])
			delivers(t, l, 2, 5, two[:5])
			c := l.Copy()
			if !first {
				l, c = c, l
			}
			do(l)
			left(t, c, 97, 195)
			if c.Epoch() != 0 {
				t.Errorf("Epoch = %d", c.Epoch())
			}
			sends(t, c, 1, []byte("end"), api.OK)
			sends(t, c, 2, []byte("last"), api.OK)
			holds(t, c, slices.Concat(one[3:], []byte("last")), slices.Concat(two[5:], []byte("end")))
		}
	}
}

// P12.3: what is sent on a link and on its copy, in turns, does not meet.
func TestCopiesInTurns(t *testing.T) {
	l := with(t, []byte("one"), []byte("two"))
	c := l.Copy()
	for i := range 1000 {
		for from := 1; from <= 2; from++ {
			sends(t, l, from, []byte{'l', byte(i)}, api.OK)
			sends(t, c, from, []byte{'c', byte(i)}, api.OK)
		}
	}
	for _, x := range []struct {
		l    *link.Link
		mark byte
	}{{l, 'l'}, {c, 'c'}} {
		delivers(t, x.l, 1, 3, []byte("one"))
		delivers(t, x.l, 2, 3, []byte("two"))
		for i := range 1000 {
			delivers(t, x.l, 1, 2, []byte{x.mark, byte(i)})
			delivers(t, x.l, 2, 2, []byte{x.mark, byte(i)})
		}
	}
}

// R3: a nil link, and one that New did not make, before and behind all calls.
func TestNoLink(t *testing.T) {
	for _, l := range []*link.Link{nil, {}, new(link.Link)} {
		for range 2 {
			for _, end := range append([]int{1, 2}, noEnds...) {
				for _, b := range [][]byte{nil, {}, {1}, make([]byte, mostLeft+1)} {
					sends(t, l, end, b, api.ErrNil)
				}
				for _, n := range slices.Concat(below, []int{0, 1}, beyond) {
					refuses(t, l, end, n, api.ErrNil)
				}
				if n := l.Left(end); n != 0 {
					t.Errorf("Left(%d) = %d", end, n)
				}
			}
			if err := l.Reset(); err != api.ErrNil {
				t.Errorf("Reset = %d", err)
			}
			if l.Epoch() != 0 || l.Copy() != nil {
				t.Errorf("Epoch = %d, or a copy", l.Epoch())
			}
		}
	}
}

// Links know nothing of one another.
func TestLinksApart(t *testing.T) {
	a, b := with(t, []byte("one"), []byte("two")), link.New()
	left(t, b, 0, 0)
	sends(t, b, 1, noise(mostLeft), api.OK)
	resets(t, b)
	left(t, a, 3, 3)
	if a.Epoch() != 0 {
		t.Errorf("Epoch = %d", a.Epoch())
	}
	holds(t, a, []byte("one"), []byte("two"))
}

// R4: a link keeps nothing that is handed in, and changes neither that nor what stands behind it.
func TestSendIsNew(t *testing.T) {
	for cut := range 51 {
		memory := noise(100)
		l := link.New()
		sends(t, l, 1, memory[:cut], api.OK)
		sends(t, l, 2, memory[:cut], api.OK)
		sends(t, l, 1, memory[cut:50], api.OK)
		if !slices.Equal(memory, noise(100)) {
			t.Errorf("cut at %d: what was handed in is changed", cut)
		}
		clear(memory)
		sends(t, l, 2, []byte{9}, api.OK)
		holds(t, l, append(noise(100)[:cut], 9), noise(100)[:50])
		if !slices.Equal(memory, make([]byte, 100)) {
			t.Errorf("cut at %d: what was handed in is changed later", cut)
		}
	}
}

// R4: bytes that are given out are new memory: what is done to them, and behind them, is not seen by the link, nor by other parts, and the other way round.
func TestDeliverIsNew(t *testing.T) {
	all := noise(200)
	for n := range 30 {
		l := with(t, []byte("back"), all[:100])
		c := l.Copy()
		var parts [][]byte
		for at := 0; at+n <= 90; at += max(n, 10) {
			part, err := l.Deliver(2, n)
			if !slices.Equal(part, all[at:at+n]) || err != api.OK {
				t.Fatalf("Deliver(2, %d) behind %d = %x, %d", n, at, part, err)
			}
			parts = append(parts, part)
			delivers(t, l, 2, max(n, 10)-n, all[at+n:at+max(n, 10)])
		}
		kept := slices.Clone(parts[len(parts)-1])
		for _, part := range parts[:len(parts)-1] {
			_ = append(part, all...)
			clear(part[:cap(part)])
		}
		_ = append(parts[len(parts)-1], all...)
		rest := all[100-l.Left(2) : 100]
		sends(t, l, 1, all, api.OK)
		sends(t, l, 2, all, api.OK)
		if !slices.Equal(parts[len(parts)-1], kept) {
			t.Errorf("a part of %d bytes is changed behind its being given out", n)
		}
		holds(t, l, slices.Concat([]byte("back"), all), slices.Concat(rest, all))
		if !slices.Equal(parts[len(parts)-1], kept) {
			t.Errorf("a part of %d bytes is changed behind its being given out", n)
		}
		holds(t, c, []byte("back"), all[:100])
	}
}

// R4: a part that was given out may be sent again, on the same link too, and changed behind that.
func TestSendWhatCame(t *testing.T) {
	all := noise(100)
	for n := range 101 {
		for from := 1; from <= 2; from++ {
			l := with(t, all, all)
			part, err := l.Deliver(2, n)
			if !slices.Equal(part, all[:n]) || err != api.OK {
				t.Fatalf("Deliver(2, %d) = %d bytes, %d", n, len(part), err)
			}
			sends(t, l, from, part, api.OK)
			clear(part)
			delivers(t, l, 2, 100-n, all[n:])
			delivers(t, l, 1, 100, all)
			delivers(t, l, other(from), n, all[:n])
			left(t, l, 0, 0)
		}
	}
}

// P12.4: whatever the parts in which bytes are sent, and those in which they are delivered.
func TestParts(t *testing.T) {
	all := noise(5000)
	for _, in := range []int{1, 3, 64, 999, 5000} {
		for _, out := range []int{1, 2, 65, 1000, 5000, 6000} {
			l := link.New()
			sends(t, l, 2, []byte("back"), api.OK)
			var got []byte
			for b := range slices.Chunk(all, in) {
				sends(t, l, 1, b, api.OK)
				part, err := l.Deliver(2, out)
				if err != api.OK {
					t.Fatalf("Deliver = %d", err)
				}
				got = append(got, part...)
			}
			for l.Left(2) > 0 {
				part, _ := l.Deliver(2, out)
				got = append(got, part...)
			}
			if !slices.Equal(got, all) {
				t.Errorf("sent by %d, delivered by %d: %d bytes, or others", in, out, len(got))
			}
			holds(t, l, []byte("back"), nil)
		}
	}
}

// P12.4: a link that is nearly full goes on for long, byte by byte.
func TestOnAndOn(t *testing.T) {
	all := noise(3 * mostLeft)
	l := link.New()
	sends(t, l, 1, all[:mostLeft-1], api.OK)
	for at := mostLeft - 1; at < len(all); at++ {
		if err := l.Send(1, all[at:at+1]); err != api.OK {
			t.Fatalf("Send behind %d = %d", at, err)
		}
		b, err := l.Deliver(2, 1)
		if len(b) != 1 || b[0] != all[at-mostLeft+1] || err != api.OK {
			t.Fatalf("Deliver behind %d = %x, %d", at, b, err)
		}
	}
	holds(t, l, nil, all[len(all)-mostLeft+1:])
}

// model is a link by the chapter's words.
type model struct {
	flight [2][]byte
	epoch  int64
}

func (m *model) send(from int, b []byte) api.Errno {
	switch {
	case from != 1 && from != 2:
		return api.ErrArg
	case len(m.flight[2-from])+len(b) > mostLeft:
		return api.ErrFull
	}
	m.flight[2-from] = slices.Concat(m.flight[2-from], b)
	return api.OK
}

func (m *model) deliver(to, n int) ([]byte, api.Errno) {
	if to != 1 && to != 2 || n < 0 {
		return nil, api.ErrArg
	}
	n = min(n, len(m.flight[to-1]))
	part := slices.Clone(m.flight[to-1][:n])
	m.flight[to-1] = slices.Clone(m.flight[to-1][n:])
	return part, api.OK
}

// sides holds a link's looks against the model's.
func (m *model) sides(t *testing.T, l *link.Link) {
	t.Helper()
	left(t, l, len(m.flight[0]), len(m.flight[1]))
	if l.Epoch() != m.epoch {
		t.Fatalf("Epoch = %d, not %d", l.Epoch(), m.epoch)
	}
}

// randomEnd answers an end, mostly.
func randomEnd(r *rand.Rand) int {
	if r.Intn(20) == 0 {
		return r.Intn(7) - 2
	}
	return 1 + r.Intn(2)
}

// step does one thing to a link and to its model, and tells whether it was refused.
func step(t *testing.T, r *rand.Rand, l *link.Link, m *model) (refused bool) {
	t.Helper()
	switch k := r.Intn(40); {
	case k == 0:
		resets(t, l)
		*m = model{epoch: m.epoch + 1}
	case k < 20:
		from, b := randomEnd(r), make([]byte, r.Intn(1<<r.Intn(19)))
		r.Read(b)
		err, want := l.Send(from, b), m.send(from, b)
		if err != want {
			t.Fatalf("Send(%d) of %d bytes = %d, not %d", from, len(b), err, want)
		}
		return err == api.ErrFull
	default:
		to, n := randomEnd(r), r.Intn(1<<r.Intn(18))-r.Intn(3)
		b, err := l.Deliver(to, n)
		want, wantErr := m.deliver(to, n)
		if !slices.Equal(b, want) || err != wantErr {
			t.Fatalf("Deliver(%d, %d) = %d bytes, %d, not %d bytes, %d, or others", to, n, len(b), err, len(want), wantErr)
		}
		clear(b[:cap(b)])
	}
	return false
}

// P12.4, and all promises together: any calls in any order, on links and copies of them, against the model.
func TestAgainstModel(t *testing.T) {
	r := rand.New(rand.NewSource(121))
	full := 0
	for range 100 {
		links, models := []*link.Link{link.New()}, []*model{{}}
		for range 200 {
			i := r.Intn(len(links))
			if len(links) < 4 && r.Intn(50) == 0 {
				m := *models[i]
				links, models = append(links, links[i].Copy()), append(models, &m)
			}
			if step(t, r, links[i], models[i]) {
				full++
			}
			for i, m := range models {
				m.sides(t, links[i])
			}
		}
		for i, m := range models {
			holds(t, links[i], m.flight[0], m.flight[1])
		}
	}
	if full < 100 {
		t.Errorf("only %d times a link was full", full)
	}
}
