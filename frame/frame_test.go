package frame_test

import (
	"encoding/binary"
	"math"
	"math/rand"
	"slices"
	"testing"

	"caravan/api"
	"caravan/frame"
)

const (
	mostBody = 16384
	mostHeld = 1 << 17
)

// noKinds are none, some of them one of the nine, if some of their bits are lost.
var noKinds = []int{0, 10, 11, 15, 16, 127, 128, 255, 256, 257, 264, 265, 1<<16 + 1, 1<<32 + 1, 1<<32 + 9, -1, -2, -9, -255, -256, 1 - 1<<32, math.MaxInt32, math.MinInt32, math.MaxInt, math.MinInt, math.MinInt + 1}

// lengths are how many bytes of a body are tried out.
var lengths = []int{0, 1, 2, 3, 4, 5, 6, 127, 254, 255, 256, 257, 4095, 4096, 8191, mostBody - 2, mostBody - 1, mostBody}

// noLengths are more than a body may have.
var noLengths = []int{mostBody + 1, mostBody + 2, 1<<15 - 1, 1 << 15, 65535, 65536, 65537, 1<<17 + 5, 1 << 20}

// noCounts are none with which a frame begins.
var noCounts = []uint32{0, mostBody + 2, mostBody + 3, 1<<15 + 1, 65536, 65537, 1<<17 + 1, 1 << 24, 1<<24 + 1, 1 << 31, 1<<31 + 1, math.MaxUint32 - 1, math.MaxUint32}

// tooLong is more than a reader holds.
var tooLong = make([]byte, mostHeld+1)

// noise answers n bytes that look like no pattern, always the same ones.
func noise(n int) []byte {
	out := make([]byte, n)
	rand.New(rand.NewSource(10)).Read(out)
	return out
}

// piece is a frame's kind and body.
type piece struct {
	kind int
	body []byte
}

func same(a, b piece) bool { return a.kind == b.kind && slices.Equal(a.body, b.body) }

// inBytes is a frame, by the library.
func (p piece) inBytes() []byte {
	out := binary.BigEndian.AppendUint32(nil, uint32(len(p.body)+1))
	return append(append(out, byte(p.kind)), p.body...)
}

// stream answers the bytes of frames, one behind the other.
func stream(l ...piece) []byte {
	var out []byte
	for _, p := range l {
		out = append(out, p.inBytes()...)
	}
	return out
}

// put is Put of what it takes.
func put(t *testing.T, kind int, body []byte) []byte {
	t.Helper()
	b, err := frame.Put(kind, body)
	if err != api.OK {
		t.Fatalf("Put(%d) of %d bytes = %d", kind, len(body), err)
	}
	return b
}

// with answers a reader that holds bytes.
func with(t *testing.T, b ...byte) *frame.Reader {
	t.Helper()
	r := frame.NewReader()
	pushes(t, r, b, api.OK)
	return r
}

// pushes holds Push against what it is to answer; what is an error changes nothing.
func pushes(t *testing.T, r *frame.Reader, b []byte, want api.Errno) {
	t.Helper()
	held, broken := r.Held(), r.Broken()
	if want == api.OK {
		held += len(b)
	}
	if err := r.Push(b); err != want {
		t.Errorf("Push of %d bytes = %d, not %d", len(b), err, want)
	}
	holds(t, r, held, broken)
}

// holds holds a reader's looks against what they are to be.
func holds(t *testing.T, r *frame.Reader, held int, broken bool) {
	t.Helper()
	if r.Held() != held || r.Broken() != broken {
		t.Errorf("Held = %d, Broken = %t, not %d, %t", r.Held(), r.Broken(), held, broken)
	}
}

// gives holds Next against a frame, whose bytes are held no more.
func gives(t *testing.T, r *frame.Reader, want piece) {
	t.Helper()
	held := r.Held()
	kind, body, ok, err := r.Next()
	if !same(piece{kind, body}, want) || !ok || err != api.OK {
		t.Fatalf("Next = %d, %d bytes, %t, %d, not %d, %d bytes", kind, len(body), ok, err, want.kind, len(want.body))
	}
	holds(t, r, held-5-len(want.body), false)
}

// waits holds Next against false, which changes nothing.
func waits(t *testing.T, r *frame.Reader) {
	t.Helper()
	held := r.Held()
	if kind, body, ok, err := r.Next(); kind != 0 || len(body) != 0 || ok || err != api.OK {
		t.Fatalf("Next = %d, %x, %t, %d", kind, body, ok, err)
	}
	holds(t, r, held, false)
}

// refuses holds Next against an error, with zero values beside.
func refuses(t *testing.T, r *frame.Reader, want api.Errno) {
	t.Helper()
	if kind, body, ok, err := r.Next(); kind != 0 || len(body) != 0 || ok || err != want {
		t.Fatalf("Next = %d, %x, %t, %d, not %d", kind, body, ok, err, want)
	}
}

// breaks asks a reader that breaks now: it stays so for good, whatever it is asked, and whatever comes in.
func breaks(t *testing.T, r *frame.Reader) {
	t.Helper()
	held := r.Held()
	holds(t, r, held, false)
	for range 3 {
		refuses(t, r, api.ErrForm)
		holds(t, r, held, true)
		for _, b := range [][]byte{nil, {}, {0}, {0, 0, 0, 1, 8}, tooLong} {
			pushes(t, r, b, api.ErrForm)
			refuses(t, r, api.ErrForm)
			holds(t, r, held, true)
		}
	}
}

// The chapter's examples.
func TestExamples(t *testing.T) {
	for _, x := range []struct {
		kind int
		body []byte
		want []byte
		err  api.Errno
	}{
		{8, nil, []byte{0, 0, 0, 1, 8}, api.OK},
		{5, []byte{0xab, 0xcd}, []byte{0, 0, 0, 3, 5, 0xab, 0xcd}, api.OK},
		{0, nil, nil, api.ErrArg},
		{10, nil, nil, api.ErrArg},
	} {
		if got, err := frame.Put(x.kind, x.body); !slices.Equal(got, x.want) || err != x.err {
			t.Errorf("Put(%d, %x) = %x, %d", x.kind, x.body, got, err)
		}
	}
	r := with(t, 0, 0, 0, 3, 5, 0xab)
	waits(t, r)
	pushes(t, r, []byte{0xcd, 0, 0}, api.OK)
	gives(t, r, piece{5, []byte{0xab, 0xcd}})
	waits(t, r)
	holds(t, r, 2, false)
	r = with(t, 0, 0, 0, 0)
	refuses(t, r, api.ErrForm)
	holds(t, r, 4, true)
	pushes(t, r, []byte{1}, api.ErrForm)
	holds(t, r, 4, true)
	refuses(t, with(t, 0, 0, 0, 3, 10), api.ErrForm)
	refuses(t, with(t, 0, 0, 0x40, 2), api.ErrForm)
	waits(t, with(t, 0, 0, 0x40, 1))
}

// P10.1: Put of each kind and of bodies up to the longest one.
func TestPut(t *testing.T) {
	for kind := 1; kind <= 9; kind++ {
		for _, n := range lengths {
			body := noise(n)
			if got, want := put(t, kind, body), (piece{kind, body}).inBytes(); !slices.Equal(got, want) {
				t.Errorf("Put(%d) of %d bytes: %d bytes that begin with %x", kind, n, len(got), got[:5])
			}
		}
	}
}

// P10.1: Put of no kind, ahead of bodies that are too long; nothing beside an error.
func TestPutErrors(t *testing.T) {
	for _, kind := range noKinds {
		for _, n := range append(slices.Clone(noLengths), 0, 1, mostBody) {
			if got, err := frame.Put(kind, make([]byte, n)); len(got) != 0 || err != api.ErrArg {
				t.Errorf("Put(%d) of %d bytes = %d bytes, %d", kind, n, len(got), err)
			}
		}
	}
	for kind := 1; kind <= 9; kind++ {
		for _, n := range noLengths {
			if got, err := frame.Put(kind, make([]byte, n)); len(got) != 0 || err != api.ErrLong {
				t.Errorf("Put(%d) of %d bytes = %d bytes, %d", kind, n, len(got), err)
			}
		}
	}
}

// R4: Put neither changes nor keeps the body, nor what stands behind it; each answer is new memory.
func TestPutIsNew(t *testing.T) {
	for _, n := range []int{0, 1, 7, 1000} {
		memory := noise(n + 100)
		body := memory[:n]
		first, second := put(t, 5, body), put(t, 5, body)
		clear(first[:cap(first)])
		_ = append(second, 0xaa, 0xbb)
		if !slices.Equal(memory, noise(n+100)) {
			t.Errorf("of %d bytes: what was handed in is changed", n)
		}
		clear(memory)
		if want := (piece{5, noise(n + 100)[:n]}).inBytes(); !slices.Equal(second, want) {
			t.Errorf("of %d bytes: %x, not %x", n, second, want)
		}
	}
}

// P10.2: up to 2^17 bytes come in, in whatever parts; of more nothing does.
func TestPushLong(t *testing.T) {
	l := slices.Repeat([]piece{{3, noise(mostBody)}}, mostHeld/(mostBody+5))
	all := append(stream(l...), stream(piece{9, noise(mostHeld)[:mostHeld-len(stream(l...))-5]})...)
	l = append(l, piece{9, all[len(stream(l...))+5:]})
	for _, part := range []int{1, 7, 1000, 1 << 15, mostHeld - 1, mostHeld} {
		r := frame.NewReader()
		pushes(t, r, tooLong, api.ErrLong)
		pushes(t, r, make([]byte, 1<<20), api.ErrLong)
		for b := range slices.Chunk(all, part) {
			if err := r.Push(b); err != api.OK {
				t.Fatalf("Push, behind %d bytes = %d", r.Held(), err)
			}
		}
		holds(t, r, mostHeld, false)
		for _, n := range []int{1, 2, 5, mostHeld, mostHeld + 1} {
			pushes(t, r, make([]byte, n), api.ErrLong)
		}
		pushes(t, r, nil, api.OK)
		for _, p := range l {
			gives(t, r, p)
		}
		waits(t, r)
		holds(t, r, 0, false)
	}
}

// P10.2: what was given out makes room for as many bytes, and no more.
func TestPushBehindNext(t *testing.T) {
	first, rest := piece{4, noise(100)}, noise(mostHeld)[:mostHeld-105]
	r := with(t, append(first.inBytes(), rest...)...)
	pushes(t, r, []byte{1}, api.ErrLong)
	gives(t, r, first)
	pushes(t, r, make([]byte, 106), api.ErrLong)
	pushes(t, r, make([]byte, 105), api.OK)
	pushes(t, r, make([]byte, 1), api.ErrLong)
	holds(t, r, mostHeld, false)
}

// P10.2: a reader that goes on for long holds no more than what did not come out.
func TestPushOnAndOn(t *testing.T) {
	r := frame.NewReader()
	for i := range 4000 {
		p := piece{1 + i%9, noise(i % 500)}
		pushes(t, r, p.inBytes(), api.OK)
		gives(t, r, p)
		waits(t, r)
		holds(t, r, 0, false)
	}
}

// P10.3: Next of a frame that is cut anywhere waits for what is not there; of a whole one it gives it, and what is behind it stays.
func TestNext(t *testing.T) {
	for kind := 1; kind <= 9; kind++ {
		for _, n := range []int{0, 1, 2, 3, 255, 256, 300} {
			p := piece{kind, noise(n)}
			all := p.inBytes()
			for cut := range len(all) {
				r := with(t, all[:cut]...)
				waits(t, r)
				waits(t, r)
				pushes(t, r, all[cut:], api.OK)
				gives(t, r, p)
				waits(t, r)
				for _, more := range [][]byte{{0}, {0, 0, 0, 1}, all[:cut], all} {
					r := with(t, append(slices.Clone(all), more...)...)
					gives(t, r, p)
					holds(t, r, len(more), false)
				}
			}
		}
	}
	waits(t, frame.NewReader())
}

// P10.3: Next of the longest frame, and of one that is cut one byte ahead of its end.
func TestNextLong(t *testing.T) {
	for kind := 1; kind <= 9; kind++ {
		p := piece{kind, noise(mostBody)}
		all := p.inBytes()
		for _, cut := range []int{0, 4, 5, 6, 255, 256, mostBody, len(all) - 1} {
			r := with(t, all[:cut]...)
			waits(t, r)
			pushes(t, r, all[cut:], api.OK)
			gives(t, r, p)
			holds(t, r, 0, false)
		}
	}
}

// What breaks a reader: a number that is none, as soon as its four bytes are there, whatever is behind them; and not until it is asked.
func TestCountThatBreaks(t *testing.T) {
	for _, count := range noCounts {
		all := binary.BigEndian.AppendUint32(nil, count)
		for cut := range 4 {
			r := with(t, all[:cut]...)
			waits(t, r)
			pushes(t, r, all[cut:], api.OK)
			pushes(t, r, []byte{8}, api.OK)
			breaks(t, r)
		}
		for _, more := range [][]byte{nil, {0}, {1}, {9}, {10}, {8, 0, 0, 0, 1, 8}, noise(mostBody + 10)} {
			breaks(t, with(t, append(slices.Clone(all), more...)...))
		}
	}
	for _, count := range []uint32{1, 2, 255, 256, 257, mostBody, mostBody + 1} {
		waits(t, with(t, binary.BigEndian.AppendUint32(nil, count)...))
	}
}

// What breaks a reader: a fifth byte that is no kind, though the body is not there.
func TestKindThatBreaks(t *testing.T) {
	for _, count := range []uint32{1, 2, 255, 256, mostBody, mostBody + 1} {
		for kind := range 256 {
			r := with(t, binary.BigEndian.AppendUint32(nil, count)...)
			waits(t, r)
			pushes(t, r, []byte{byte(kind)}, api.OK)
			switch {
			case kind < 1 || kind > 9:
				breaks(t, r)
			case count == 1:
				gives(t, r, piece{kind, nil})
			default:
				waits(t, r)
				pushes(t, r, noise(int(count)-1), api.OK)
				gives(t, r, piece{kind, noise(int(count) - 1)})
			}
		}
	}
}

// A reader breaks behind the frames that are whole, and holds what was not given out.
func TestBreaksBehindFrames(t *testing.T) {
	l := []piece{{1, []byte{3}}, {8, nil}, {2, noise(1000)}}
	for _, bad := range [][]byte{{0, 0, 0, 0}, {0, 0, 0x40, 2}, {0xff, 0xff, 0xff, 0xff, 1}, {0, 0, 0, 1, 0}, {0, 0, 0, 9, 10, 7}, append([]byte{0, 0, 0, 0}, stream(l...)...)} {
		all := append(stream(l...), bad...)
		for cut := range len(all) + 1 {
			r := with(t, all[:cut]...)
			pushes(t, r, all[cut:], api.OK)
			for _, p := range l {
				gives(t, r, p)
			}
			holds(t, r, len(bad), false)
			breaks(t, r)
		}
	}
}

// R4: a reader keeps nothing that is handed in, and changes neither that nor what stands behind it.
func TestPushIsNew(t *testing.T) {
	p := piece{6, noise(50)}
	for cut := range len(p.inBytes()) + 1 {
		memory := stream(p, p)
		r := frame.NewReader()
		pushes(t, r, memory[:cut], api.OK)
		if cut == 55 {
			gives(t, r, p)
		} else {
			waits(t, r)
		}
		pushes(t, r, memory[cut:70], api.OK)
		if !slices.Equal(memory, stream(p, p)) {
			t.Errorf("cut at %d: what was handed in is changed", cut)
		}
		clear(memory[:70])
		pushes(t, r, memory[70:], api.OK)
		clear(memory)
		if cut < 55 {
			gives(t, r, p)
		}
		gives(t, r, p)
		waits(t, r)
	}
}

// R4: bytes that are given out are new memory: what is done to them, and behind them, is not seen by the reader, nor by other frames, and the other way round.
func TestBodiesAreNew(t *testing.T) {
	l := []piece{{1, noise(10)}, {2, nil}, {3, noise(20)}, {4, noise(5)}, {5, noise(300)}}
	for _, late := range []int{0, 1, 30, 60} {
		all := stream(l...)
		r := with(t, all[:len(all)-late]...)
		var bodies [][]byte
		for i := range l[:4] {
			kind, body, ok, err := r.Next()
			if !same(piece{kind, body}, l[i]) || !ok || err != api.OK {
				t.Fatalf("Next = %d, %x, %t, %d", kind, body, ok, err)
			}
			bodies = append(bodies, body)
			if i%2 == 0 {
				clear(body[:cap(body)])
			} else {
				_ = append(body, noise(400)...)
			}
		}
		pushes(t, r, all[len(all)-late:], api.OK)
		pushes(t, r, all, api.OK)
		clear(bodies[2])
		if !slices.Equal(bodies[3], l[3].body) {
			t.Errorf("a body is changed behind its being given out: %x", bodies[3])
		}
		gives(t, r, l[4])
		for _, p := range l {
			gives(t, r, p)
		}
	}
}

// R3: a nil reader, and one that NewReader did not make, before and behind all calls.
func TestNoReader(t *testing.T) {
	for _, r := range []*frame.Reader{nil, {}, new(frame.Reader)} {
		for range 2 {
			for _, b := range [][]byte{nil, {}, {0, 0, 0, 0}, {0, 0, 0, 1, 8}, tooLong} {
				pushes(t, r, b, api.ErrNil)
				refuses(t, r, api.ErrNil)
				holds(t, r, 0, false)
			}
		}
	}
}

// Readers know nothing of one another.
func TestReadersApart(t *testing.T) {
	a, b := frame.NewReader(), frame.NewReader()
	pushes(t, a, []byte{0, 0, 0, 2, 7}, api.OK)
	holds(t, b, 0, false)
	pushes(t, b, []byte{0, 0, 0, 0}, api.OK)
	breaks(t, b)
	pushes(t, a, []byte{1}, api.OK)
	gives(t, a, piece{7, []byte{1}})
}

// randomPieces answers some frames, most of them short.
func randomPieces(r *rand.Rand) []piece {
	l := make([]piece, r.Intn(8))
	for i := range l {
		body := make([]byte, r.Intn(1<<r.Intn(12)))
		r.Read(body)
		l[i] = piece{1 + r.Intn(9), body}
	}
	return l
}

// all asks until there is no frame.
func all(t *testing.T, r *frame.Reader) []piece {
	t.Helper()
	var l []piece
	for {
		kind, body, ok, err := r.Next()
		if !ok || err != api.OK {
			return l
		}
		l = append(l, piece{kind, body})
	}
}

// P10.4: frames come out as they were, in whatever parts their bytes come in, and whenever one asks; put again they are what came in.
func TestBack(t *testing.T) {
	r := rand.New(rand.NewSource(104))
	for range 500 {
		l := randomPieces(r)
		var in []byte
		for _, p := range l {
			in = append(in, put(t, p.kind, p.body)...)
		}
		reader := frame.NewReader()
		var out []piece
		for left := in; len(left) > 0; {
			n := min(len(left), r.Intn(1<<r.Intn(13)))
			pushes(t, reader, left[:n], api.OK)
			left = left[n:]
			switch r.Intn(3) {
			case 0:
				out = append(out, all(t, reader)...)
			case 1:
				if kind, body, ok, _ := reader.Next(); ok {
					out = append(out, piece{kind, body})
				}
			}
		}
		out = append(out, all(t, reader)...)
		holds(t, reader, 0, false)
		if !slices.EqualFunc(out, l, same) {
			t.Fatalf("of %d frames %d came out, or others", len(l), len(out))
		}
		var again []byte
		for _, p := range out {
			again = append(again, put(t, p.kind, p.body)...)
		}
		if !slices.Equal(again, in) {
			t.Fatal("put again they are not what came in")
		}
	}
}

// P10.4: byte by byte, asked behind each of them, and asked at the end alone.
func TestByteByByte(t *testing.T) {
	l := []piece{{1, noise(1)}, {2, noise(mostBody)}, {8, nil}, {3, noise(700)}, {8, nil}}
	in := stream(l...)
	often, once := frame.NewReader(), frame.NewReader()
	var out []piece
	for i := range in {
		pushes(t, often, in[i:i+1], api.OK)
		pushes(t, once, in[i:i+1], api.OK)
		out = append(out, all(t, often)...)
	}
	if !slices.EqualFunc(out, l, same) || !slices.EqualFunc(all(t, once), l, same) {
		t.Error("not the frames that were put")
	}
	holds(t, often, 0, false)
	holds(t, once, 0, false)
}

// model is a reader by the chapter's words.
type model struct {
	held   []byte
	broken bool
}

func (m *model) push(b []byte) api.Errno {
	switch {
	case m.broken:
		return api.ErrForm
	case len(m.held)+len(b) > mostHeld:
		return api.ErrLong
	}
	m.held = slices.Concat(m.held, b)
	return api.OK
}

func (m *model) next() (p piece, ok bool, err api.Errno) {
	if len(m.held) >= 4 {
		count := binary.BigEndian.Uint32(m.held)
		m.broken = m.broken || count == 0 || count > 16385
	}
	if len(m.held) >= 5 {
		m.broken = m.broken || m.held[4] < 1 || m.held[4] > 9
	}
	if m.broken {
		return piece{}, false, api.ErrForm
	}
	if len(m.held) < 5 {
		return piece{}, false, api.OK
	}
	end := 4 + int(binary.BigEndian.Uint32(m.held))
	if len(m.held) < end {
		return piece{}, false, api.OK
	}
	p = piece{int(m.held[4]), slices.Clone(m.held[5:end])}
	m.held = m.held[end:]
	return p, true, api.OK
}

// randomBytes are frames, some with a byte that is another one, with few or many bytes that may be anything, or more than a reader holds.
func randomBytes(r *rand.Rand) []byte {
	b := stream(randomPieces(r)...)
	switch r.Intn(12) {
	case 0:
		if len(b) > 0 {
			b[r.Intn(len(b))] = byte(r.Intn(256))
		}
	case 1:
		b = b[:r.Intn(len(b)+1)]
	case 2:
		b = []byte{0, 0, byte(r.Intn(256) >> r.Intn(9)), byte(r.Intn(3)), byte(r.Intn(11))}
	case 3:
		b = make([]byte, r.Intn(1<<18))
	}
	return b
}

// Any bytes, pushed and asked for in any order, against the model; what comes out, put again, is what came in.
func TestAgainstModel(t *testing.T) {
	r := rand.New(rand.NewSource(105))
	frames, broken, long := 0, 0, 0
	for range 1500 {
		reader, m := frame.NewReader(), &model{}
		var in, again []byte
		for range r.Intn(60) {
			if r.Intn(2) == 0 {
				b := randomBytes(r)
				err := reader.Push(b)
				if want := m.push(b); err != want {
					t.Fatalf("Push of %d bytes = %d, not %d", len(b), err, want)
				}
				switch err {
				case api.OK:
					in = append(in, b...)
				case api.ErrLong:
					long++
				}
			} else {
				kind, body, ok, err := reader.Next()
				p, wantOK, want := m.next()
				if !same(piece{kind, body}, p) || ok != wantOK || err != want {
					t.Fatalf("Next = %d, %d bytes, %t, %d, not %d, %d bytes, %t, %d", kind, len(body), ok, err, p.kind, len(p.body), wantOK, want)
				}
				if ok {
					frames++
					again = append(again, put(t, kind, body)...)
				}
			}
			holds(t, reader, len(m.held), m.broken)
			if len(again)+reader.Held() != len(in) || !slices.Equal(again, in[:len(again)]) {
				t.Fatal("what came out, put again, is not what came in")
			}
		}
		if m.broken {
			broken++
		}
	}
	if frames < 5000 || broken < 300 || long < 300 {
		t.Errorf("only %d frames, %d broken readers, %d pushes of too many bytes", frames, broken, long)
	}
}
