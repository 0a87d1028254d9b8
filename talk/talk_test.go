package talk_test

import (
	"bytes"
	"encoding/binary"
	"encoding/hex"
	"math"
	"math/rand"
	"slices"
	"strings"
	"testing"

	"caravan/api"
	"caravan/block"
	"caravan/message"
	"caravan/talk"
)

const (
	mostTime   = 1 << 62
	mostBody   = 16384
	pingAfter  = 60
	closeAfter = 150
)

// noDevices are none, some of them one of the sixteen, if some of their bits are lost.
var noDevices = []int{0, 17, 18, 32, 127, 128, 255, 256, 257, 258, 1<<16 + 1, 1<<32 + 1, 1<<32 + 2, -1, -2, -16, -255, 1 - 1<<32, math.MaxInt32, math.MinInt32, math.MaxInt, math.MinInt, math.MinInt + 1}

// noTimes are none at which a talk is made.
var noTimes = []int64{-1, -2, -1 << 31, -1 << 62, math.MinInt64, math.MinInt64 + 1, mostTime + 1, mostTime + 2, math.MaxInt64 - 1, math.MaxInt64}

// noKinds are none, some of them one of the nine, if some of their bits are lost.
var noKinds = []int{0, 10, 11, 15, 16, 127, 128, 255, 256, 257, 258, 264, 265, 1<<16 + 1, 1<<32 + 2, 1<<32 + 9, -1, -2, -9, -255, 2 - 1<<32, math.MaxInt32, math.MinInt32, math.MaxInt, math.MinInt, math.MinInt + 2}

// frameOf answers a frame by the words of chapter 10.
func frameOf(kind int, body []byte) []byte {
	b := binary.BigEndian.AppendUint32(nil, uint32(len(body)+1))
	return append(append(b, byte(kind)), body...)
}

// bytesOf answers the frames of messages, one behind the other.
func bytesOf(t *testing.T, l ...api.Message) []byte {
	t.Helper()
	var out []byte
	for _, m := range l {
		body, err := message.Put(m)
		if err != api.OK {
			t.Fatalf("message.Put of %v = %d", m, err)
		}
		out = append(out, frameOf(m.Kind, body)...)
	}
	return out
}

func unhex(t *testing.T, text string) []byte {
	t.Helper()
	b, err := hex.DecodeString(strings.ReplaceAll(text, " ", ""))
	if err != nil {
		t.Fatal(err)
	}
	return b
}

func hello(dev int) api.Message { return api.Message{Kind: api.MHello, Device: dev} }

func config(l ...api.Share) api.Message { return api.Message{Kind: api.MConfig, Shares: l} }

func update(folder int) api.Message { return api.Message{Kind: api.MUpdate, Folder: folder} }

func closeOf(e api.Errno) api.Message { return api.Message{Kind: api.MClose, Err: e} }

var ping = api.Message{Kind: api.MPing}

func fileOf(p string, size int) api.Record {
	r := api.Record{Path: p, Kind: api.KFile, Size: size, BlockSize: block.Size(size), Time: 7, By: 1, Vector: api.Vector{7}}
	for i := range block.Count(size) {
		r.Blocks = append(r.Blocks, api.Hash{byte(i), 31: byte(size)})
	}
	return r
}

// plain answers a message of a kind, with something in each field that it names; a hello is one of the device 2.
func plain(kind int) api.Message {
	m := api.Message{Kind: kind}
	switch kind {
	case api.MHello:
		m.Device = 2
	case api.MConfig:
		m.Shares = []api.Share{{Folder: 1, Mode: 1, IndexID: 9, Seq: 5, Known: 8, KnownSeq: 6}, {Folder: 3, Mode: 2}}
	case api.MIndex, api.MUpdate:
		m.Folder, m.Records = 2, []api.Record{fileOf("a/b", 40), fileOf("c", 4096)}
	case api.MRequest:
		m.ID, m.Folder, m.Path, m.Off, m.Size, m.Hash = 7, 1, "a/b", 16, 16, api.Hash{1, 2, 31: 3}
	case api.MResponse:
		m.ID, m.Data = 7, "xy"
	case api.MProgress:
		m.Folder, m.Path, m.Have = 1, "a", []int{0, 5, 31}
	case api.MClose:
		m.Err = api.ErrPeer
	}
	return m
}

// noMessages are, by kinds, bodies that are no message of theirs.
func noMessages(t *testing.T) map[int][][]byte {
	t.Helper()
	out := map[int][][]byte{
		api.MHello:    {nil, {0}, {17}, {255}, {2, 2}},
		api.MConfig:   {nil, {0}, {0, 0, 0}, {0, 1}, {0, 5}},
		api.MIndex:    {nil, {1}, {0, 0, 0}, {5, 0, 0}, {1, 0, 17}, {1, 0, 1}},
		api.MUpdate:   {nil, {1}, {0, 0, 0}, {5, 0, 0}, {1, 0, 17}, {1, 0, 1}},
		api.MRequest:  {nil, {0, 0, 0, 7, 1, 0, 1, '/'}},
		api.MResponse: {nil, {128, 0, 0, 7, 0, 0, 0}, {0, 0, 0, 7, 5, 0, 1, 'x'}, {0, 0, 0, 7, 0, 0, 2, 'x'}},
		api.MProgress: {nil, {1, 0, 1, '/', 0, 0}, {1, 0, 1, 'a', 0, 2, 5, 0}, {1, 0, 1, 'a', 0, 1, 32}},
		api.MPing:     {{0}, {8}},
		api.MClose:    {nil, {0, 0}},
	}
	for kind := range out {
		b := bytesOf(t, plain(kind))[5:]
		out[kind] = append(out[kind], slices.Concat(b, []byte{0}), make([]byte, mostBody))
		if len(b) > 0 {
			out[kind] = append(out[kind], b[:len(b)-1])
		}
	}
	return out
}

// noFrames begin none.
func noFrames(t *testing.T) [][]byte {
	t.Helper()
	var out [][]byte
	for _, x := range []string{"00000000", "00004002", "00008001", "00010001", "01000001", "80000001", "ffffffff", "0000000100", "000000010a", "00000001ff", "000040010a", "0000000300"} {
		out = append(out, unhex(t, x))
	}
	return out
}

// made answers a talk of 1 with 2.
func made(t *testing.T, now int64) *talk.Talk {
	t.Helper()
	k, err := talk.New(1, 2, now)
	if k == nil || err != api.OK {
		t.Fatalf("New(1, 2, %d) = %v, %d", now, k, err)
	}
	return k
}

// begun answers a talk of 1 with 2 that has begun.
func begun(t *testing.T, now int64) *talk.Talk {
	t.Helper()
	k := made(t, now)
	says(t, k.Begin(now), hello(1))
	return k
}

// ready answers a talk of 1 with 2 that is ready.
func ready(t *testing.T, now int64) *talk.Talk {
	t.Helper()
	k := begun(t, now)
	puts(t, k, config(), now)
	takes(t, k, bytesOf(t, hello(2), config()), now, config())
	looks(t, k, true, api.OK)
	return k
}

// says holds what was said against the frames of messages.
func says(t *testing.T, b []byte, l ...api.Message) {
	t.Helper()
	if want := bytesOf(t, l...); !bytes.Equal(b, want) {
		t.Fatalf("said %x, not %x", b, want)
	}
}

// puts holds Out of what is said against its frame.
func puts(t *testing.T, k *talk.Talk, m api.Message, now int64) {
	t.Helper()
	b, err := k.Out(m, now)
	if err != api.OK {
		t.Fatalf("Out(%v, %d) = %d", m, now, err)
	}
	says(t, b, m)
}

// refuses holds Out against an error, beside which there is nothing.
func refuses(t *testing.T, k *talk.Talk, m api.Message, now int64, want api.Errno) {
	t.Helper()
	if b, err := k.Out(m, now); len(b) != 0 || err != want {
		t.Fatalf("Out of kind %d, %d = %x, %d, not %d", m.Kind, now, b, err, want)
	}
}

// tells holds the messages that In told against those that it is to tell.
func tells(t *testing.T, got, want []api.Message) {
	t.Helper()
	if !slices.EqualFunc(got, want, message.Same) {
		t.Fatalf("In told %v, not %v", got, want)
	}
}

// takes holds In against the messages that it is to tell, where it does not close.
func takes(t *testing.T, k *talk.Talk, b []byte, now int64, want ...api.Message) {
	t.Helper()
	got, err := k.In(b, now)
	if err != api.OK {
		t.Fatalf("In of %d bytes = %d", len(b), err)
	}
	tells(t, got, want)
}

// closes holds In against the error by which it closes, and the messages that it tells beside that.
func closes(t *testing.T, k *talk.Talk, b []byte, now int64, why api.Errno, want ...api.Message) {
	t.Helper()
	got, err := k.In(b, now)
	if err != why {
		t.Fatalf("In of %x = %d, not %d", b[:min(len(b), 100)], err, why)
	}
	tells(t, got, want)
	looks(t, k, false, why)
}

// ticks holds Tick against what it is to say, and whether the talk is open behind it.
func ticks(t *testing.T, k *talk.Talk, now int64, open bool, want ...api.Message) {
	t.Helper()
	b, ok := k.Tick(now)
	if ok != open {
		t.Fatalf("Tick(%d) = %x, %v", now, b, ok)
	}
	says(t, b, want...)
}

// looks holds a talk's looks against what they are to be.
func looks(t *testing.T, k *talk.Talk, ready bool, why api.Errno) {
	t.Helper()
	if k.Ready() != ready || k.Closed() != (why != api.OK) || k.Why() != why {
		t.Fatalf("Ready %v, Closed %v, Why %d, not %v, %d", k.Ready(), k.Closed(), k.Why(), ready, why)
	}
}

// over holds a talk of 1 with 2 that is closed against what it answers for good.
func over(t *testing.T, k *talk.Talk, why api.Errno) {
	t.Helper()
	for _, now := range []int64{0, -1, 60, 1000, math.MaxInt64} {
		if b := k.Begin(now); len(b) != 0 {
			t.Fatalf("Begin of what is closed = %x", b)
		}
		for _, b := range [][]byte{nil, {}, {0}, bytesOf(t, hello(2)), bytesOf(t, hello(2), config(), update(1)), bytesOf(t, closeOf(api.OK)), make([]byte, 10)} {
			closes(t, k, b, now, why)
		}
		for kind := -1; kind <= 10; kind++ {
			refuses(t, k, plain(kind), now, why)
		}
		ticks(t, k, now, false)
		looks(t, k, false, why)
		if k.Peer() != 2 {
			t.Fatalf("Peer = %d", k.Peer())
		}
	}
}

// The chapter's examples.
func TestExamples(t *testing.T) {
	k := made(t, 0)
	refuses(t, k, config(), 0, api.ErrBusy)
	if b := k.Begin(0); !bytes.Equal(b, unhex(t, "00 00 00 02 01 01")) {
		t.Errorf("Begin = %x", b)
	}
	if b := k.Begin(0); len(b) != 0 {
		t.Errorf("Begin again = %x", b)
	}
	refuses(t, k, update(1), 0, api.ErrArg)
	if b, err := k.Out(config(), 0); !bytes.Equal(b, unhex(t, "00 00 00 03 02 00 00")) || err != api.OK {
		t.Errorf("Out of a config = %x, %d", b, err)
	}
	refuses(t, k, config(), 0, api.ErrArg)
	takes(t, k, unhex(t, "00 00 00 02 01 02 00"), 1)
	looks(t, k, false, api.OK)
	takes(t, k, unhex(t, "00 00 03 02 00 00"), 1, config())
	looks(t, k, true, api.OK)
	for _, x := range []struct {
		now  int64
		want string
		open bool
	}{{59, "", true}, {60, "00 00 00 01 08", true}, {61, "", true}, {151, "00 00 00 02 09 16", false}, {152, "", false}} {
		if b, open := k.Tick(x.now); !bytes.Equal(b, unhex(t, x.want)) || open != x.open {
			t.Errorf("Tick(%d) = %x, %v", x.now, b, open)
		}
	}
	looks(t, k, false, api.ErrBusy)
	closes(t, made(t, 0), bytesOf(t, hello(3)), 0, api.ErrPeer)
	closes(t, made(t, 0), bytesOf(t, ping), 0, api.ErrForm)
	closes(t, made(t, 0), make([]byte, 4), 0, api.ErrForm)
}

// P13.1: New of each two devices, and of what is none.
func TestNew(t *testing.T) {
	devices := slices.Clone(noDevices)
	for dev := 1; dev <= 16; dev++ {
		devices = append(devices, dev)
	}
	may := func(dev int) bool { return dev >= 1 && dev <= 16 }
	for _, self := range devices {
		for _, peer := range devices {
			k, err := talk.New(self, peer, 5)
			if !may(self) || !may(peer) || self == peer {
				if k != nil || err != api.ErrArg {
					t.Errorf("New(%d, %d) = %v, %d", self, peer, k, err)
				}
				continue
			}
			if k == nil || err != api.OK || k.Peer() != peer {
				t.Fatalf("New(%d, %d) = %v, %d", self, peer, k, err)
			}
			looks(t, k, false, api.OK)
			says(t, k.Begin(5), hello(self))
			if k.Peer() != peer {
				t.Errorf("Peer of New(%d, %d) = %d", self, peer, k.Peer())
			}
		}
	}
}

// P13.1: New at each end of the times.
func TestNewTimes(t *testing.T) {
	for _, now := range noTimes {
		if k, err := talk.New(1, 2, now); k != nil || err != api.ErrArg {
			t.Errorf("New at %d = %v, %d", now, k, err)
		}
	}
	for _, now := range []int64{0, 1, 59, math.MaxUint32, math.MaxUint32 + 1, mostTime - 1, mostTime} {
		k := made(t, now)
		ticks(t, k, now, true)
		ticks(t, k, now+closeAfter-1, true)
		ticks(t, k, now+closeAfter, false, closeOf(api.ErrBusy))
	}
}

// P13.1: Begin says the hello of self, once, whatever else came in or was asked ahead of it.
func TestBegin(t *testing.T) {
	for self := 1; self <= 16; self++ {
		k, err := talk.New(self, 1+self%16, 0)
		if err != api.OK {
			t.Fatalf("New(%d) = %d", self, err)
		}
		refuses(t, k, config(), 0, api.ErrBusy)
		if b := k.Begin(0); !bytes.Equal(b, []byte{0, 0, 0, 2, 1, byte(self)}) {
			t.Errorf("Begin of %d = %x", self, b)
		}
		for range 3 {
			says(t, k.Begin(0))
		}
		puts(t, k, config(), 0)
		says(t, k.Begin(100))
	}
	k := made(t, 0)
	takes(t, k, bytesOf(t, hello(2), config(), update(1)), 0, config(), update(1))
	says(t, k.Begin(0), hello(1))
}

// P13.1, P13.4: a hello is said: the next ping is 60 behind it; what Begin does not say changes nothing of that.
func TestBeginIsSaid(t *testing.T) {
	k := made(t, 0)
	says(t, k.Begin(40), hello(1))
	says(t, k.Begin(70))
	ticks(t, k, 99, true)
	says(t, k.Begin(99))
	ticks(t, k, 100, true, ping)
}

// P13.2: all kinds from 2 to 7 are told, in order; a ping is not.
func TestInTells(t *testing.T) {
	k := made(t, 0)
	takes(t, k, bytesOf(t, hello(2)), 0)
	takes(t, k, bytesOf(t, plain(api.MConfig)), 0, plain(api.MConfig))
	for kind := api.MIndex; kind <= api.MProgress; kind++ {
		takes(t, k, bytesOf(t, plain(kind)), 0, plain(kind))
		takes(t, k, bytesOf(t, ping), 0)
		takes(t, k, bytesOf(t, plain(kind), ping, ping, update(3), plain(kind)), 0, plain(kind), update(3), plain(kind))
	}
	takes(t, k, nil, 0)
	takes(t, k, []byte{}, 0)
	looks(t, k, false, api.OK)
}

// P13.2: what each kind does that comes first, second and later.
func TestInDue(t *testing.T) {
	for came, ahead := range [][]api.Message{nil, {hello(2)}, {hello(2), config()}, {hello(2), config(), ping}, {hello(2), config(), update(2)}} {
		for kind := api.MHello; kind <= api.MClose; kind++ {
			k := made(t, 0)
			if _, err := k.In(bytesOf(t, ahead...), 0); err != api.OK {
				t.Fatalf("In = %d", err)
			}
			b := bytesOf(t, plain(kind))
			switch {
			case kind == min(came, 2)+1 && came < 2, came >= 2 && kind >= api.MIndex && kind <= api.MPing:
				var want []api.Message
				if kind >= api.MConfig && kind <= api.MProgress {
					want = append(want, plain(kind))
				}
				takes(t, k, b, 0, want...)
				looks(t, k, false, api.OK)
			case came >= 2 && kind == api.MClose:
				closes(t, k, b, 0, api.ErrClosed)
				over(t, k, api.ErrClosed)
			default:
				closes(t, k, b, 0, api.ErrForm)
				over(t, k, api.ErrForm)
			}
		}
	}
}

// P13.2: the first message is the hello of the peer alone; each other device is ErrPeer, self, too; what is no device is no hello.
func TestInPeer(t *testing.T) {
	for peer := 2; peer <= 16; peer++ {
		for dev := range 256 {
			k, err := talk.New(1, peer, 0)
			if err != api.OK {
				t.Fatalf("New = %d", err)
			}
			b := frameOf(api.MHello, []byte{byte(dev)})
			switch {
			case dev == peer:
				takes(t, k, b, 0)
			case dev >= 1 && dev <= 16:
				closes(t, k, b, 0, api.ErrPeer)
			default:
				closes(t, k, b, 0, api.ErrForm)
			}
		}
	}
	k := made(t, 0)
	closes(t, k, bytesOf(t, hello(3), hello(2), config()), 0, api.ErrPeer)
	over(t, k, api.ErrPeer)
	k = ready(t, 0)
	closes(t, k, bytesOf(t, hello(3)), 0, api.ErrForm) // a hello that is not the first one
}

// P13.2: a close closes, whatever its error.
func TestInClose(t *testing.T) {
	for e := range 256 {
		k := ready(t, 0)
		closes(t, k, bytesOf(t, update(1), closeOf(api.Errno(e)), update(2)), 0, api.ErrClosed, update(1))
	}
}

// P13.2: what is no frame closes, as soon as it is there, wherever it comes.
func TestInNoFrame(t *testing.T) {
	all := bytesOf(t, hello(2), config(), update(1))
	for _, bad := range noFrames(t) {
		for _, n := range []int{0, 6, 13, len(all)} {
			k := made(t, 0)
			if _, err := k.In(all[:n], 0); err != api.OK {
				t.Fatalf("In of %d bytes = %d", n, err)
			}
			last := len(bad) - 1
			for _, x := range bad[:last] {
				takes(t, k, []byte{x}, 0)
			}
			closes(t, k, bad[last:], 0, api.ErrForm)
			over(t, k, api.ErrForm)
		}
		closes(t, made(t, 0), slices.Concat(all, bad, bytesOf(t, update(2))), 0, api.ErrForm, config(), update(1))
	}
}

// P13.2: a body that is no message of its kind closes, ahead of what its kind would do.
func TestInNoMessage(t *testing.T) {
	for kind, l := range noMessages(t) {
		for _, body := range l {
			b := frameOf(kind, body)
			closes(t, made(t, 0), b, 0, api.ErrForm)
			closes(t, made(t, 0), slices.Concat(bytesOf(t, hello(2)), b), 0, api.ErrForm)
			k := ready(t, 0)
			takes(t, k, b[:len(b)-1], 0)
			closes(t, k, b[len(b)-1:], 0, api.ErrForm)
			closes(t, ready(t, 0), slices.Concat(bytesOf(t, update(1), ping), b, bytesOf(t, update(2))), 0, api.ErrForm, update(1))
		}
	}
}

// P13.2: what comes behind what closed it is not looked at, be it good or bad; what came ahead is told beside the error.
func TestInBehind(t *testing.T) {
	ahead := []api.Message{config(), update(1), update(2)}
	first := bytesOf(t, slices.Concat([]api.Message{hello(2)}, ahead[:1], []api.Message{ping}, ahead[1:])...)
	for _, x := range []struct {
		bad []byte
		why api.Errno
	}{{bytesOf(t, closeOf(api.OK)), api.ErrClosed}, {bytesOf(t, hello(2)), api.ErrForm}, {bytesOf(t, hello(3)), api.ErrForm}, {bytesOf(t, config()), api.ErrForm}, {make([]byte, 4), api.ErrForm}, {frameOf(api.MPing, []byte{1}), api.ErrForm}} {
		for _, behind := range [][]byte{nil, {0, 0, 0}, make([]byte, 9), bytesOf(t, update(3)), bytesOf(t, closeOf(api.OK)), bytesOf(t, hello(3)), make([]byte, 1<<18)} {
			k := made(t, 0)
			closes(t, k, slices.Concat(first, x.bad, behind), 0, x.why, ahead...)
			over(t, k, x.why)
		}
	}
}

// P13.2, P13.6: whatever the two parts, or three, in which bytes come in, messages are told as soon as they are whole.
func TestInParts(t *testing.T) {
	l := []api.Message{hello(2), plain(api.MConfig), ping, plain(api.MRequest), update(1), plain(api.MResponse)}
	all := bytesOf(t, l...)
	var ends []int
	for i := range l {
		ends = append(ends, len(bytesOf(t, l[:i+1]...)))
	}
	between := func(from, to int) []api.Message {
		var out []api.Message
		for i, end := range ends {
			if from < end && end <= to && l[i].Kind != api.MHello && l[i].Kind != api.MPing {
				out = append(out, l[i])
			}
		}
		return out
	}
	for a := range len(all) + 1 {
		for b := a; b <= len(all); b++ {
			k := made(t, 0)
			takes(t, k, all[:a], 0, between(0, a)...)
			takes(t, k, all[a:b], 0, between(a, b)...)
			takes(t, k, all[b:], 0, between(b, len(all))...)
		}
	}
}

// P13.2: In takes any number of bytes at once, more than a reader holds, too, behind any number that came ahead.
func TestInLong(t *testing.T) {
	r := api.Message{Kind: api.MUpdate, Folder: 1}
	for i := range api.MaxBatch {
		r.Records = append(r.Records, fileOf("f"+string(rune('a'+i)), 700))
	}
	var want []api.Message
	for i := range 1000 {
		m := r
		m.Folder = 1 + i%4
		m.Records = r.Records[:i%17]
		want = append(want, m)
	}
	all := bytesOf(t, slices.Concat([]api.Message{hello(2), config()}, want)...)
	if len(all) < 1<<21 {
		t.Fatalf("only %d bytes", len(all))
	}
	for _, n := range []int{0, 1, 13, 100, 5000, 20000, 1 << 17, len(all) - 1} {
		k := made(t, 0)
		got, err := k.In(all[:n], 0)
		if err != api.OK {
			t.Fatalf("In of %d bytes = %d", n, err)
		}
		more, err := k.In(all[n:], 0)
		if err != api.OK {
			t.Fatalf("In of %d bytes behind %d = %d", len(all)-n, n, err)
		}
		tells(t, append(got, more...), slices.Concat([]api.Message{config()}, want))
	}
	k := made(t, 0)
	closes(t, k, slices.Concat(all, bytesOf(t, closeOf(api.OK)), all), 0, api.ErrClosed, slices.Concat([]api.Message{config()}, want)...)
}

// P13.2: a frame of each length up to the longest is waited for.
func TestInWaits(t *testing.T) {
	for _, n := range []int{1, 255, 256, 257, mostBody - 1, mostBody} {
		k := ready(t, 0)
		b := frameOf(api.MUpdate, make([]byte, n))
		takes(t, k, b[:len(b)-1], 0)
		looks(t, k, true, api.OK)
		closes(t, k, b[len(b)-1:], 0, api.ErrForm)
	}
}

// P13.2, P13.4: each byte that comes in is heard, though it be no whole frame; no byte is not.
func TestInHears(t *testing.T) {
	for _, x := range []struct {
		b     []byte
		heard bool
	}{{nil, false}, {[]byte{}, false}, {[]byte{0}, true}, {bytesOf(t, hello(2)), true}} {
		k := made(t, 10)
		takes(t, k, x.b, 50)
		end := int64(10 + closeAfter)
		if x.heard {
			end = 50 + closeAfter
		}
		ticks(t, k, end-1, true)
		ticks(t, k, end, false, closeOf(api.ErrBusy))
	}
	k := ready(t, 0)
	for now := int64(100); now < 2000; now += 100 {
		takes(t, k, bytesOf(t, ping), now)
		puts(t, k, update(1), now)
		ticks(t, k, now, true)
	}
	says(t, k.Begin(2000))
	refuses(t, k, config(), 2000, api.ErrArg)
	ticks(t, k, 1900+closeAfter, false, closeOf(api.ErrBusy)) // nothing that is said, or asked, is heard
}

// P13.2: In says nothing: it makes no difference to the next ping.
func TestInIsNotSaid(t *testing.T) {
	k := begun(t, 0)
	takes(t, k, bytesOf(t, hello(2), config()), 50, config())
	ticks(t, k, 59, true)
	ticks(t, k, 60, true, ping)
}

// P13.3: what each kind is answered ahead of Begin, ahead of a config, and behind it.
func TestOut(t *testing.T) {
	for kind := api.MHello; kind <= api.MClose; kind++ {
		m := plain(kind)
		refuses(t, made(t, 0), m, 0, api.ErrBusy)
		k := begun(t, 0)
		if kind == api.MConfig || kind == api.MClose {
			puts(t, k, m, 0)
		} else {
			refuses(t, k, m, 0, api.ErrArg)
			puts(t, k, config(), 0)
		}
		k = begun(t, 0)
		puts(t, k, config(), 0)
		if kind <= api.MConfig || kind == api.MPing {
			refuses(t, k, m, 0, api.ErrArg)
			puts(t, k, update(1), 0)
			refuses(t, k, m, 0, api.ErrArg)
		} else {
			puts(t, k, m, 0)
		}
	}
}

// P13.3: what is said does not hang on what came in.
func TestOutWithoutIn(t *testing.T) {
	k := made(t, 0)
	takes(t, k, bytesOf(t, hello(2), config()), 0, config())
	refuses(t, k, config(), 0, api.ErrBusy)
	says(t, k.Begin(0), hello(1))
	refuses(t, k, update(1), 0, api.ErrArg)
	puts(t, k, config(), 0)
	puts(t, k, update(1), 0)
}

// noPuts are messages that message.Put refuses, with its error; each is of a kind from 2 to 9, or of none.
func noPuts() []struct {
	m    api.Message
	want api.Errno
} {
	type row = struct {
		m    api.Message
		want api.Errno
	}
	out := []row{
		{config(make([]api.Share, 5)...), api.ErrLong},
		{config(api.Share{Folder: 2, Mode: 1}, api.Share{Folder: 2, Mode: 1}), api.ErrArg},
		{api.Message{Kind: api.MConfig, ID: 1}, api.ErrArg},
		{update(0), api.ErrArg},
		{update(5), api.ErrArg},
		{api.Message{Kind: api.MIndex, Folder: 1, Records: make([]api.Record, 17)}, api.ErrLong},
		{api.Message{Kind: api.MIndex, Folder: 1, Records: []api.Record{{}}}, api.ErrPath},
		{api.Message{Kind: api.MUpdate, Folder: 1, Records: []api.Record{{Path: "a", Kind: 4}}}, api.ErrKind},
		{api.Message{Kind: api.MRequest, Folder: 1, Path: "/", Size: 16}, api.ErrPath},
		{api.Message{Kind: api.MResponse, Err: api.ErrNone, Data: "xy"}, api.ErrArg},
		{api.Message{Kind: api.MResponse, Data: strings.Repeat("x", 257)}, api.ErrLong},
		{api.Message{Kind: api.MProgress, Folder: 1, Path: "a", Have: []int{32}}, api.ErrArg},
		{api.Message{Kind: api.MProgress, Folder: 1, Path: "a", Have: make([]int, 33)}, api.ErrLong},
		{closeOf(-1), api.ErrArg},
		{closeOf(256), api.ErrArg},
		{api.Message{Kind: api.MClose, Path: "a"}, api.ErrArg},
		{tooMuch(), api.ErrLong},
	}
	for _, kind := range noKinds {
		out = append(out, row{api.Message{Kind: kind}, api.ErrKind}, row{api.Message{Kind: kind, Data: strings.Repeat("x", 257)}, api.ErrKind})
	}
	return out
}

// tooMuch answers an update each part of which may be, whose bytes are more than a frame has.
func tooMuch() api.Message {
	m := update(1)
	for i := range api.MaxBatch {
		m.Records = append(m.Records, fileOf("f"+string(rune('a'+i)), 4096))
	}
	return m
}

// P13.3: what message.Put refuses is answered with its error, behind ErrBusy and ErrArg, and is not said.
func TestOutRefused(t *testing.T) {
	for _, x := range noPuts() {
		refuses(t, made(t, 0), x.m, 0, api.ErrBusy)
		first, behind := x.want, x.want
		if x.m.Kind >= api.MIndex && x.m.Kind <= api.MProgress {
			first = api.ErrArg
		}
		if x.m.Kind == api.MConfig {
			behind = api.ErrArg
		}
		k := begun(t, 0)
		refuses(t, k, x.m, 50, first)
		refuses(t, k, update(1), 50, api.ErrArg)
		looks(t, k, false, api.OK)
		ticks(t, k, 60, true, ping)
		puts(t, k, config(), 60)
		refuses(t, k, x.m, 100, behind)
		looks(t, k, false, api.OK)
		ticks(t, k, 119, true)
		ticks(t, k, 120, true, ping)
		puts(t, k, update(1), 120)
	}
	for _, kind := range []int{api.MHello, api.MPing} {
		bad := api.Message{Kind: kind, Device: 99, Path: "/", Data: strings.Repeat("x", 257)}
		refuses(t, made(t, 0), bad, 0, api.ErrBusy)
		refuses(t, begun(t, 0), bad, 0, api.ErrArg)
		refuses(t, ready(t, 0), bad, 0, api.ErrArg)
	}
}

// P13.3: what is refused is not said, nor heard.
func TestOutRefusedIsNotSaid(t *testing.T) {
	k := ready(t, 0)
	for now := int64(0); now < 60; now++ {
		for _, m := range []api.Message{hello(1), config(), ping, update(0), {}} {
			if b, err := k.Out(m, now); len(b) != 0 || err == api.OK {
				t.Fatalf("Out = %x, %d", b, err)
			}
		}
		ticks(t, k, now, true)
	}
	ticks(t, k, 60, true, ping)
}

// P13.3: the longest message that may be said.
func TestOutLongest(t *testing.T) {
	m := tooMuch()
	m.Records = m.Records[:14]
	for n := 1; ; n++ {
		if _, err := message.Put(m); err == api.OK {
			break
		}
		m.Records = m.Records[:14-n]
	}
	k := ready(t, 0)
	puts(t, k, m, 0)
	refuses(t, k, tooMuch(), 0, api.ErrLong)
}

// P13.3, P13.4: what is said puts off the next ping.
func TestOutIsSaid(t *testing.T) {
	for kind := api.MConfig; kind <= api.MProgress; kind++ {
		k := begun(t, 0)
		if kind != api.MConfig {
			puts(t, k, config(), 0)
		}
		puts(t, k, plain(kind), 30)
		ticks(t, k, 30+pingAfter-1, true)
		ticks(t, k, 30+pingAfter, true, ping)
	}
}

// P13.3: a close is said at any time behind Begin, with any error, and closes.
func TestOutClose(t *testing.T) {
	for e := range 256 {
		for _, k := range []*talk.Talk{begun(t, 0), ready(t, 0)} {
			puts(t, k, closeOf(api.Errno(e)), 0)
			looks(t, k, false, api.ErrClosed)
		}
	}
	for _, k := range []*talk.Talk{begun(t, 0), ready(t, 0)} {
		puts(t, k, closeOf(api.ErrPeer), 500)
		over(t, k, api.ErrClosed)
	}
	k := ready(t, 0)
	refuses(t, k, closeOf(256), 0, api.ErrArg)
	looks(t, k, true, api.OK)
}

// P13.4: a ping 60 behind what was said last, and no earlier, again and again.
func TestTickPings(t *testing.T) {
	k := ready(t, 1000)
	said := int64(1000)
	for i := range int64(100) {
		now := said + pingAfter + i%20
		ticks(t, k, said+pingAfter-1, true)
		takes(t, k, bytesOf(t, ping), now)
		ticks(t, k, now, true, ping)
		ticks(t, k, now, true)
		said = now
	}
}

// P13.4: as long as Begin was not asked, there is no ping, but a close.
func TestTickBeforeBegin(t *testing.T) {
	k := made(t, 0)
	for now := int64(0); now < closeAfter; now++ {
		ticks(t, k, now, true)
	}
	ticks(t, k, closeAfter, false, closeOf(api.ErrBusy))
	over(t, k, api.ErrBusy)
	k = made(t, 0)
	ticks(t, k, 100, true)
	says(t, k.Begin(100), hello(1))
	ticks(t, k, 100, true)
	ticks(t, k, 149, true)
}

// P13.4: where both a close and a ping are due, it is a close; 150 behind what was heard last, and no earlier.
func TestTickCloses(t *testing.T) {
	for late := range int64(300) {
		k := ready(t, 0)
		takes(t, k, []byte{0}, 7)
		switch now := late + 7; {
		case late >= closeAfter:
			ticks(t, k, now, false, closeOf(api.ErrBusy))
			over(t, k, api.ErrBusy)
		case now >= pingAfter:
			ticks(t, k, now, true, ping)
		default:
			ticks(t, k, now, true)
		}
	}
}

// P13.4: looking at the time by Tick is neither to say nor to hear something.
func TestTickAlone(t *testing.T) {
	k := ready(t, 0)
	for now := int64(0); now < closeAfter; now++ {
		if now > 0 && now%pingAfter == 0 {
			ticks(t, k, now, true, ping)
		} else {
			ticks(t, k, now, true)
		}
	}
	ticks(t, k, closeAfter, false, closeOf(api.ErrBusy))
}

// tellers are the calls that tell a time, each of them one that neither says nor hears anything by it.
var tellers = map[string]func(k *talk.Talk, now int64){
	"Begin": func(k *talk.Talk, now int64) { k.Begin(now) },
	"In":    func(k *talk.Talk, now int64) { k.In(nil, now) },
	"Out":   func(k *talk.Talk, now int64) { k.Out(ping, now) },
	"Tick":  func(k *talk.Talk, now int64) { k.Tick(now) },
}

// Times never go back: one that is less than the one that was told last, by whatever call, counts as that.
func TestTimesGoOn(t *testing.T) {
	for name, tell := range tellers {
		for _, low := range []int64{39, 1, 0, -1, -40, 39 - 1<<32, math.MinInt64} {
			k := ready(t, 0) // something is said at 40
			tell(k, 40)
			puts(t, k, update(1), low)
			ticks(t, k, 99, true)
			ticks(t, k, 100, true, ping)

			k = ready(t, 0) // something is heard at 40
			tell(k, 40)
			takes(t, k, []byte{0}, low)
			ticks(t, k, 189, true, ping)
			ticks(t, k, 190, false, closeOf(api.ErrBusy))

			if name != "Begin" {
				k = made(t, 0) // it begins at 40
				tell(k, 40)
				says(t, k.Begin(low), hello(1))
				ticks(t, k, 99, true)
				ticks(t, k, 100, true, ping)
			}
			if name != "Tick" {
				k = ready(t, 0) // the time is 60, and 150
				tell(k, 60)
				ticks(t, k, low, true, ping)
				ticks(t, k, low, true)
				tell(k, 150)
				ticks(t, k, low, false, closeOf(api.ErrBusy))
			}
		}
	}
}

// A talk is made at a time behind which no later one may fall.
func TestTimesFromNew(t *testing.T) {
	k := made(t, 1000)
	for _, low := range []int64{0, 999, -1, math.MinInt64} {
		ticks(t, k, low, true)
		takes(t, k, nil, low)
	}
	takes(t, k, []byte{0}, 0)
	says(t, k.Begin(0), hello(1))
	ticks(t, k, 1000+pingAfter-1, true)
	ticks(t, k, 1000+pingAfter, true, ping)
	ticks(t, k, 1000+closeAfter, false, closeOf(api.ErrBusy))
}

// R1: huge times, and those below 0.
func TestFarTimes(t *testing.T) {
	for _, now := range []int64{1 << 32, 1<<32 + 1, mostTime + 1, math.MaxInt64 - 1, math.MaxInt64} {
		ticks(t, made(t, 0), now, false, closeOf(api.ErrBusy))
		ticks(t, made(t, closeAfter), now, false, closeOf(api.ErrBusy))
		k := ready(t, mostTime)
		takes(t, k, bytesOf(t, update(1)), now, update(1))
		puts(t, k, update(1), now)
		for _, low := range []int64{now, mostTime, 0, -1, math.MinInt64} {
			ticks(t, k, low, true)
			looks(t, k, true, api.OK)
		}
		k = ready(t, 0)
		takes(t, k, []byte{0}, now)
		ticks(t, k, math.MinInt64, true, ping)
		ticks(t, k, math.MinInt64, true)
	}
}

// P13.5: a talk is ready, when a config was said and the peer's came, in whatever order, as long as it is not closed.
func TestReady(t *testing.T) {
	begin := func(k *talk.Talk) { says(t, k.Begin(0), hello(1)) }
	out := func(k *talk.Talk) { puts(t, k, config(), 0) }
	inHello := func(k *talk.Talk) { takes(t, k, bytesOf(t, hello(2)), 0) }
	inConfig := func(k *talk.Talk) { takes(t, k, bytesOf(t, config()), 0, config()) }
	for _, l := range [][]func(k *talk.Talk){
		{begin, out, inHello, inConfig}, {begin, inHello, out, inConfig}, {begin, inHello, inConfig, out},
		{inHello, begin, out, inConfig}, {inHello, begin, inConfig, out}, {inHello, inConfig, begin, out},
	} {
		k := made(t, 0)
		for _, do := range l {
			looks(t, k, false, api.OK)
			do(k)
		}
		looks(t, k, true, api.OK)
		puts(t, k, update(1), 0)
		takes(t, k, bytesOf(t, update(1), ping), 0, update(1))
		ticks(t, k, 60, true, ping)
		looks(t, k, true, api.OK)
		puts(t, k, closeOf(api.OK), 0)
		looks(t, k, false, api.ErrClosed)
	}
}

// R3, P13.5: a nil talk, and one that New did not make, before and behind all calls.
func TestNoTalk(t *testing.T) {
	for _, k := range []*talk.Talk{nil, {}, new(talk.Talk)} {
		for _, now := range []int64{0, 60, 150, -1, math.MaxInt64, math.MinInt64} {
			says(t, k.Begin(now))
			for _, b := range [][]byte{nil, {}, {0}, bytesOf(t, hello(2), config()), make([]byte, 1<<18)} {
				closes(t, k, b, now, api.ErrNil)
			}
			for kind := -1; kind <= 10; kind++ {
				refuses(t, k, plain(kind), now, api.ErrNil)
			}
			ticks(t, k, now, false)
			looks(t, k, false, api.ErrNil)
			if k.Peer() != 0 {
				t.Errorf("Peer = %d", k.Peer())
			}
		}
	}
}

// P13.7: whatever closed a talk, it says nothing more, and why stays as it is.
func TestClosedForGood(t *testing.T) {
	for want, end := range map[api.Errno]func(k *talk.Talk){
		api.ErrForm:   func(k *talk.Talk) { closes(t, k, make([]byte, 4), 0, api.ErrForm) },
		api.ErrClosed: func(k *talk.Talk) { puts(t, k, closeOf(api.ErrPeer), 0) },
		api.ErrBusy:   func(k *talk.Talk) { ticks(t, k, 150, false, closeOf(api.ErrBusy)) },
	} {
		for _, k := range []*talk.Talk{begun(t, 0), ready(t, 0)} {
			end(k)
			over(t, k, want)
			over(t, k, want)
		}
	}
	k := made(t, 0)
	closes(t, k, bytesOf(t, hello(16)), 0, api.ErrPeer)
	over(t, k, api.ErrPeer)
	k = ready(t, 0)
	closes(t, k, bytesOf(t, closeOf(api.ErrForm)), 0, api.ErrClosed)
	over(t, k, api.ErrClosed)
}

// Talks know nothing of one another.
func TestTalksApart(t *testing.T) {
	a, b, c := ready(t, 0), made(t, 0), ready(t, 0)
	takes(t, a, []byte{0, 0, 0}, 0)
	closes(t, b, make([]byte, 4), 0, api.ErrForm)
	ticks(t, c, 150, false, closeOf(api.ErrBusy))
	looks(t, a, true, api.OK)
	takes(t, a, []byte{1, 8}, 0)
	ticks(t, a, 59, true)
	ticks(t, a, 60, true, ping)
}

// noise answers n bytes that look like no pattern, always the same ones.
func noise(n int) []byte {
	out := make([]byte, n)
	rand.New(rand.NewSource(13)).Read(out)
	return out
}

// P13.8: In keeps none of the bytes that are handed in, and changes neither them nor what stands behind them.
func TestInIsNew(t *testing.T) {
	all := bytesOf(t, hello(2), plain(api.MConfig), plain(api.MIndex), plain(api.MProgress), plain(api.MResponse))
	want := []api.Message{plain(api.MConfig), plain(api.MIndex), plain(api.MProgress), plain(api.MResponse)}
	for cut := range len(all) + 1 {
		memory := slices.Concat(all, noise(50))
		k := made(t, 0)
		first, err := k.In(memory[:cut], 0)
		if err != api.OK || !bytes.Equal(memory, slices.Concat(all, noise(50))) {
			t.Fatalf("cut at %d: %d, or what was handed in is changed", cut, err)
		}
		clear(memory[:cut])
		more, err := k.In(memory[cut:len(all)], 0)
		if err != api.OK || !bytes.Equal(memory, slices.Concat(make([]byte, cut), all[cut:], noise(50))) {
			t.Fatalf("cut at %d: %d, or what was handed in is changed", cut, err)
		}
		clear(memory)
		tells(t, append(first, more...), want)
	}
}

// spoil changes all memory of a message's lists.
func spoil(m api.Message) {
	clear(m.Shares[:cap(m.Shares)])
	clear(m.Have[:cap(m.Have)])
	for _, r := range m.Records {
		clear(r.Blocks[:cap(r.Blocks)])
	}
	clear(m.Records[:cap(m.Records)])
}

// P13.8: messages that were told share no memory with one another, nor with the talk.
func TestToldIsNew(t *testing.T) {
	k := made(t, 0)
	l := []api.Message{plain(api.MConfig), plain(api.MIndex), plain(api.MIndex), plain(api.MProgress), plain(api.MProgress), plain(api.MUpdate)}
	all := bytesOf(t, slices.Concat([]api.Message{hello(2)}, l)...)
	rest := bytesOf(t, plain(api.MIndex))
	got, err := k.In(slices.Concat(all, rest[:20]), 0)
	if err != api.OK {
		t.Fatalf("In = %d", err)
	}
	for i := range got {
		tells(t, got[i:], l[i:])
		spoil(got[i])
	}
	got, err = k.In(rest[20:], 0)
	if err != api.OK {
		t.Fatalf("In = %d", err)
	}
	tells(t, got, []api.Message{plain(api.MIndex)})
}

// P13.8: Out keeps nothing of a message, and changes nothing of it; what is said is new memory.
func TestOutIsNew(t *testing.T) {
	k := begun(t, 0)
	for _, kind := range []int{api.MConfig, api.MIndex, api.MProgress, api.MUpdate, api.MRequest, api.MResponse} {
		m := plain(kind)
		b, err := k.Out(m, 0)
		if err != api.OK || !message.Same(m, plain(kind)) {
			t.Fatalf("Out = %d, or the message is changed", err)
		}
		spoil(m)
		says(t, b, plain(kind))
		if kind != api.MConfig {
			again, _ := k.Out(plain(kind), 0)
			clear(b[:cap(b)])
			says(t, again, plain(kind))
		}
	}
	one, two := made(t, 0), made(t, 0)
	b := one.Begin(0)
	clear(b[:cap(b)])
	says(t, two.Begin(0), hello(1))
	for _, now := range []int64{60, 120} {
		takes(t, one, []byte{}, now)
		takes(t, two, []byte{}, now)
		p, _ := one.Tick(now)
		clear(p[:cap(p)])
		ticks(t, two, now, true, ping)
	}
	c, _ := one.Tick(150)
	clear(c[:cap(c)])
	ticks(t, two, 150, false, closeOf(api.ErrBusy))
}

// anyMessage answers one of a kind from 3 to 7 that may be.
func anyMessage(r *rand.Rand) api.Message {
	m := plain(api.MIndex + r.Intn(5))
	switch m.Kind {
	case api.MIndex, api.MUpdate:
		m.Folder = 1 + r.Intn(4)
		m.Records = m.Records[:r.Intn(3)]
	case api.MRequest, api.MResponse:
		m.ID = r.Intn(1 << 31)
	case api.MProgress:
		m.Have = m.Have[:r.Intn(4)]
	}
	return m
}

// end is one of two talks, with what was said by it and did not come in at the other one, what it said and what it was told.
type end struct {
	k         *talk.Talk
	flight    []byte
	out, told []api.Message
}

// say lets an end say a message.
func (x *end) say(t *testing.T, m api.Message, now int64) {
	t.Helper()
	b, err := x.k.Out(m, now)
	if err != api.OK {
		t.Fatalf("Out = %d", err)
	}
	x.flight = append(x.flight, b...)
	x.out = append(x.out, m)
}

// hand hands the first n bytes that y said to x.
func (x *end) hand(t *testing.T, y *end, n int, now int64) {
	t.Helper()
	n = min(n, len(y.flight))
	l, err := x.k.In(y.flight[:n], now)
	if err != api.OK {
		t.Fatalf("In = %d", err)
	}
	y.flight = y.flight[n:]
	x.told = append(x.told, l...)
}

// tick lets an end tick; what it says is on its way.
func (x *end) tick(t *testing.T, now int64) (said bool) {
	t.Helper()
	b, ok := x.k.Tick(now)
	if !ok {
		t.Fatalf("Tick(%d): %x, %d", now, b, x.k.Why())
	}
	x.flight = append(x.flight, b...)
	return len(b) > 0
}

// twoEnds answers two talks, each with the other one's device, that have begun and said a config.
func twoEnds(t *testing.T, a, b int) [2]*end {
	t.Helper()
	var out [2]*end
	for i, dev := range [][2]int{{a, b}, {b, a}} {
		k, err := talk.New(dev[0], dev[1], 0)
		if err != api.OK {
			t.Fatalf("New = %d", err)
		}
		out[i] = &end{k: k, flight: k.Begin(0)}
		out[i].say(t, plain(api.MConfig), 0)
	}
	return out
}

// P13.6: what one end says the other one is told, in order, whatever the parts, both ways.
func TestBothEnds(t *testing.T) {
	r := rand.New(rand.NewSource(131))
	for round := range 100 {
		l := twoEnds(t, 1+round%16, 1+(round+1+round%15)%16)
		now := int64(0)
		for range 300 {
			x := r.Intn(2)
			switch r.Intn(4) {
			case 0:
				l[x].say(t, anyMessage(r), now)
			case 1:
				l[x].tick(t, now)
			default:
				l[x].hand(t, l[1-x], r.Intn(1<<r.Intn(12)), now)
			}
			if r.Intn(10) == 0 {
				now += 50
				for x := range l {
					l[x].tick(t, now)
					l[1-x].hand(t, l[x], math.MaxInt, now)
				}
			}
		}
		for x := range l {
			l[x].hand(t, l[1-x], math.MaxInt, now)
			tells(t, l[x].told, l[1-x].out)
			if !l[x].k.Ready() {
				t.Fatalf("an end is not ready")
			}
		}
		b, _ := l[0].k.Out(closeOf(api.ErrNone), now)
		if got, err := l[1].k.In(b, now); len(got) != 0 || err != api.ErrClosed {
			t.Fatalf("In of a close = %v, %d", got, err)
		}
	}
}

// P13.9: ends that tick at least every 30 are never closed for time, and each says something every 90 at least.
func TestKeptAlive(t *testing.T) {
	r := rand.New(rand.NewSource(132))
	for round := range 200 {
		l := twoEnds(t, 1, 2)
		for x := range l {
			l[x].hand(t, l[1-x], math.MaxInt, 0)
		}
		var next, said [2]int64 // when an end ticks, and when it said something last
		for now := int64(0); now < 5000; now++ {
			for x := range l {
				if now < next[x] {
					continue
				}
				if l[x].tick(t, now) {
					said[x] = now
				}
				if r.Intn(50) == 0 && round%2 == 0 {
					l[x].say(t, anyMessage(r), now)
					said[x] = now
				}
				l[1-x].hand(t, l[x], math.MaxInt, now)
				next[x] = now + 30
				if round%3 > 0 {
					next[x] = now + 1 + int64(r.Intn(30))
				}
				if now-said[x] > 90 || !l[x].k.Ready() {
					t.Fatalf("nothing was said from %d to %d, or it is not ready", said[x], now)
				}
			}
		}
	}
}

// model is a talk of 1 with 2 by the chapter's words.
type model struct {
	last, said, heard int64
	begun, out        bool   // a hello, a config was said
	stream            []byte // what came in and is no whole frame yet
	came              int    // how many messages came
	why               api.Errno
}

func (m *model) at(now int64) { m.last = max(m.last, now) }

// frames takes the whole frames from what came in; bad tells that what begins there is none, or is no message.
func (m *model) frames() (l []api.Message, bad bool) {
	for len(m.stream) >= 4 {
		n := int(binary.BigEndian.Uint32(m.stream))
		if n == 0 || n > mostBody+1 {
			return l, true
		}
		if len(m.stream) == 4 {
			break
		}
		kind := int(m.stream[4])
		if kind < 1 || kind > 9 {
			return l, true
		}
		if len(m.stream) < n+4 {
			break
		}
		x, err := message.Get(kind, m.stream[5:n+4])
		if err != api.OK {
			return l, true
		}
		l, m.stream = append(l, x), m.stream[n+4:]
	}
	return l, false
}

func (m *model) in(b []byte, now int64) ([]api.Message, api.Errno) {
	if m.why != api.OK {
		return nil, m.why
	}
	if m.at(now); len(b) > 0 {
		m.heard = m.last
	}
	m.stream = slices.Concat(m.stream, b)
	l, bad := m.frames()
	var told []api.Message
	for _, x := range l {
		m.came++
		switch {
		case m.came == 1 && x.Kind == api.MHello:
			if x.Device != 2 {
				m.why = api.ErrPeer
			}
		case m.came == 1, m.came == 2 && x.Kind != api.MConfig, m.came > 2 && x.Kind <= api.MConfig:
			m.why = api.ErrForm
		case x.Kind == api.MClose:
			m.why = api.ErrClosed
		case x.Kind != api.MPing:
			told = append(told, x)
		}
		if m.why != api.OK {
			return told, m.why
		}
	}
	if bad {
		m.why = api.ErrForm
	}
	return told, m.why
}

func (m *model) put(x api.Message, now int64) ([]byte, api.Errno) {
	if m.why != api.OK {
		return nil, m.why
	}
	m.at(now)
	b, err := message.Put(x)
	switch {
	case !m.begun:
		return nil, api.ErrBusy
	case x.Kind == api.MHello, x.Kind == api.MPing, x.Kind == api.MConfig && m.out, x.Kind >= 3 && x.Kind <= 7 && !m.out:
		return nil, api.ErrArg
	case err != api.OK:
		return nil, err
	case x.Kind == api.MConfig:
		m.out = true
	case x.Kind == api.MClose:
		m.why = api.ErrClosed
	}
	m.said = m.last
	return frameOf(x.Kind, b), api.OK
}

func (m *model) begin(now int64) []byte {
	if m.why != api.OK {
		return nil
	}
	if m.at(now); m.begun {
		return nil
	}
	m.begun, m.said = true, m.last
	return frameOf(api.MHello, []byte{1})
}

func (m *model) tick(now int64) ([]byte, bool) {
	if m.why != api.OK {
		return nil, false
	}
	switch m.at(now); {
	case m.last-m.heard >= closeAfter:
		m.why = api.ErrBusy
		return frameOf(api.MClose, []byte{byte(api.ErrBusy)}), false
	case m.begun && m.last-m.said >= pingAfter:
		m.said = m.last
		return frameOf(api.MPing, nil), true
	}
	return nil, true
}

// stream answers what a peer could say, mostly as it is to be.
func stream(t *testing.T, r *rand.Rand) []byte {
	t.Helper()
	out := bytesOf(t, hello(2), config())
	if r.Intn(10) == 0 {
		out = bytesOf(t, hello(1+r.Intn(16)), plain(1+r.Intn(9)))
	}
	for range r.Intn(200) {
		switch r.Intn(60) {
		case 0:
			out = append(out, noise(r.Intn(20)+1)...)
		case 1:
			out = append(out, bytesOf(t, plain(1+r.Intn(9)))...)
		case 2, 3, 4, 5, 6:
			out = append(out, bytesOf(t, ping)...)
		default:
			out = append(out, bytesOf(t, anyMessage(r))...)
		}
	}
	return out
}

// step does one thing to a talk and to its model; left is what the peer says, and what did not come in of it is answered.
func step(t *testing.T, r *rand.Rand, k *talk.Talk, m *model, left []byte, now int64) []byte {
	t.Helper()
	switch r.Intn(12) {
	case 0:
		b, open := k.Tick(now)
		if want, wantOpen := m.tick(now); !bytes.Equal(b, want) || open != wantOpen {
			t.Fatalf("Tick(%d) = %x, %v, not %x, %v", now, b, open, want, wantOpen)
		}
	case 1:
		if b, want := k.Begin(now), m.begin(now); !bytes.Equal(b, want) {
			t.Fatalf("Begin(%d) = %x, not %x", now, b, want)
		}
	case 2, 3, 4, 5:
		x := anyMessage(r)
		switch r.Intn(8) {
		case 0:
			x = plain(r.Intn(9))
		case 1:
			x = config()
		case 2:
			x.Folder = r.Intn(6)
		}
		b, err := k.Out(x, now)
		if want, wantErr := m.put(x, now); !bytes.Equal(b, want) || err != wantErr {
			t.Fatalf("Out(%v, %d) = %x, %d, not %x, %d", x, now, b, err, want, wantErr)
		}
	default:
		n := min(r.Intn(1<<r.Intn(11)), len(left))
		got, err := k.In(left[:n], now)
		want, wantErr := m.in(left[:n], now)
		if err != wantErr {
			t.Fatalf("In(%x, %d) = %d, not %d", left[:n], now, err, wantErr)
		}
		tells(t, got, want)
		left = left[n:]
	}
	return left
}

// All promises together: any calls in any order, against the model.
func TestAgainstModel(t *testing.T) {
	r := rand.New(rand.NewSource(133))
	whys := map[api.Errno]int{}
	for range 3000 {
		now := int64(r.Intn(100))
		k, m := made(t, now), &model{last: now, said: now, heard: now}
		left := stream(t, r)
		for range 100 {
			left = step(t, r, k, m, left, now-int64(r.Intn(2)*r.Intn(30)))
			looks(t, k, m.why == api.OK && m.out && m.came >= 2, m.why)
			if r.Intn(4) == 0 {
				now += int64(r.Intn(1 << r.Intn(7)))
			}
		}
		whys[m.why]++
	}
	for _, why := range []api.Errno{api.OK, api.ErrForm, api.ErrClosed, api.ErrPeer, api.ErrBusy} {
		if whys[why] < 30 {
			t.Errorf("only %d talks ended with %d", whys[why], why)
		}
	}
}

// R1, P7: any bytes are read, or refused; whatever their parts, they do the same.
func TestAnyBytes(t *testing.T) {
	r := rand.New(rand.NewSource(134))
	for range 2000 {
		b := stream(t, r)
		for range r.Intn(3) {
			b[r.Intn(len(b))] = byte(r.Intn(256))
		}
		whole, m := made(t, 0), &model{}
		want, wantErr := m.in(b, 0)
		got, err := whole.In(b, 0)
		if err != wantErr {
			t.Fatalf("In(%x) = %d, not %d", b, err, wantErr)
		}
		tells(t, got, want)
		parts, told := made(t, 0), []api.Message(nil)
		for len(b) > 0 && !parts.Closed() {
			n := 1 + r.Intn(len(b))
			l, _ := parts.In(b[:n], 0)
			told, b = append(told, l...), b[n:]
		}
		looks(t, parts, false, wantErr)
		tells(t, told, want)
	}
}
