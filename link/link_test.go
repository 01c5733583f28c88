package link

import (
	"bytes"
	known "crypto/aes"
	"crypto/cipher"
	"crypto/hmac"
	"crypto/sha256"
	"encoding/binary"
	"math"
	"math/big"
	"math/rand"
	"slices"
	"testing"

	"oriel/api"
	"oriel/rtt"
	"oriel/seal"
)

const (
	last    = 1<<63 - 1 // the greatest number of a nonce
	maxTime = 1 << 40
	noStamp = 65535
)

// some is n bytes, the same ones each time, none of them nought.
func some(n int) []byte {
	b := make([]byte, n)
	r := rand.New(rand.NewSource(int64(n)))
	for i := range b {
		b[i] = byte(1 + r.Intn(255))
	}
	return b
}

func key() api.Key { return api.Key{Code: [16]byte(some(16)), Mark: [32]byte(some(32))} }

// noTimes and noAddrs are numbers that are none.
func noTimes() []int {
	return []int{math.MinInt, math.MinInt + 1, -65535, -2, -1, maxTime + 1, maxTime + 2, maxTime + 65535, 1 << 41, math.MaxInt - 1, math.MaxInt}
}

func noAddrs() []int {
	return []int{math.MinInt, math.MinInt + 1, -65536, -2, -1, 65536, 65537, 1 << 32, math.MaxInt - 1, math.MaxInt}
}

// times are some that may be, the edges among them.
func times() []int {
	return []int{0, 1, 100, 1000, 5000, 65533, 65534, 65535, 65536, 131069, 131070, 131071, 1 << 32, maxTime - 1, maxTime}
}

// word is a nonce's, by the words of layer 6.
func word(down bool, n uint64) uint64 {
	if down {
		return 1<<63 + n
	}
	return n
}

// turned is a text turned by another AES that counts.
func turned(key api.Key, word uint64, text []byte) []byte {
	c, err := known.NewCipher(key.Code[:])
	if err != nil {
		panic(err)
	}
	other := make([]byte, len(text))
	start := append(binary.BigEndian.AppendUint64(nil, word), make([]byte, 8)...)
	cipher.NewCTR(c, start).XORKeyStream(other, text)
	return other
}

// tag is the one of what stands ahead of it, by another HMAC.
func tag(key api.Key, ahead []byte) []byte {
	h := hmac.New(sha256.New, key.Mark[:])
	h.Write(ahead)
	return h.Sum(nil)[:16]
}

// sealed is a packet of any text, by another way than layer 6's.
func sealed(key api.Key, down bool, n uint64, text []byte) []byte {
	w := word(down, n)
	ahead := append(binary.BigEndian.AppendUint64(nil, w), turned(key, w, text)...)
	return append(ahead, tag(key, ahead)...)
}

// stamped is a text behind two stamps.
func stamped(stamp, echo int, text []byte) []byte {
	return append([]byte{byte(stamp >> 8), byte(stamp), byte(echo >> 8), byte(echo)}, text...)
}

// packetOf is what a link of that key and direction sends.
func packetOf(key api.Key, down bool, n uint64, stamp, echo int, text []byte) []byte {
	return sealed(key, down, n, stamped(stamp, echo, text))
}

// made is what New tells of what may be.
func made(t *testing.T, down bool, next uint64, addr int) *Link {
	t.Helper()
	l, err := New(key(), down, next, addr)
	if l == nil || err != api.OK {
		t.Fatalf("New(%t, %d, %d): error %d", down, next, addr, err)
	}
	return l
}

// sends holds what a link sends, byte for byte, and that its next number is one
// more by it.
func sends(t *testing.T, l *Link, down bool, now, echo int, text []byte) []byte {
	t.Helper()
	n := l.Next()
	b, err := l.Send(now, text)
	want := packetOf(key(), down, n, int(mod(now)), echo, text)
	if err != api.OK || !bytes.Equal(b, want) {
		t.Fatalf("Send(%d) of %d bytes: %x, error %d; want %x", now, len(text), b, err, want)
	}
	if len(b) != len(text)+28 || l.Next() != n+1 {
		t.Fatalf("Send(%d) of %d bytes: %d bytes; next %d, then %d", now, len(text), len(b), n, l.Next())
	}
	return b
}

// mod is a number modulo 65535, below 0 too.
func mod(n int) int64 {
	return new(big.Int).Mod(big.NewInt(int64(n)), big.NewInt(65535)).Int64()
}

// hears holds what a link hears in a packet.
func hears(t *testing.T, l *Link, now, from int, b, text []byte, fresh bool) {
	t.Helper()
	was := look(l)
	got, is, err := l.Hear(now, from, b)
	if err != api.OK || !bytes.Equal(got, text) || is != fresh {
		t.Fatalf("Hear(%d, %d): %x, %t, error %d; want %x, %t", now, from, got, is, err, text, fresh)
	}
	if !fresh {
		same(t, l, was)
	}
}

// refuses holds that Hear tells an error, and nothing beside it, and that
// nothing of the link has changed.
func refuses(t *testing.T, l *Link, now, from int, b []byte, want api.Errno) {
	t.Helper()
	was := look(l)
	if text, fresh, err := l.Hear(now, from, b); text != nil || fresh || err != want {
		t.Fatalf("Hear(%d, %d) of %d bytes: %x, %t, error %d; want error %d", now, from, len(b), text, fresh, err, want)
	}
	same(t, l, was)
}

// refusesToSend holds it of Send.
func refusesToSend(t *testing.T, l *Link, now int, text []byte, want api.Errno) {
	t.Helper()
	was := look(l)
	if b, err := l.Send(now, text); b != nil || err != want {
		t.Fatalf("Send(%d) of %d bytes: %x, error %d; want error %d", now, len(text), b, err, want)
	}
	same(t, l, was)
}

// sight is all that can be seen of a link.
type sight struct {
	addr   int
	next   uint64
	newest uint64
	heard  bool
	meter  api.Meter
	echo   string // what it would send, at some times
}

// look is what can be seen of a link. What it would send is asked of copies, by
// value: when its echo was told, and the last time at which that still goes.
func look(l *Link) sight {
	s := sight{addr: l.Addr(), next: l.Next(), meter: l.Meter()}
	s.newest, s.heard = l.Newest()
	if l == nil {
		return s
	}
	for _, now := range []int{l.echo.told, l.echo.told + 1000} {
		other := *l
		b, _ := other.Send(now, nil)
		s.echo += string(b) + "|"
	}
	return s
}

// same holds that a link stands as it did.
func same(t *testing.T, l *Link, was sight) {
	t.Helper()
	if now := look(l); now != was {
		t.Fatalf("the link has changed: %+v, then %+v", was, now)
	}
}

// stands holds what a link says of itself.
func stands(t *testing.T, l *Link, addr int, next, newest uint64, heard bool, meter api.Meter) {
	t.Helper()
	got, is := l.Newest()
	if l.Addr() != addr || l.Next() != next || got != newest || is != heard || l.Meter() != meter {
		t.Fatalf("address %d, next %d, newest %d (%t), meter %v; want %d, %d, %d (%t), %v",
			l.Addr(), l.Next(), got, is, l.Meter(), addr, next, newest, heard, meter)
	}
}

// The examples.
func TestExamples(t *testing.T) {
	up, down := made(t, false, 0, 9), made(t, true, 0, 5)
	a, err := up.Send(100, []byte("ab"))
	if len(a) != 30 || err != api.OK || up.Next() != 1 {
		t.Fatalf("Send: %d bytes, error %d; next %d", len(a), err, up.Next())
	}
	if text, fresh, err := down.Hear(140, 7, a); string(text) != "ab" || !fresh || err != api.OK || down.Addr() != 7 {
		t.Fatalf("Hear: %q, %t, error %d; address %d", text, fresh, err, down.Addr())
	}
	if text, fresh, err := down.Hear(150, 8, a); string(text) != "ab" || fresh || err != api.OK || down.Addr() != 7 {
		t.Fatalf("Hear again: %q, %t, error %d; address %d", text, fresh, err, down.Addr())
	}
	b, err := down.Send(160, nil)
	if err != api.OK {
		t.Fatalf("Send: error %d", err)
	}
	if text, fresh, err := up.Hear(190, 0, b); len(text) > 0 || !fresh || err != api.OK {
		t.Fatalf("Hear: %q, %t, error %d", text, fresh, err)
	}
	stands(t, up, 9, 1, 0, true, api.Meter{Many: 1, Mid: 560, Off: 140})
	if text, fresh, err := up.Hear(200, 0, a); text != nil || fresh || err != api.ErrWay {
		t.Fatalf("Hear of its own packet: %q, %t, error %d", text, fresh, err)
	}
}

// P9.1: links that have heard nothing, at the edges.
func TestNew(t *testing.T) {
	for _, down := range []bool{false, true} {
		for _, next := range []uint64{0, 1, 5, 1 << 32, last - 1, last, 1 << 63} {
			for _, addr := range []int{0, 1, 7, 65534, 65535} {
				stands(t, made(t, down, next, addr), addr, next, 0, false, api.Meter{})
				l, err := New(api.Key{}, down, next, addr)
				if err != api.OK {
					t.Fatalf("New of a key of noughts: error %d", err)
				}
				stands(t, l, addr, next, 0, false, api.Meter{})
			}
		}
	}
	if a, b := made(t, true, 0, 0), made(t, true, 0, 0); a == b {
		t.Error("New tells a link that is not new")
	}
}

// P9.1: what may be no link.
func TestNewRefuses(t *testing.T) {
	refuses := func(down bool, next uint64, addr int) {
		t.Helper()
		if l, err := New(key(), down, next, addr); l != nil || err != api.ErrArg {
			t.Errorf("New(%t, %d, %d): a link: %t, error %d", down, next, addr, l != nil, err)
		}
	}
	for _, down := range []bool{false, true} {
		for _, next := range []uint64{1<<63 + 1, 1<<63 + 2, 1<<63 + 1<<62, math.MaxUint64 - 1, math.MaxUint64} {
			for _, addr := range append(noAddrs(), 0, 7, 65535) {
				refuses(down, next, addr)
			}
		}
		for _, next := range []uint64{0, 5, last, 1 << 63} {
			for _, addr := range noAddrs() {
				refuses(down, next, addr)
			}
		}
	}
}

// P9.1: the key and the direction are the ones handed in; a link all of whose
// numbers are noughts is one as others are.
func TestNewKeys(t *testing.T) {
	for _, k := range []api.Key{{}, {Code: [16]byte{1}}, {Mark: [32]byte{1}}, {Code: [16]byte{15: 7}, Mark: [32]byte{31: 9}}, key()} {
		for _, down := range []bool{false, true} {
			for _, next := range []uint64{0, 3} {
				l, _ := New(k, down, next, 0)
				for i, l := range []*Link{l.Copy(), l} {
					if b, err := l.Send(9, []byte("x")); err != api.OK || !bytes.Equal(b, packetOf(k, down, next, 9, noStamp, []byte("x"))) {
						t.Errorf("the link %d: Send: %x, error %d", i, b, err)
					}
					hears(t, l, 9, 0, packetOf(k, !down, 0, 5, noStamp, []byte("y")), []byte("y"), true)
				}
			}
		}
	}
}

// P9.2: stamps by hand, at the edges.
func TestSendStamps(t *testing.T) {
	for _, x := range []struct{ now, stamp int }{
		{0, 0}, {1, 1}, {255, 255}, {256, 256}, {65533, 65533}, {65534, 65534}, {65535, 0}, {65536, 1},
		{131069, 65534}, {131070, 0}, {131071, 1}, {1 << 32, 1}, {maxTime - 1, 255}, {maxTime, 256},
	} {
		for _, down := range []bool{false, true} {
			l := made(t, down, 7, 0)
			b, err := l.Send(x.now, []byte("text"))
			if err != api.OK || !bytes.Equal(b, packetOf(key(), down, 7, x.stamp, noStamp, []byte("text"))) {
				t.Errorf("Send(%d): %x, error %d", x.now, b, err)
			}
			n, whole, err := seal.Open(key(), b)
			if want := (api.Nonce{Down: down, N: 7}); n != want || err != api.OK || !bytes.Equal(whole, stamped(x.stamp, 65535, []byte("text"))) {
				t.Errorf("Send(%d): %v, %x, error %d", x.now, n, whole, err)
			}
		}
	}
}

// P9.2: texts of any length that may be sent, one after the other, under rising
// numbers.
func TestSendTexts(t *testing.T) {
	for _, down := range []bool{false, true} {
		l := made(t, down, 0, 0)
		sends(t, l, down, 5, noStamp, nil)
		sends(t, l, down, 5, noStamp, []byte{})
		for i, size := range []int{0, 1, 2, 3, 4, 11, 12, 13, 100, 1195, 1196} {
			sends(t, l, down, 5+i, noStamp, some(size))
			sends(t, l, down, 5+i, noStamp, make([]byte, size))
		}
		stands(t, l, 0, 24, 0, false, api.Meter{})
	}
}

// P9.2: errors, in their order; a call that refuses changes nothing, and takes
// no number.
func TestSendRefuses(t *testing.T) {
	long := [][]byte{make([]byte, 1197), make([]byte, 1198), make([]byte, 1200), make([]byte, 1201), make([]byte, 70000)}
	for _, down := range []bool{false, true} {
		for _, next := range []uint64{0, 5, last, 1 << 63} {
			l := made(t, down, next, 0)
			hears(t, l, 50, 0, packetOf(key(), !down, 3, 7, noStamp, nil), nil, true)
			for _, now := range noTimes() {
				for _, text := range append(long, nil, []byte{}, some(1196)) {
					refusesToSend(t, l, now, text, api.ErrArg)
				}
			}
			for _, now := range times() {
				for _, text := range long {
					refusesToSend(t, l, now, text, api.ErrLong)
				}
				if next == 1<<63 {
					refusesToSend(t, l, now, nil, api.ErrSpent)
					refusesToSend(t, l, now, some(1196), api.ErrSpent)
				}
			}
			stands(t, l, 0, next, 3, true, api.Meter{})
			if next < 1<<63 {
				sends(t, l, down, 60, 17, []byte("x")) // the echo was there yet
			}
		}
	}
}

// P9.2: the last nonce, and what comes behind it; what is heard once none is
// left.
func TestSpent(t *testing.T) {
	for _, down := range []bool{false, true} {
		l := made(t, down, last-1, 4)
		sends(t, l, down, 5, noStamp, []byte("a"))
		stands(t, l, 4, last, 0, false, api.Meter{})
		b := sends(t, l, down, 6, noStamp, []byte("b"))
		if n, err := seal.Peek(b); n != (api.Nonce{Down: down, N: last}) || err != api.OK {
			t.Errorf("the last nonce: %v, error %d", n, err)
		}
		for _, l := range []*Link{l, made(t, down, 1<<63, 4)} {
			addr := 4
			for i := range 3 {
				refusesToSend(t, l, 7, nil, api.ErrSpent)
				if down {
					addr = 50 + i
				}
				other := packetOf(key(), !down, uint64(10+i), 9, 100, some(20))
				hears(t, l, 200, 50+i, other, some(20), true)
				hears(t, l, 200, 60, other, some(20), false)
				want, _ := rtt.Hear(api.Meter{}, slices.Repeat([]int{100}, i+1)...)
				stands(t, l, addr, 1<<63, uint64(10+i), true, want)
			}
			refuses(t, l, 200, 1, b, api.ErrWay)
			refusesToSend(t, l, 200, nil, api.ErrSpent)
		}
	}
}

// P9.2: an echo, told now and behind, by how many ticks.
func TestSendEcho(t *testing.T) {
	for _, down := range []bool{false, true} {
		for _, told := range []int{0, 1, 2000, 65534, 65535, 65536, 70000, 131070, maxTime - 1001, maxTime - 1, maxTime} {
			for _, stamp := range []int{0, 1, 255, 256, 64534, 64535, 64536, 65000, 65533, 65534} {
				for _, behind := range []int{0, 1, 2, 100, 535, 999, 1000, 1001, 1002, 65535, 65536, 66535, -1, -2, -1000, -65535, -65536} {
					if told+behind < 0 || told+behind > maxTime {
						continue
					}
					l := made(t, down, 0, 0)
					hears(t, l, told, 0, packetOf(key(), !down, 0, stamp, noStamp, nil), nil, true)
					echo := noStamp
					if behind >= 0 && behind <= 1000 {
						echo = int(mod(stamp + behind))
					}
					sends(t, l, down, told+behind, echo, nil)
					sends(t, l, down, told+behind, noStamp, nil)
				}
			}
		}
	}
}

// P9.2: echoes by hand, each byte: beyond a multiple of 65535, and at it.
func TestSendEchoByHand(t *testing.T) {
	for _, x := range []struct{ stamp, told, now, echo int }{
		{100, 140, 160, 120}, {0, 0, 0, 0}, {0, 0, 1000, 1000}, {0, 0, 1001, 65535},
		{65534, 66000, 66000, 65534}, {65534, 66000, 66001, 0}, {65534, 66000, 66002, 1}, {65534, 66000, 67000, 999},
		{64534, 70000, 71000, 65534}, {64535, 70000, 71000, 0}, {64536, 70000, 71000, 1}, {64535, 70000, 70999, 65534},
		{256, maxTime, maxTime, 256}, {255, maxTime - 1, maxTime, 256}, {5, 100, 99, 65535}, {5, 100, 0, 65535},
	} {
		l := made(t, true, 4, 0)
		hears(t, l, x.told, 0, packetOf(key(), false, 0, x.stamp, noStamp, nil), nil, true)
		sends(t, l, true, x.now, x.echo, []byte("x"))
	}
}

// P9.2: an echo goes once, and is gone too where it was too old, or ahead of
// its time; another one comes with a fresh packet alone.
func TestEchoGoes(t *testing.T) {
	l := made(t, false, 0, 0)
	packet := func(n uint64, stamp int) []byte { return packetOf(key(), true, n, stamp, noStamp, nil) }
	sends(t, l, false, 5, noStamp, nil)
	hears(t, l, 2000, 0, packet(3, 40), nil, true)
	sends(t, l, false, 2010, 50, nil)
	sends(t, l, false, 2010, noStamp, nil)
	for _, away := range []int{3001, 1999, 0, maxTime} {
		n, _ := l.Newest()
		hears(t, l, 2000, 0, packet(n+1, 40), nil, true)
		sends(t, l, false, away, noStamp, nil)
		sends(t, l, false, 2000, noStamp, nil)
		sends(t, l, false, 2010, noStamp, nil)
	}
	hears(t, l, 5000, 0, packet(20, 70), nil, true)
	hears(t, l, 5100, 0, packet(19, 90), nil, false)
	hears(t, l, 5100, 0, packet(20, 90), nil, false)
	sends(t, l, false, 5200, 270, nil)
	hears(t, l, 5300, 0, packet(20, 90), nil, false)
	sends(t, l, false, 5300, noStamp, nil)
	hears(t, l, 6000, 0, packet(21, 1), nil, true)
	hears(t, l, 6500, 0, packet(22, 2), nil, true)
	sends(t, l, false, 6600, 102, nil)
	hears(t, l, 6700, 0, packet(23, 3), nil, true)
	hears(t, l, 100, 0, packet(24, 4), nil, true) // the time may go back
	sends(t, l, false, 150, 54, nil)
}

// P9.3: what is heard: texts, whatever their length, under whatever number, at
// whatever time.
func TestHearTexts(t *testing.T) {
	for _, down := range []bool{false, true} {
		for _, size := range []int{0, 1, 2, 3, 4, 5, 12, 13, 100, 1195, 1196} {
			for _, text := range [][]byte{some(size), make([]byte, size)} {
				for _, n := range []uint64{0, 1, 5, last - 1, last} {
					l := made(t, down, 0, 8)
					hears(t, l, 10, 8, packetOf(key(), !down, n, 3, noStamp, text), text, true)
					stands(t, l, 8, 0, n, true, api.Meter{})
				}
			}
		}
		for _, now := range times() {
			for _, from := range []int{0, 1, 65534, 65535} {
				for _, stamp := range []int{0, 1, 256, 65533, 65534} {
					l := made(t, down, 0, 8)
					hears(t, l, now, from, packetOf(key(), !down, 1, stamp, noStamp, []byte("x")), []byte("x"), true)
					want := 8
					if down {
						want = from
					}
					stands(t, l, want, 0, 1, true, api.Meter{})
					sends(t, l, down, now, stamp, nil)
				}
			}
		}
	}
}

// P9.3: which packets are fresh, by their numbers.
func TestFresh(t *testing.T) {
	for _, down := range []bool{false, true} {
		for _, numbers := range [][]uint64{
			{0, 0, 1, 1, 0, 2, 5, 3, 4, 5, 6, 0, last - 1, last, last, last - 1, 7, 0},
			{1, 0, 1, 2, 0}, {7, 6, 0, 8, 7, 8, 9}, {last, 0, last, last - 1, 1}, {1 << 62, 1, 1<<62 - 1, 1 << 62, 1<<62 + 1},
		} {
			l := made(t, down, 0, 8)
			var fresh []uint64
			for i, n := range numbers {
				is := len(fresh) == 0 || n > slices.Max(fresh)
				if is {
					fresh = append(fresh, n)
				}
				text := some(i)
				hears(t, l, 10+i, 1+i, packetOf(key(), !down, n, i, noStamp, text), text, is)
				if got, heard := l.Newest(); got != slices.Max(fresh) || !heard {
					t.Fatalf("%v, the number %d: newest %d, %t", numbers, i, got, heard)
				}
			}
		}
	}
}

// P9.3: the address is from where the last fresh packet came, of a link that
// sends Down; of another one it stays.
func TestAddr(t *testing.T) {
	for _, down := range []bool{false, true} {
		l := made(t, down, 0, 9)
		at := func(want int) {
			t.Helper()
			if !down {
				want = 9
			}
			if l.Addr() != want {
				t.Fatalf("down %t: address %d, want %d", down, l.Addr(), want)
			}
		}
		packet := func(n uint64) []byte { return packetOf(key(), !down, n, 5, noStamp, nil) }
		hears(t, l, 5, 0, packet(4), nil, true)
		at(0)
		hears(t, l, 5, 65535, packet(5), nil, true)
		at(65535)
		hears(t, l, 5, 7, packet(5), nil, false)
		hears(t, l, 5, 7, packet(4), nil, false)
		hears(t, l, 5, 7, packet(0), nil, false)
		at(65535)
		sends(t, l, down, 5, 5, nil)
		at(65535)
		refuses(t, l, 5, 7, packet(6)[1:], api.ErrSeal)
		refuses(t, l, 5, 7, packetOf(key(), down, 6, 5, noStamp, nil), api.ErrWay)
		refuses(t, l, 5, 7, sealed(key(), !down, 6, []byte{0, 5, 0}), api.ErrBytes)
		refuses(t, l, 5, 7, packetOf(key(), !down, 6, noStamp, noStamp, nil), api.ErrBytes)
		at(65535)
		hears(t, l, 5, 7, packet(6), nil, true)
		at(7)
	}
}

// P9.3: what the meter hears, by how far the echo is back, wherever the time
// stands.
func TestMeter(t *testing.T) {
	ways := []int{0, 1, 2, 70, 4999, 5000, 5001, 5002, 6000, 30000, 60000, 60001, 65533, 65534}
	for _, down := range []bool{false, true} {
		for _, now := range append(times(), 4999, 5001, 65537, 70000, 70534, 70535, 70536) {
			for _, way := range ways {
				l := made(t, down, 0, 0)
				echo := int(mod(now - way))
				hears(t, l, now, 0, packetOf(key(), !down, 0, 1, echo, nil), nil, true)
				want := api.Meter{}
				if way <= 5000 {
					want = api.Meter{Many: 1, Mid: 8 * way, Off: 2 * way}
				}
				if l.Meter() != want {
					t.Fatalf("at %d, an echo of %d: %v, want %v", now, echo, l.Meter(), want)
				}
			}
			l := made(t, down, 0, 0)
			hears(t, l, now, 0, packetOf(key(), !down, 0, 1, noStamp, nil), nil, true)
			if l.Meter() != (api.Meter{}) {
				t.Fatalf("at %d, no echo: %v", now, l.Meter())
			}
		}
	}
}

// P9.3: the meter by hand: where the time has gone past a multiple of 65535, and
// where the echo is ahead of it.
func TestMeterByHand(t *testing.T) {
	for _, x := range []struct{ now, echo, way int }{
		{190, 120, 70}, {0, 0, 0}, {5000, 0, 5000}, {5001, 0, -1}, {100, 101, -1}, {100, 65534, 101}, {0, 65534, 1},
		{65534, 65534, 0}, {65535, 0, 0}, {65535, 65534, 1}, {65535, 1, -1}, {65536, 65534, 2}, {65536, 0, 1},
		{70534, 65534, 5000}, {70535, 65534, -1}, {70535, 0, 5000}, {70536, 0, -1}, {68000, 67800 - 65535, 200},
		{maxTime, 256, 0}, {maxTime, 0, 256}, {maxTime, 65534, 257}, {maxTime, 60791, 5000}, {maxTime, 60790, -1}, {maxTime, 257, -1},
		{65535, 65535, -1}, {0, 65535, -1}, {1, 65535, -1}, {4000, 65535, -1}, {maxTime, 65535, -1},
	} {
		l := made(t, false, 0, 0)
		hears(t, l, x.now, 0, packetOf(key(), true, 0, 1, x.echo, nil), nil, true)
		want := api.Meter{}
		if x.way >= 0 {
			want = api.Meter{Many: 1, Mid: 8 * x.way, Off: 2 * x.way}
		}
		if l.Meter() != want {
			t.Errorf("at %d, an echo of %d: %v, want %v", x.now, x.echo, l.Meter(), want)
		}
	}
}

// P9.3: the meter goes on with each fresh packet that has an echo, not too old,
// and with no other one.
func TestMeterGoesOn(t *testing.T) {
	l := made(t, false, 0, 0)
	packet := func(n uint64, echo int) []byte { return packetOf(key(), true, n, 1, echo, nil) }
	meter := func(samples ...int) {
		t.Helper()
		want, err := rtt.Hear(api.Meter{}, samples...)
		if err != api.OK || l.Meter() != want {
			t.Fatalf("the meter: %v, want %v", l.Meter(), want)
		}
	}
	meter()
	hears(t, l, 10000, 0, packet(1, 9900), nil, true)
	meter(100)
	hears(t, l, 10000, 0, packet(1, 9900), nil, false)
	hears(t, l, 10500, 0, packet(1, 9900), nil, false)
	hears(t, l, 10500, 0, packet(0, 9800), nil, false)
	meter(100)
	hears(t, l, 10500, 0, packet(2, noStamp), nil, true)
	hears(t, l, 10500, 0, packet(3, 5499), nil, true)
	hears(t, l, 10500, 0, packet(4, 10501), nil, true)
	refuses(t, l, 10500, 0, packetOf(key(), true, 5, noStamp, 10400, nil), api.ErrBytes)
	refuses(t, l, 10500, 0, packetOf(key(), false, 5, 1, 10400, nil), api.ErrWay)
	refuses(t, l, 10500, 0, packetOf(api.Key{}, true, 5, 1, 10400, nil), api.ErrSeal)
	meter(100)
	hears(t, l, 10500, 0, packet(5, 10320), nil, true)
	meter(100, 180)
	hears(t, l, 10500, 0, packet(6, 10500), nil, true)
	hears(t, l, 10500, 0, packet(7, 5500), nil, true)
	meter(100, 180, 0, 5000)
	sends(t, l, false, 10500, 1, nil)
	meter(100, 180, 0, 5000)
}

// P9.3: errors, in their order, and that nothing has changed by them; whether
// the packet would be fresh or not.
func TestHearRefuses(t *testing.T) {
	for _, down := range []bool{false, true} {
		l := made(t, down, 3, 8)
		hears(t, l, 2000, 8, packetOf(key(), !down, 5, 40, 1990, nil), nil, true)
		for _, n := range []uint64{0, 4, 5, 6, last} {
			good := packetOf(key(), !down, n, 3, 7, []byte("text"))
			own := packetOf(key(), down, n, 3, 7, []byte("text"))
			bad := bytes.Clone(good)
			bad[len(bad)-1]++
			badOwn := bytes.Clone(own)
			badOwn[len(badOwn)-1]++
			for _, b := range [][]byte{good, own, bad, nil, {}, some(23), some(1225), sealed(key(), !down, n, nil)} {
				for _, now := range noTimes() {
					refuses(t, l, now, 8, b, api.ErrArg)
					refuses(t, l, now, -1, b, api.ErrArg)
				}
				for _, from := range noAddrs() {
					refuses(t, l, 2010, from, b, api.ErrArg)
				}
			}
			for _, x := range []struct {
				b    []byte
				want api.Errno
			}{
				{nil, api.ErrBytes}, {[]byte{}, api.ErrBytes}, {some(23), api.ErrBytes}, {good[:23], api.ErrBytes}, {own[:23], api.ErrBytes},
				{some(1225), api.ErrBytes}, {sealed(key(), !down, n, make([]byte, 1201)), api.ErrBytes}, {sealed(key(), down, n, make([]byte, 1201)), api.ErrBytes},
				{some(24), api.ErrSeal}, {some(1224), api.ErrSeal}, {bad, api.ErrSeal}, {badOwn, api.ErrSeal},
				{own, api.ErrWay}, {packetOf(key(), down, n, noStamp, 7, nil), api.ErrWay},
				{sealed(key(), down, n, nil), api.ErrWay}, {sealed(key(), down, n, []byte{1, 2, 3}), api.ErrWay},
				{sealed(key(), !down, n, nil), api.ErrBytes}, {sealed(key(), !down, n, []byte{1}), api.ErrBytes},
				{sealed(key(), !down, n, []byte{1, 2}), api.ErrBytes}, {sealed(key(), !down, n, []byte{1, 2, 3}), api.ErrBytes},
				{sealed(key(), !down, n, []byte{0, 0, 0}), api.ErrBytes}, {sealed(key(), !down, n, []byte{255, 255, 0}), api.ErrBytes},
				{packetOf(key(), !down, n, noStamp, 7, nil), api.ErrBytes}, {packetOf(key(), !down, n, noStamp, noStamp, some(1196)), api.ErrBytes},
			} {
				refuses(t, l, 2010, 9, x.b, x.want)
			}
		}
		hears(t, l, 2010, 8, packetOf(key(), !down, 6, 65534, 2000, nil), nil, true)
		hears(t, l, 2010, 8, packetOf(key(), !down, 2, 65534, 2000, []byte("old")), []byte("old"), false)
		hears(t, l, 2010, 8, sealed(key(), !down, 7, []byte{255, 254, 255, 255}), nil, true)
		sends(t, l, down, 2011, 0, nil)
	}
}

// P9.3, P9.5: each bit of a packet changed, one by one; a packet that is cut, or
// goes on; one of another key. The packet itself is fresh then as ever.
func TestForged(t *testing.T) {
	for _, down := range []bool{false, true} {
		l := made(t, down, 0, 8)
		hears(t, l, 2000, 8, packetOf(key(), !down, 5, 40, 1990, nil), nil, true)
		b := packetOf(key(), !down, 6, 50, 1990, []byte("some text"))
		for i := range b {
			for bit := range 8 {
				b[i] ^= 1 << bit
				refuses(t, l, 2010, 9, b, api.ErrSeal)
				b[i] ^= 1 << bit
			}
		}
		for size := range len(b) {
			want := api.ErrSeal
			if size < 24 {
				want = api.ErrBytes
			}
			refuses(t, l, 2010, 9, b[:size], want)
			refuses(t, l, 2010, 9, b[len(b)-size:], want)
		}
		refuses(t, l, 2010, 9, append(bytes.Clone(b), 0), api.ErrSeal)
		refuses(t, l, 2010, 9, append(bytes.Clone(b), b...), api.ErrSeal)
		for i := range 32 {
			other := key()
			other.Mark[i]++
			refuses(t, l, 2010, 9, packetOf(other, !down, 6, 50, 1990, nil), api.ErrSeal)
		}
		hears(t, l, 2010, 9, b, []byte("some text"), true)
	}
}

// P9.4: a copy stands so, and each goes its own way.
func TestCopy(t *testing.T) {
	for _, down := range []bool{false, true} {
		for _, copied := range []func(l *Link) *Link{(*Link).Copy, func(l *Link) *Link {
			other := *l
			return &other
		}} {
			packet := func(n uint64, text string) []byte {
				return packetOf(key(), !down, n, 40, 1990, []byte(text))
			}
			l := made(t, down, 3, 8)
			fresh := copied(l)
			hears(t, l, 2000, 8, packet(5, "x"), []byte("x"), true)
			stands(t, fresh, 8, 3, 0, false, api.Meter{})
			sends(t, fresh, down, 2000, noStamp, nil)

			was := look(l)
			other := copied(l)
			if other == nil || other == l {
				t.Fatal("Copy tells no other link")
			}
			same(t, other, was)
			sends(t, other, down, 2010, 50, []byte("a"))
			sends(t, other, down, 2010, noStamp, []byte("b"))
			same(t, l, was)
			hears(t, other, 2020, 7, packet(6, "y"), []byte("y"), true)
			same(t, l, was)
			now := look(other)
			sends(t, l, down, 2030, 70, []byte("c"))
			hears(t, l, 2040, 6, packet(9, "z"), []byte("z"), true)
			same(t, other, now)
			hears(t, other, 2040, 6, packet(7, "w"), []byte("w"), true)
			hears(t, l, 2040, 6, packet(7, "w"), []byte("w"), false)
			if l.Next() != 4 || other.Next() != 5 || l.Meter().Many != 2 || other.Meter().Many != 3 {
				t.Fatalf("next %d and %d, meters %v and %v", l.Next(), other.Next(), l.Meter(), other.Meter())
			}
		}
	}
}

// P9.4: one that has no nonce left is copied as such.
func TestCopyOfSpent(t *testing.T) {
	l := made(t, true, last, 8)
	ahead := l.Copy()
	sends(t, l, true, 1, noStamp, nil)
	refusesToSend(t, l.Copy(), 1, nil, api.ErrSpent)
	sends(t, ahead, true, 1, noStamp, nil)
	refusesToSend(t, ahead, 1, nil, api.ErrSpent)
}

// P9.2 to P9.4: a nil link, and one that New did not make, at every call; they
// stay none, whatever is asked of them.
func TestNoLink(t *testing.T) {
	b := packetOf(api.Key{}, true, 0, 1, noStamp, []byte("x"))
	c := packetOf(api.Key{}, false, 0, 1, noStamp, []byte("x"))
	var value Link
	other := *new(Link)
	for _, l := range []*Link{nil, new(Link), {}, &value, &other, (*Link)(nil).Copy(), new(Link).Copy()} {
		for range 2 {
			stands(t, l, 0, 0, 0, false, api.Meter{})
			if l.Copy() != nil {
				t.Fatal("no link has a copy")
			}
			for _, now := range append(noTimes(), times()...) {
				for _, text := range [][]byte{nil, {}, some(1196), some(1197)} {
					refusesToSend(t, l, now, text, api.ErrNil)
				}
				for _, from := range append(noAddrs(), 0, 7, 65535) {
					for _, b := range [][]byte{nil, {}, some(23), some(24), b, c} {
						refuses(t, l, now, from, b, api.ErrNil)
					}
				}
			}
		}
	}
}

// P9.4: asking a link changes nothing, and the same is told each time.
func TestAsking(t *testing.T) {
	l := made(t, true, 3, 8)
	hears(t, l, 2000, 7, packetOf(key(), false, 0, 40, 1900, nil), nil, true)
	for range 3 {
		stands(t, l, 7, 3, 0, true, api.Meter{Many: 1, Mid: 800, Off: 200})
		l.Copy()
	}
	sends(t, l, true, 2000, 40, nil)
}

// P9.5: what one end sends, in whatever order it comes and however often, is
// heard as it was; and is fresh, if none behind it came yet.
func TestBothEnds(t *testing.T) {
	r := rand.New(rand.NewSource(95))
	for round := range 60 {
		down := round%2 == 0
		from, to := made(t, down, uint64(r.Intn(3)), 0), made(t, !down, 0, 3)
		var texts, packets [][]byte
		for i := range 30 {
			texts = append(texts, some(r.Intn(1197)>>r.Intn(9)))
			packets = append(packets, sends(t, from, down, 100*i, noStamp, texts[i]))
		}
		newest := -1
		for step := range 90 {
			i := r.Intn(len(packets))
			if i > newest+4 {
				continue
			}
			hears(t, to, 3000+step, 4, packets[i], texts[i], i > newest)
			newest = max(newest, i)
			refuses(t, from, 3000+step, 4, packets[i], api.ErrWay)
		}
		if n, _ := to.Newest(); n != from.Next()-uint64(30-newest) {
			t.Fatalf("newest %d, next %d, of 30 the number %d was the newest", n, from.Next(), newest)
		}
	}
}

// P9.5: nonces rise by one, whatever is heard and refused between, so that none
// is used twice, of both directions too.
func TestNoncesRise(t *testing.T) {
	r := rand.New(rand.NewSource(96))
	used := map[api.Nonce]bool{}
	for _, down := range []bool{false, true} {
		l := made(t, down, 1000, 0)
		for i := range uint64(300) {
			switch r.Intn(5) {
			case 0:
				refusesToSend(t, l, -1, nil, api.ErrArg)
			case 1:
				refusesToSend(t, l, 0, make([]byte, 1197), api.ErrLong)
			case 2:
				n := uint64(r.Intn(400))
				newest, heard := l.Newest()
				hears(t, l, 5, 0, packetOf(key(), !down, n, 5, noStamp, nil), nil, !heard || n > newest)
			case 3:
				refuses(t, l, 5, 0, some(50), api.ErrSeal)
			}
			b, err := l.Send(r.Intn(100000), nil)
			n, _ := seal.Peek(b)
			if err != api.OK || n != (api.Nonce{Down: down, N: 1000 + i}) || used[n] {
				t.Fatalf("the nonce %v, error %d, want the number %d", n, err, 1000+i)
			}
			used[n] = true
		}
	}
}

// words are a link by the words of the chapter: what it has heard is a list of
// numbers and one of samples.
type words struct {
	down    bool
	next    uint64
	addr    int
	numbers []uint64
	samples []int
	echo    []int // its stamp, and when it was told; or none
}

// send is what the chapter says of Send.
func (w *words) send(now int, text []byte) ([]byte, api.Errno) {
	switch {
	case now < 0 || now > 1099511627776:
		return nil, api.ErrArg
	case len(text) > 1196:
		return nil, api.ErrLong
	case w.next == 9223372036854775808:
		return nil, api.ErrSpent
	}
	echo := 65535
	if w.echo != nil && now >= w.echo[1] && now <= w.echo[1]+1000 {
		echo = int(mod(w.echo[0] + now - w.echo[1]))
	}
	b := packetOf(key(), w.down, w.next, int(mod(now)), echo, text)
	w.next++
	w.echo = nil
	return b, api.OK
}

// open is what the chapter of layer 6 says of a packet: its word and its text.
func open(b []byte) (uint64, []byte, api.Errno) {
	if len(b) < 24 || len(b) > 1224 {
		return 0, nil, api.ErrBytes
	}
	end := len(b) - 16
	if !bytes.Equal(tag(key(), b[:end]), b[end:]) {
		return 0, nil, api.ErrSeal
	}
	w := binary.BigEndian.Uint64(b)
	return w, turned(key(), w, b[8:end]), api.OK
}

// hear is what the chapter says of Hear.
func (w *words) hear(now, from int, b []byte) ([]byte, bool, api.Errno) {
	if now < 0 || now > 1099511627776 || from < 0 || from > 65535 {
		return nil, false, api.ErrArg
	}
	word, whole, err := open(b)
	if err != api.OK {
		return nil, false, err
	}
	if w.down == (word >= 1<<63) {
		return nil, false, api.ErrWay
	}
	if len(whole) < 4 || whole[0] == 255 && whole[1] == 255 {
		return nil, false, api.ErrBytes
	}
	stamp, echo := 256*int(whole[0])+int(whole[1]), 256*int(whole[2])+int(whole[3])
	number := word % (1 << 63)
	if len(w.numbers) > 0 && number <= slices.Max(w.numbers) {
		return whole[4:], false, api.OK
	}
	w.numbers = append(slices.Clone(w.numbers), number)
	if w.down {
		w.addr = from
	}
	w.echo = []int{stamp, now}
	if way := mod(now - echo); echo != 65535 && way <= 5000 {
		w.samples = append(slices.Clone(w.samples), int(way))
	}
	return whole[4:], true, api.OK
}

// pair is a link, and the same by words.
type pair struct {
	l *Link
	w words
}

// stands holds what a link says of itself to what the words say.
func (x *pair) stands(t *testing.T) {
	t.Helper()
	meter, err := rtt.Hear(api.Meter{}, x.w.samples...)
	if err != api.OK {
		t.Fatal(err)
	}
	newest, heard := uint64(0), len(x.w.numbers) > 0
	if heard {
		newest = slices.Max(x.w.numbers)
	}
	stands(t, x.l, x.w.addr, x.w.next, newest, heard, meter)
}

func (x *pair) send(t *testing.T, now int, text []byte) []byte {
	t.Helper()
	want, wantErr := x.w.send(now, text)
	b, err := x.l.Send(now, text)
	if !bytes.Equal(b, want) || err != wantErr || err != api.OK && b != nil {
		t.Fatalf("Send(%d) of %d bytes: %x, error %d; want %x, error %d", now, len(text), b, err, want, wantErr)
	}
	x.stands(t)
	return b
}

func (x *pair) hear(t *testing.T, now, from int, b []byte) {
	t.Helper()
	want, wantFresh, wantErr := x.w.hear(now, from, b)
	text, fresh, err := x.l.Hear(now, from, b)
	if !bytes.Equal(text, want) || fresh != wantFresh || err != wantErr || err != api.OK && text != nil {
		t.Fatalf("Hear(%d, %d) of %x: %x, %t, error %d; want %x, %t, error %d", now, from, b, text, fresh, err, want, wantFresh, wantErr)
	}
	x.stands(t)
}

// anyTime is one near to now as a rule, seldom any other one, or none.
func anyTime(r *rand.Rand, now int) int {
	switch r.Intn(30) {
	case 0:
		return noTimes()[r.Intn(len(noTimes()))]
	case 1:
		return times()[r.Intn(len(times()))]
	case 2, 3:
		return now + []int{-1001, -1000, -1, 1000, 1001, 5000, 5001, 65535}[r.Intn(8)]
	}
	return now
}

// anyPacket is one of those that were sent as a rule, seldom a forged one.
func anyPacket(r *rand.Rand, all [][]byte, now int) []byte {
	switch r.Intn(12) {
	case 0:
		b := bytes.Clone(all[r.Intn(len(all))])
		b[r.Intn(len(b))] ^= 1 << r.Intn(8)
		return b
	case 1:
		b := all[r.Intn(len(all))]
		return b[:r.Intn(len(b))]
	case 2:
		other := key()
		other.Mark[r.Intn(32)]++
		return packetOf(other, r.Intn(2) == 0, uint64(r.Intn(1000)), r.Intn(65535), noStamp, nil)
	case 3:
		// With the key, but not by a link: any stamps, or too few bytes.
		whole := stamped(65534+r.Intn(2), int(mod(now-4998-r.Intn(5))), some(r.Intn(3)))
		return sealed(key(), r.Intn(2) == 0, uint64(r.Intn(60)), whole[:len(whole)-r.Intn(len(whole))])
	}
	return all[max(0, len(all)-1-r.Intn(6))]
}

// P9.2 to P9.5: two ends and copies of them, over a way that loses, doubles,
// swaps and forges, by the chapter's words.
func TestInWords(t *testing.T) {
	r := rand.New(rand.NewSource(94))
	for range 150 {
		now := []int{0, 60000, 131000, maxTime - 50000}[r.Intn(4)]
		next := []uint64{0, 5, last - 20}[r.Intn(3)]
		var ends []pair
		for i := range 4 {
			down := i%2 == 0
			ends = append(ends, pair{made(t, down, next, 3), words{down: down, next: next, addr: 3}})
		}
		all := [][]byte{ends[0].send(t, now, nil)}
		for range 200 {
			i := r.Intn(len(ends))
			x := &ends[i]
			switch r.Intn(16) {
			case 0:
				// A copy takes the place of another end of that direction.
				ends[(i+2)%4] = pair{x.l.Copy(), x.w}
				ends[(i+2)%4].stands(t)
			case 1, 2, 3, 4, 5, 6:
				text := some(r.Intn(40))
				if r.Intn(30) == 0 {
					text = make([]byte, 1195+r.Intn(4))
				}
				if b := x.send(t, anyTime(r, now), text); b != nil {
					all = append(all, b)
				}
			default:
				from := []int{-1, 0, 65535, 65536, 7, 8, 9, 10}[r.Intn(8)]
				x.hear(t, anyTime(r, now), from, anyPacket(r, all, now))
			}
			now += []int{0, 1, 40, 300, 1200}[r.Intn(5)]
		}
	}
}

// Rules: what is handed in stays as it was, the room behind it too; bytes that
// are changed behind a call change nothing that was told, or that is told.
func TestArgumentsStay(t *testing.T) {
	up, down := made(t, false, 0, 0), made(t, true, 0, 0)
	for i, size := range []int{0, 1, 50, 1196, 1197} {
		room := some(size + 100)
		want := bytes.Clone(room)
		b, err := up.Send(1000*i, room[20:20+size])
		if !bytes.Equal(room, want) {
			t.Fatalf("Send of %d bytes changed what was handed in", size)
		}
		if err != api.OK {
			continue
		}
		told := bytes.Clone(b)
		clear(room)
		if !bytes.Equal(b, told) {
			t.Fatalf("Send of %d bytes tells what was handed in", size)
		}
		room = append(append(some(20), b...), some(100)...)
		packet := room[20 : 20+len(b)]
		clone := bytes.Clone(room)
		text, _, err := down.Hear(1000*i+5, 4, packet)
		down.Hear(1000*i+5, 4, packet)
		down.Hear(1000*i+5, 4, packet[1:])
		down.Hear(-1, 4, packet)
		up.Hear(1000*i+5, 4, packet)
		was := look(down)
		if !bytes.Equal(room, clone) || err != api.OK {
			t.Fatalf("Hear of %d bytes changed what was handed in; error %d", size, err)
		}
		clear(room)
		if !bytes.Equal(text, want[20:20+size]) {
			t.Fatalf("Hear of %d bytes tells what was handed in", size)
		}
		same(t, down, was)
		sends(t, down, true, 1000*i+15, 1000*i+10, nil)
	}
}

// Rules: what is told is new each time, and the caller's own.
func TestAnswersAreNew(t *testing.T) {
	up, down := made(t, false, 0, 0), made(t, true, 0, 0)
	twin := up.Copy()
	text := some(60)
	b, _ := up.Send(100, text)
	want := bytes.Clone(b)
	clear(b[:cap(b)])
	if again, _ := twin.Send(100, text); !bytes.Equal(again, want) || !bytes.Equal(text, some(60)) {
		t.Fatal("packets share something")
	}
	packet := bytes.Clone(want)
	for i := range 3 {
		got, fresh, err := down.Hear(150, 4, packet)
		if !bytes.Equal(got, text) || fresh != (i == 0) || err != api.OK {
			t.Fatalf("Hear: %x, %t, error %d", got, fresh, err)
		}
		clear(got[:cap(got)])
		if !bytes.Equal(packet, want) {
			t.Fatal("what was told shares what was handed in")
		}
	}
	sends(t, down, true, 160, 110, nil)
}

// P1: every call ends and none panics, at all edges together; with an error
// nothing beside it is told.
func TestAnyArguments(t *testing.T) {
	links := map[string]func(down bool) *Link{
		"nil":   func(bool) *Link { return nil },
		"zero":  func(bool) *Link { return new(Link) },
		"new":   func(down bool) *Link { return made(t, down, 0, 0) },
		"spent": func(down bool) *Link { return made(t, down, 1<<63, 65535) },
		"heard": func(down bool) *Link {
			l := made(t, down, last, 0)
			l.Hear(maxTime, 0, packetOf(key(), !down, last, 65534, 256, nil))
			return l
		},
	}
	packets := [][]byte{nil, {}, some(23), some(24), some(1224), some(1225)}
	for _, down := range []bool{false, true} {
		packets = append(packets, sealed(key(), down, 0, nil), packetOf(key(), down, 1, 0, 0, nil), packetOf(key(), down, last, 65534, 65534, some(1196)))
	}
	for name, make := range links {
		for _, down := range []bool{false, true} {
			for _, now := range append(noTimes(), times()...) {
				for _, text := range [][]byte{nil, some(1196), some(1197)} {
					if b, err := make(down).Send(now, text); (err == api.OK) == (b == nil) {
						t.Fatalf("%s: Send(%d) of %d bytes: %d bytes, error %d", name, now, len(text), len(b), err)
					}
				}
				for _, from := range append(noAddrs(), 0, 65535) {
					for _, b := range packets {
						text, fresh, err := make(down).Hear(now, from, b)
						if err != api.OK && (text != nil || fresh) {
							t.Fatalf("%s: Hear(%d, %d) of %d bytes: %x, %t, error %d", name, now, from, len(b), text, fresh, err)
						}
					}
				}
			}
		}
	}
}

// P9.3: whatever stands in a packet that who has the key made.
func FuzzHear(f *testing.F) {
	f.Add(5, 7, uint64(1), []byte{0, 1, 0, 2, 'x'})
	f.Add(70000, 0, uint64(1)<<63, []byte{255, 254, 255, 255})
	f.Add(-1, 65536, uint64(3), []byte{255, 255, 0})
	f.Fuzz(func(t *testing.T, now, from int, word uint64, whole []byte) {
		b := sealed(key(), word >= 1<<63, word%(1<<63), whole)
		for _, down := range []bool{false, true} {
			x := pair{made(t, down, 0, 3), words{down: down, addr: 3}}
			x.hear(t, now, from, b)
			x.hear(t, now, from, b)
			x.send(t, now, whole)
		}
	})
}
