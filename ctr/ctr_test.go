package ctr

import (
	"bytes"
	known "crypto/aes"
	"crypto/cipher"
	"encoding/binary"
	"encoding/hex"
	"iter"
	"math"
	"math/rand"
	"testing"

	"oriel/aes"
	"oriel/api"
)

// whole is how many blocks a stream has that end at MaxFlow or ahead of it.
const whole = api.MaxFlow / 16

// some is n bytes, the same ones each time, none of them nought.
func some(n int) []byte {
	b := make([]byte, n)
	r := rand.New(rand.NewSource(int64(n)))
	for i := range b {
		b[i] = byte(1 + r.Intn(255))
	}
	return b
}

// streams are keys and nonces: all noughts, and each place of them told apart.
func streams() []struct {
	key   [16]byte
	nonce uint64
} {
	return []struct {
		key   [16]byte
		nonce uint64
	}{
		{[16]byte{}, 0},
		{[16]byte{}, 1},
		{[16]byte{1}, 0},
		{[16]byte{15: 1}, 1 << 63},
		{[16]byte(some(16)), 0x0102030405060708},
		{[16]byte(bytes.Repeat([]byte{255}, 16)), math.MaxUint64},
	}
}

// streamOf is the stream's first n bytes by another AES that counts.
func streamOf(t *testing.T, key [16]byte, nonce uint64, n int) []byte {
	t.Helper()
	c, err := known.NewCipher(key[:])
	if err != nil {
		t.Fatal(err)
	}
	start := make([]byte, 16)
	binary.BigEndian.PutUint64(start, nonce)
	l := make([]byte, n)
	cipher.NewCTR(c, start).XORKeyStream(l, l)
	return l
}

// blockInWords is the stream's block i, in the words of the chapter.
func blockInWords(key [16]byte, nonce uint64, i int) [16]byte {
	var b [16]byte
	for k := 7; k >= 0; k-- {
		b[k], b[8+k] = byte(nonce%256), byte(i%256)
		nonce, i = nonce/256, i/256
	}
	return aes.Hide(key, b)
}

// sum is the exclusive or of a text and the bytes that a stream has for it.
func sum(text, stream []byte) []byte {
	l := make([]byte, len(text))
	for i := range l {
		l[i] = text[i] ^ stream[i]
	}
	return l
}

// at is a flow of New at a place.
func at(t *testing.T, key [16]byte, nonce uint64, place int) *Flow {
	t.Helper()
	f := New(key, nonce)
	on(t, f, place)
	return f
}

// on takes a flow on to a place, and is what the stream has up to there.
func on(t *testing.T, f *Flow, place int) []byte {
	t.Helper()
	l, err := f.Turn(make([]byte, place-f.At()))
	if err != api.OK || f.At() != place {
		t.Fatalf("a flow to %d: error %d, at %d", place, err, f.At())
	}
	return l
}

// numbered is a block and its number.
type numbered struct {
	i int
	b [16]byte
}

// gone is what a function goes over, at most so many.
func gone(blocks iter.Seq2[int, [16]byte], most int) []numbered {
	var l []numbered
	if most == 0 {
		return l
	}
	for i, b := range blocks {
		l = append(l, numbered{i, b})
		if len(l) == most {
			break
		}
	}
	return l
}

// like holds what was gone over against the stream's blocks from first on.
func like(t *testing.T, name string, got []numbered, key [16]byte, nonce uint64, first, many int) {
	t.Helper()
	if len(got) != many {
		t.Errorf("%s: %d blocks, want %d", name, len(got), many)
		return
	}
	want := streamOf(t, key, nonce, 16*(first+many))
	for k, x := range got {
		if i := first + k; x.i != i || x.b != [16]byte(want[16*i:16*i+16]) {
			t.Errorf("%s: the block %d has the number %d and is %x, want %x", name, i, x.i, x.b, want[16*i:16*i+16])
			return
		}
	}
}

// The examples.
func TestExamples(t *testing.T) {
	key := [16]byte{3, 1, 4}
	if got := Turn(key, 5, Turn(key, 5, []byte("hello"))); string(got) != "hello" {
		t.Errorf("hello, turned twice: %q", got)
	}
	if string(Turn(key, 5, []byte("hello"))) == "hello" {
		t.Error("hello, turned, is hello")
	}
	for _, x := range [][2]int{{0, 0}, {-1, 5}, {0, 1<<20 + 1}} {
		if got := Stream(key, 5, x[0], x[1]); len(got) != 0 {
			t.Errorf("%d bytes from %d: %d bytes", x[1], x[0], len(got))
		}
	}
	f := New(key, 5)
	ab, err1 := f.Turn([]byte("ab"))
	c, err2 := f.Turn([]byte("c"))
	if want := string(Turn(key, 5, []byte("abc"))); err1 != api.OK || err2 != api.OK || string(ab)+string(c) != want {
		t.Errorf("ab, c: %x, %x, errors %d, %d, want %x", ab, c, err1, err2, want)
	}
	if f.At() != 3 {
		t.Errorf("the place behind abc: %d", f.At())
	}
}

// P5.1: a stream that is known: it begins with the noughts hidden.
func TestStreamKnown(t *testing.T) {
	const want = "66e94bd4ef8a2c3b884cfa59ca342b2e" + "58e2fccefa7e3061367f1d57a4e7455a" + "0388dace60b6a392f328c2b971b2fe78"
	if got := hex.EncodeToString(Stream([16]byte{}, 0, 0, 48)); got != want {
		t.Errorf("the key 0, the nonce 0: %s, want %s", got, want)
	}
}

// P5.1: the stream's blocks in the words of the chapter: the nonce stands in
// the first eight bytes, the block's number in the others.
func TestStreamInWords(t *testing.T) {
	for _, s := range streams() {
		for _, i := range []int{0, 1, 2, 255, 256, 257, 4095, whole - 1} {
			want := blockInWords(s.key, s.nonce, i)
			if got := Stream(s.key, s.nonce, 16*i, 16); !bytes.Equal(got, want[:]) {
				t.Errorf("%x, %x: the block %d: %x, want %x", s.key, s.nonce, i, got, want)
			}
		}
	}
}

// P5.1: any bytes of a stream, within a block, over blocks, at their ends.
func TestStream(t *testing.T) {
	for _, s := range streams()[3:] {
		want := streamOf(t, s.key, s.nonce, 100)
		for from := range 51 {
			for n := range 50 {
				if got := Stream(s.key, s.nonce, from, n); !bytes.Equal(got, want[from:from+n]) {
					t.Fatalf("%x, %x: %d from %d: %x, want %x", s.key, s.nonce, n, from, got, want[from:from+n])
				}
			}
		}
	}
}

// P5.1: all of a stream, and its last bytes.
func TestStreamToItsEnd(t *testing.T) {
	key, nonce := [16]byte(some(16)), uint64(77)
	want := streamOf(t, key, nonce, api.MaxFlow)
	if got := Stream(key, nonce, 0, api.MaxFlow); !bytes.Equal(got, want) {
		t.Errorf("all %d bytes: %d, or others", api.MaxFlow, len(got))
	}
	for _, n := range []int{0, 1, 2, 15, 16, 17, 31, 32, 33, 5000} {
		if got := Stream(key, nonce, api.MaxFlow-n, n); !bytes.Equal(got, want[api.MaxFlow-n:]) {
			t.Errorf("the last %d bytes: %d, or others", n, len(got))
		}
	}
}

// P5.1: none from below 0, of fewer than 0, beyond MaxFlow; and where the sum
// would not fit.
func TestStreamNone(t *testing.T) {
	key := [16]byte{2}
	for _, x := range [][2]int{
		{-1, 0}, {-1, 1}, {-1, 5}, {-16, 32}, {0, -1}, {5, -1}, {-1, -1}, {20, -16},
		{0, api.MaxFlow + 1}, {1, api.MaxFlow}, {api.MaxFlow, 1}, {api.MaxFlow + 1, 0}, {api.MaxFlow - 15, 16},
		{api.MaxFlow + 1, -1}, {-1, api.MaxFlow + 1}, {api.MaxFlow, api.MaxFlow},
		{math.MaxInt, 0}, {math.MaxInt, 1}, {math.MaxInt, math.MaxInt}, {0, math.MaxInt}, {1, math.MaxInt},
		{math.MaxInt - 15, 16}, {16, math.MaxInt - 15}, {api.MaxFlow, math.MaxInt}, {math.MaxInt, api.MaxFlow},
		{math.MaxInt/2 + 1, math.MaxInt/2 + 1}, {math.MaxInt/2 + 9, math.MaxInt/2 + 9},
		{math.MinInt, 0}, {math.MinInt, 16}, {math.MinInt, math.MinInt}, {0, math.MinInt}, {16, math.MinInt},
		{math.MinInt, math.MaxInt}, {math.MaxInt, math.MinInt}, {-1, math.MaxInt}, {math.MaxInt, -1},
		{1 << 32, 1}, {1, 1 << 32}, {0, 1 << 40},
	} {
		if got := Stream(key, 1, x[0], x[1]); len(got) != 0 {
			t.Errorf("%d bytes from %d: %d bytes", x[1], x[0], len(got))
		}
	}
	for _, from := range []int{0, 1, 15, 16, 17, api.MaxFlow - 1, api.MaxFlow} {
		if got := Stream(key, 1, from, 0); len(got) != 0 {
			t.Errorf("no bytes from %d: %d bytes", from, len(got))
		}
	}
}

// P5.1, P5.4: a text is turned by the stream's bytes from 0 on, and twice it is
// the text.
func TestTurn(t *testing.T) {
	for _, s := range streams() {
		stream := streamOf(t, s.key, s.nonce, 1200)
		for _, n := range []int{0, 1, 2, 15, 16, 17, 31, 32, 33, 100, 256, 1200} {
			text := some(n)
			got := Turn(s.key, s.nonce, text)
			if !bytes.Equal(got, sum(text, stream)) {
				t.Errorf("%x, %x: %d bytes turned: %x", s.key, s.nonce, n, got)
			}
			if again := Turn(s.key, s.nonce, got); !bytes.Equal(again, text) {
				t.Errorf("%x, %x: %d bytes turned twice: %x", s.key, s.nonce, n, again)
			}
		}
	}
}

// P5.1: no text, nil too.
func TestTurnNone(t *testing.T) {
	for _, text := range [][]byte{nil, {}} {
		if got := Turn([16]byte{1}, 2, text); len(got) != 0 {
			t.Errorf("no text turned: %x", got)
		}
	}
}

// P5.1, P5.4: MaxFlow bounds Stream and flows, but no text that Turn turns.
func TestTurnBeyondMaxFlow(t *testing.T) {
	key, nonce := [16]byte{7, 15: 7}, uint64(1)<<63|9
	text := some(api.MaxFlow + 33)
	got := Turn(key, nonce, text)
	if !bytes.Equal(got, sum(text, streamOf(t, key, nonce, len(text)))) {
		t.Errorf("%d bytes turned: %d, or others", len(text), len(got))
	}
}

// P5.1: each byte of the key and of the nonce tells.
func TestKeyAndNonceTell(t *testing.T) {
	text := some(40)
	seen := map[string]int{string(Turn([16]byte{}, 0, text)): -1}
	for i := range 24 {
		var key [16]byte
		var nonce uint64
		if i < 16 {
			key[i] = 1
		} else {
			nonce = 1 << (8 * (i - 16))
		}
		got := string(Turn(key, nonce, text))
		if other, ok := seen[got]; ok {
			t.Errorf("%d and %d turn alike", other, i)
		}
		seen[got] = i
	}
}

// P5.2: a flow begins at 0, whatever its key and nonce, and goes its own way.
func TestNew(t *testing.T) {
	for _, s := range streams() {
		f, g := New(s.key, s.nonce), New(s.key, s.nonce)
		if f == nil || f == g || f.At() != 0 {
			t.Fatalf("%x, %x: no flow of its own at 0", s.key, s.nonce)
		}
		text := some(20)
		want := Turn(s.key, s.nonce, text)
		for i, f := range []*Flow{f, g} {
			if got, err := f.Turn(text); err != api.OK || !bytes.Equal(got, want) {
				t.Errorf("%x, %x: the flow %d: %x, error %d", s.key, s.nonce, i, got, err)
			}
		}
	}
}

// P5.2, P5.4: a text that is cut anywhere, in two and in three, within blocks
// and at their ends, is turned to the same; the place goes with it.
func TestFlowCut(t *testing.T) {
	key, nonce := [16]byte{9, 9}, uint64(12)
	text := some(50)
	want := sum(text, streamOf(t, key, nonce, len(text)))
	for i := range len(text) + 1 {
		for j := i; j <= len(text); j++ {
			f := New(key, nonce)
			var got []byte
			for _, piece := range [][]byte{text[:i], text[i:j], text[j:]} {
				turned, err := f.Turn(piece)
				got = append(got, turned...)
				if err != api.OK || f.At() != len(got) {
					t.Fatalf("cut at %d and %d: error %d, at %d behind %d", i, j, err, f.At(), len(got))
				}
			}
			if !bytes.Equal(got, want) {
				t.Fatalf("cut at %d and %d: %x, want %x", i, j, got, want)
			}
		}
	}
}

// P5.2, P5.4: byte by byte, and in pieces of all sizes; a flow back turns it to
// the text.
func TestFlowPieces(t *testing.T) {
	for _, s := range streams() {
		text := some(300)
		want := sum(text, streamOf(t, s.key, s.nonce, len(text)))
		for size := 1; size < 40; size++ {
			there, back := New(s.key, s.nonce), New(s.key, s.nonce)
			var hidden, shown []byte
			for i := 0; i < len(text); i += size {
				a, err := there.Turn(text[i:min(i+size, len(text))])
				b, err2 := back.Turn(a)
				if err != api.OK || err2 != api.OK {
					t.Fatalf("pieces of %d: errors %d, %d at %d", size, err, err2, i)
				}
				hidden, shown = append(hidden, a...), append(shown, b...)
			}
			if !bytes.Equal(hidden, want) || !bytes.Equal(shown, text) || there.At() != len(text) {
				t.Fatalf("%x, %x: pieces of %d: %x, back %x", s.key, s.nonce, size, hidden, shown)
			}
		}
	}
}

// P5.2: texts of no bytes, nil too, at any place, at the end too: nothing moves.
func TestFlowTurnNone(t *testing.T) {
	f := New([16]byte{4}, 4)
	for _, place := range []int{0, 1, 15, 16, 17, api.MaxFlow - 1, api.MaxFlow} {
		on(t, f, place)
		for _, text := range [][]byte{nil, {}} {
			if got, err := f.Turn(text); len(got) != 0 || err != api.OK || f.At() != place {
				t.Errorf("no text at %d: %x, error %d, at %d", place, got, err, f.At())
			}
		}
	}
}

// P5.2: up to MaxFlow and no farther; one that is refused changes nothing.
func TestFlowLong(t *testing.T) {
	key, nonce := [16]byte{6}, uint64(6)
	want := streamOf(t, key, nonce, api.MaxFlow)
	f := New(key, nonce)
	var got []byte
	for _, place := range []int{0, 1, 15, 16, 17, 1000, api.MaxFlow - 17, api.MaxFlow - 1, api.MaxFlow} {
		got = append(got, on(t, f, place)...)
		for _, more := range []int{1, 2, 16, 5000} {
			if got, err := f.Turn(make([]byte, api.MaxFlow-place+more)); err != api.ErrLong || len(got) != 0 || f.At() != place {
				t.Errorf("%d too many at %d: %d bytes, error %d, at %d", more, place, len(got), err, f.At())
			}
		}
		like(t, "refused", gone(f.Blocks(), 2), key, nonce, place/16, min(2, whole-place/16))
	}
	if !bytes.Equal(got, want) {
		t.Errorf("turned around those that were refused: %d bytes, or others", len(got))
	}
}

// P5.2: all of MaxFlow at once, at the beginning and behind one that is refused.
func TestFlowWhole(t *testing.T) {
	key, nonce := [16]byte{6, 6}, uint64(7)
	want := streamOf(t, key, nonce, api.MaxFlow)
	f := New(key, nonce)
	if got, err := f.Turn(make([]byte, api.MaxFlow+1)); err != api.ErrLong || len(got) != 0 || f.At() != 0 {
		t.Errorf("one too many: %d bytes, error %d, at %d", len(got), err, f.At())
	}
	if got, err := f.Turn(make([]byte, api.MaxFlow)); err != api.OK || !bytes.Equal(got, want) || f.At() != api.MaxFlow {
		t.Errorf("all: %d bytes, error %d, at %d", len(got), err, f.At())
	}
}

// P5.2, P5.3, P1: of no flow, nil and one that New did not make, each call, and
// again; ErrNil ahead of ErrLong.
func TestNoFlow(t *testing.T) {
	for name, f := range map[string]*Flow{"nil": nil, "new": new(Flow), "written": {}} {
		for range 2 {
			for _, text := range [][]byte{nil, {}, []byte("text"), make([]byte, api.MaxFlow), make([]byte, api.MaxFlow+1)} {
				if got, err := f.Turn(text); len(got) != 0 || err != api.ErrNil {
					t.Errorf("%s: Turn of %d bytes: %d bytes, error %d", name, len(text), len(got), err)
				}
			}
			if f.At() != 0 {
				t.Errorf("%s: At: %d", name, f.At())
			}
			if got := gone(f.Blocks(), 3); len(got) != 0 {
				t.Errorf("%s: Blocks: %v", name, got)
			}
		}
	}
}

// P5.3: from the block in which the place stands, wherever within it that is.
func TestBlocksFromPlace(t *testing.T) {
	for _, s := range streams()[2:5] {
		for place := range 70 {
			f := at(t, s.key, s.nonce, place)
			like(t, "from a place", gone(f.Blocks(), 4), s.key, s.nonce, place/16, 4)
			if f.At() != place {
				t.Errorf("Blocks took the place from %d to %d", place, f.At())
			}
		}
	}
}

// P5.3: up to MaxFlow, the last block with it and none behind it.
func TestBlocksToTheEnd(t *testing.T) {
	key, nonce := [16]byte{8}, uint64(1)<<63
	like(t, "all", gone(New(key, nonce).Blocks(), -1), key, nonce, 0, whole)
	f := New(key, nonce)
	for _, n := range []int{160, 33, 32, 31, 17, 16, 15, 2, 1, 0} {
		on(t, f, api.MaxFlow-n)
		many := (n + 15) / 16
		like(t, "the last ones", gone(f.Blocks(), -1), key, nonce, whole-many, many)
	}
}

// P5.3: left at any time, and gone over again, by the same function and anew.
func TestBlocksLeft(t *testing.T) {
	key, nonce := [16]byte{5, 5}, uint64(55)
	f := at(t, key, nonce, 40)
	blocks := f.Blocks()
	for most := range 10 {
		like(t, "left", gone(blocks, most), key, nonce, 2, most)
		like(t, "asked anew", gone(f.Blocks(), 10-most), key, nonce, 2, 10-most)
	}
	asked := 0
	blocks(func(int, [16]byte) bool {
		asked++
		return asked < 3
	})
	if asked != 3 {
		t.Errorf("left at the third one: %d", asked)
	}
}

// P5.3: gone over within itself, and one while another is gone over.
func TestBlocksWithin(t *testing.T) {
	key, nonce := [16]byte{5, 6}, uint64(56)
	f := at(t, key, nonce, 17)
	blocks := f.Blocks()
	var outer []numbered
	for i, b := range blocks {
		outer = append(outer, numbered{i, b})
		like(t, "within", gone(blocks, 3), key, nonce, 1, 3)
		like(t, "another within", gone(New(key, nonce).Blocks(), 2), key, nonce, 0, 2)
		if len(outer) == 5 {
			break
		}
	}
	like(t, "around", outer, key, nonce, 1, 5)
}

// P5.3: the place is that of when Blocks was asked, though the flow is turned
// on, or becomes another, ahead of going over and while it is gone over.
func TestBlocksAskedAhead(t *testing.T) {
	key, nonce := [16]byte{5, 7}, uint64(57)
	f := at(t, key, nonce, 20)
	ahead := f.Blocks()
	f.Turn(make([]byte, 100))
	like(t, "asked ahead of a Turn", gone(ahead, 4), key, nonce, 1, 4)
	like(t, "asked behind it", gone(f.Blocks(), 4), key, nonce, 7, 4)

	var got []numbered
	for i, b := range ahead {
		got = append(got, numbered{i, b})
		f.Turn(make([]byte, 16))
		if len(got) == 6 {
			break
		}
	}
	like(t, "turned while gone over", got, key, nonce, 1, 6)
	if f.At() != 120+6*16 {
		t.Errorf("the place: %d", f.At())
	}

	f.Turn(make([]byte, api.MaxFlow-f.At()))
	like(t, "turned to the end", gone(ahead, 3), key, nonce, 1, 3)
	*f = *New([16]byte{1}, 1)
	like(t, "another flow now", gone(ahead, 3), key, nonce, 1, 3)
	*f = Flow{}
	like(t, "no flow now", gone(ahead, 3), key, nonce, 1, 3)
}

// Rules: a flow that is copied as a value goes its own way.
func TestFlowCopied(t *testing.T) {
	key, nonce := [16]byte{5, 8}, uint64(58)
	f := at(t, key, nonce, 5)
	other := *f
	f.Turn(make([]byte, 30))
	if other.At() != 5 || f.At() != 35 {
		t.Errorf("the places: %d, %d", other.At(), f.At())
	}
	got, err := other.Turn(make([]byte, 20))
	if err != api.OK || !bytes.Equal(got, Stream(key, nonce, 5, 20)) || f.At() != 35 {
		t.Errorf("the copy: %x, error %d; the place of the other: %d", got, err, f.At())
	}
}

// Rules: what is handed in stays as it was, and is not kept.
func TestArgumentsStay(t *testing.T) {
	key := [16]byte(some(16))
	was := key
	room := some(200)
	text := room[50:100] // there is room behind it that is not the call's
	want := bytes.Clone(room)
	f := New(key, 3)
	turned := Turn(key, 3, text)
	flowed, _ := f.Turn(text)
	if !bytes.Equal(room, want) || key != was {
		t.Error("Turn changed what was handed in")
	}
	told := bytes.Clone(turned)
	f.Turn(make([]byte, api.MaxFlow))
	for i := range room {
		room[i]++
	}
	key[0]++
	if !bytes.Equal(turned, told) || !bytes.Equal(flowed, told) {
		t.Error("what was told shares what was handed in")
	}
	if next, err := f.Turn(make([]byte, 40)); err != api.OK || !bytes.Equal(next, streamOf(t, was, 3, 90)[50:]) {
		t.Error("the flow's key is no longer the one that New was handed")
	}
}

// Rules: what is told is new each time, and the caller's own.
func TestAnswersAreNew(t *testing.T) {
	key, text := [16]byte{1, 2}, some(50)
	stream, turned := Stream(key, 3, 5, 40), Turn(key, 3, text)
	f := New(key, 3)
	first, _ := f.Turn(text)
	wantStream, wantTurned := bytes.Clone(stream), bytes.Clone(turned)
	blocks := f.Blocks()
	for i, b := range blocks {
		b[0]++
		if i == 5 {
			break
		}
	}
	for _, l := range [][]byte{stream, turned, first} {
		for i := range l {
			l[i]++
		}
		for i := range l[:cap(l)] {
			l[:cap(l)][i] = 0
		}
	}
	second, _ := f.Turn(text)
	if !bytes.Equal(second, sum(text, streamOf(t, key, 3, 100)[50:])) {
		t.Errorf("the flow's second piece: %x", second)
	}
	if !bytes.Equal(Stream(key, 3, 5, 40), wantStream) || !bytes.Equal(Turn(key, 3, text), wantTurned) {
		t.Error("another answer the second time")
	}
	like(t, "changed in the loop", gone(blocks, 4), key, 3, 3, 4)
}
