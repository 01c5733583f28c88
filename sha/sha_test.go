package sha

import (
	"bytes"
	"crypto/sha256"
	"encoding/binary"
	"encoding/hex"
	"math"
	"math/big"
	"math/rand"
	"testing"
)

// primes is the first n prime numbers.
func primes(n int) []int64 {
	var l []int64
	for p := int64(2); len(l) < n; p++ {
		if big.NewInt(p).ProbablyPrime(0) {
			l = append(l, p)
		}
	}
	return l
}

// rootBits is the first 32 bits behind the point of p's root of that degree,
// looked for bit by bit.
func rootBits(p int64, degree int64) uint32 {
	want := new(big.Int).Lsh(big.NewInt(p), uint(32*degree))
	root := new(big.Int)
	for bit := 40; bit >= 0; bit-- {
		next := new(big.Int).SetBit(root, bit, 1)
		if new(big.Int).Exp(next, big.NewInt(degree), nil).Cmp(want) <= 0 {
			root = next
		}
	}
	return uint32(root.Uint64())
}

// some is n bytes, the same ones each time.
func some(n int) []byte {
	b := make([]byte, n)
	rand.New(rand.NewSource(int64(n))).Read(b)
	return b
}

// edges is lengths around multiples of 64, and around the last length of a
// block that leaves room for what stands behind.
func edges() []int {
	l := []int{0, 1, 3, 54, 55, 56, 57, 62, 63}
	for _, m := range []int{64, 128, 192, 1024, 4096} {
		l = append(l, m-1, m, m+1, m+54, m+55, m+56, m+57, m+63)
	}
	return l
}

// P2.1, and the examples: Start and Turn by roots of primes.
func TestStartAndTurn(t *testing.T) {
	for _, c := range []struct{ got, want uint32 }{
		{Start(0), 0x6a09e667}, {Turn(0), 0x428a2f98}, {Turn(63), 0xc67178f2},
	} {
		if c.got != c.want {
			t.Errorf("%08x, want %08x", c.got, c.want)
		}
	}
	for k, p := range primes(64) {
		if k < 8 && Start(k) != rootBits(p, 2) {
			t.Errorf("Start(%d) = %08x, want %08x", k, Start(k), rootBits(p, 2))
		}
		if Turn(k) != rootBits(p, 3) {
			t.Errorf("Turn(%d) = %08x, want %08x", k, Turn(k), rootBits(p, 3))
		}
	}
}

// P2.1: other k.
func TestStartAndTurnBeyond(t *testing.T) {
	for _, k := range []int{-1, -2, -64, math.MinInt, 64, 65, 128, 1 << 32, math.MaxInt} {
		if Start(k) != 0 || Turn(k) != 0 {
			t.Errorf("k %d: %08x %08x", k, Start(k), Turn(k))
		}
	}
	for k := 8; k < 64; k++ {
		if Start(k) != 0 {
			t.Errorf("Start(%d) = %08x", k, Start(k))
		}
	}
}

// slowBlock is a block taken step by step, in the words of the chapter.
func slowBlock(h [8]uint32, b [64]byte) [8]uint32 {
	turned := func(x uint32, n uint) uint32 { return x>>n | x<<(32-n) }
	w := make([]uint32, 64)
	for i := range w {
		if i < 16 {
			for j := range 4 {
				w[i] = w[i]*256 + uint32(b[4*i+j])
			}
			continue
		}
		x, y := w[i-15], w[i-2]
		s := turned(x, 7) ^ turned(x, 18) ^ (x >> 3)
		u := turned(y, 17) ^ turned(y, 19) ^ (y >> 10)
		w[i] = w[i-16] + s + w[i-7] + u
	}
	l := h
	for i := range w {
		e, f, g := l[4], l[5], l[6]
		u := l[7] + (turned(e, 6) ^ turned(e, 11) ^ turned(e, 25)) + ((e & f) ^ (^e & g)) + Turn(i) + w[i]
		a, b, c := l[0], l[1], l[2]
		v := (turned(a, 2) ^ turned(a, 13) ^ turned(a, 22)) + ((a & b) ^ (a & c) ^ (b & c))
		copy(l[1:], l[:7])
		l[4] += u
		l[0] = u + v
	}
	for i := range l {
		l[i] += h[i]
	}
	return l
}

// P2.1: Block, into the first words and into any.
func TestBlock(t *testing.T) {
	var first [8]uint32
	for k := range first {
		first[k] = Start(k)
	}
	r := rand.New(rand.NewSource(2))
	for i := range 300 {
		h, b := first, [64]byte(some(64+i))
		if i%2 == 1 {
			for k := range h {
				h[k] = r.Uint32()
			}
		}
		if got, want := Block(h, b), slowBlock(h, b); got != want {
			t.Fatalf("%d: %08x, want %08x", i, got, want)
		}
	}
	for _, fill := range []byte{0, 255} {
		b := [64]byte(bytes.Repeat([]byte{fill}, 64))
		for _, h := range [][8]uint32{{}, first, {1<<32 - 1, 1<<32 - 1, 1<<32 - 1, 1<<32 - 1, 1<<32 - 1, 1<<32 - 1, 1<<32 - 1, 1<<32 - 1}} {
			if got, want := Block(h, b), slowBlock(h, b); got != want {
				t.Errorf("%08x of %d: %08x, want %08x", h, fill, got, want)
			}
		}
	}
}

// P2.1: the blocks of a known digest, taken one by one.
func TestBlockMakesDigest(t *testing.T) {
	var h [8]uint32
	for k := range h {
		h[k] = Start(k)
	}
	b := [64]byte{'a', 'b', 'c', 128, 63: 24}
	h = Block(h, b)
	if h[0] != 0xba7816bf || h[7] != 0xf20015ad {
		t.Errorf("%08x", h)
	}
}

// P2.2, and the examples.
func TestSumExamples(t *testing.T) {
	for _, c := range []struct{ text, first, last string }{
		{"", "e3b0c442", "7852b855"},
		{"abc", "ba7816bf", "f20015ad"},
	} {
		got := Sum([]byte(c.text))
		if hex.EncodeToString(got[:4]) != c.first || hex.EncodeToString(got[28:]) != c.last {
			t.Errorf("%q: %x", c.text, got)
		}
	}
}

// P2.2: texts of all lengths to some blocks, and at the edges beyond.
func TestSumLengths(t *testing.T) {
	check := func(n int) {
		b := some(n)
		if got, want := Sum(b), sha256.Sum256(b); got != want {
			t.Errorf("%d bytes: %x, want %x", n, got, want)
		}
	}
	for n := range 300 {
		check(n)
	}
	for _, n := range edges() {
		check(n)
	}
	// So many that how many bits they are takes more than three bytes.
	check(1<<21 + 7)
}

// P2.2: any number of texts, some of no bytes.
func TestSumOfMany(t *testing.T) {
	none := sha256.Sum256(nil)
	for i, got := range [][32]byte{Sum(), Sum(nil), Sum([]byte{}), Sum(nil, []byte{}, nil), Sum([][]byte{}...)} {
		if got != none {
			t.Errorf("none %d: %x", i, got)
		}
	}
	want := sha256.Sum256([]byte("one two"))
	for i, got := range [][32]byte{
		Sum([]byte("one two")),
		Sum([]byte("one"), []byte(" "), []byte("two")),
		Sum(nil, []byte("one "), nil, []byte{}, []byte("two"), nil),
	} {
		if got != want {
			t.Errorf("some %d: %x", i, got)
		}
	}
	if Sum([]byte("two"), []byte("one")) == Sum([]byte("one"), []byte("two")) {
		t.Error("the order does not tell")
	}
}

// P2.3: New, Write, Sum, Len.
func TestHash(t *testing.T) {
	h := New()
	if h == nil || h.Len() != 0 || h.Sum() != sha256.Sum256(nil) {
		t.Fatal("a new one has bytes")
	}
	if New() == New() {
		t.Error("two new ones are one")
	}
	var all []byte
	for i, n := range edges() {
		b := some(n + i)
		all = append(all, b...)
		h.Write(b)
		if h.Len() != len(all) {
			t.Fatalf("write %d: Len %d, want %d", i, h.Len(), len(all))
		}
		want := sha256.Sum256(all)
		if h.Sum() != want || h.Sum() != want {
			t.Fatalf("write %d: another digest", i)
		}
	}
	h.Write(nil)
	h.Write([]byte{})
	if h.Len() != len(all) || h.Sum() != sha256.Sum256(all) {
		t.Error("no bytes change it")
	}
}

// P2.3: Sum leaves all that there is, at each length.
func TestSumStays(t *testing.T) {
	b := some(200)
	h := New()
	for i := range b {
		want := sha256.Sum256(b[:i])
		if got := h.Sum(); got != want {
			t.Fatalf("%d: %x, want %x", i, got, want)
		}
		if h.Len() != i || h.Sum() != want {
			t.Fatalf("%d: Sum changed it", i)
		}
		h.Write(b[i : i+1])
	}
}

// P2.3: a copy and its first one go their own ways.
func TestCopy(t *testing.T) {
	for _, n := range edges() {
		b := some(n)
		h := New()
		h.Write(b)
		c := h.Copy()
		if c == nil || c == h || c.Len() != n || c.Sum() != h.Sum() {
			t.Fatalf("%d: the copy has others", n)
		}
		c.Write([]byte("this way"))
		if h.Len() != n || h.Sum() != sha256.Sum256(b) {
			t.Fatalf("%d: the copy's way is the first one's", n)
		}
		h.Write([]byte("that way, which is longer"))
		if c.Len() != n+8 || c.Sum() != Sum(b, []byte("this way")) {
			t.Fatalf("%d: the first one's way is the copy's", n)
		}
		if h.Sum() != Sum(b, []byte("that way, which is longer")) {
			t.Fatalf("%d: the first one lost its way", n)
		}
	}
}

// P2.3: what is copied as a value is another one as well.
func TestCopyOfValue(t *testing.T) {
	h := New()
	h.Write(some(70))
	c := *h
	c.Write([]byte("x"))
	h.Write([]byte("yy"))
	if c.Sum() != Sum(some(70), []byte("x")) || h.Sum() != Sum(some(70), []byte("yy")) {
		t.Error("they share what they have")
	}
}

// P2.3: a nil one.
func TestNilHash(t *testing.T) {
	var h *Hash
	h.Write([]byte("abc"))
	h.Write(nil)
	if h.Len() != 0 || h.Sum() != sha256.Sum256(nil) {
		t.Error("a nil one has bytes")
	}
	c := h.Copy()
	if c == nil || c.Len() != 0 || c.Sum() != sha256.Sum256(nil) {
		t.Fatal("the copy of a nil one is not as New's")
	}
	c.Write([]byte("abc"))
	if c.Len() != 3 || c.Sum() != sha256.Sum256([]byte("abc")) {
		t.Error("the copy of a nil one takes no bytes")
	}
}

// P2.3: one that New did not make.
func TestZeroHash(t *testing.T) {
	var h Hash
	if h.Len() != 0 || h.Sum() != sha256.Sum256(nil) || h.Sum() != sha256.Sum256(nil) {
		t.Error("a zero one has bytes")
	}
	c := h.Copy()
	if c == nil || c == &h || c.Len() != 0 || c.Sum() != sha256.Sum256(nil) {
		t.Fatal("the copy of a zero one has bytes")
	}
	c.Write([]byte("abc"))
	if h.Len() != 0 || h.Sum() != sha256.Sum256(nil) || c.Sum() != sha256.Sum256([]byte("abc")) {
		t.Error("the copy of a zero one does not go its own way")
	}
	h.Write(nil)
	if h.Len() != 0 || h.Sum() != sha256.Sum256(nil) {
		t.Error("no bytes change a zero one")
	}
	for _, n := range []int{3, 61, 64, 100} {
		var h Hash
		h.Write(some(n))
		h.Write([]byte("abc"))
		if h.Len() != n+3 || h.Sum() != Sum(some(n), []byte("abc")) {
			t.Errorf("a zero one lost some of %d bytes", n)
		}
	}
}

// digestFrom is the digest of so many bytes that are taken already, whole
// blocks that made these words of theirs, and of those behind, in the words of
// the chapter.
func digestFrom(words [8]uint32, taken int, behind []byte) [32]byte {
	b := append(bytes.Clone(behind), 128)
	for len(b)%64 != 56 {
		b = append(b, 0)
	}
	b = binary.BigEndian.AppendUint64(b, uint64(taken+len(behind))*8)
	for ; len(b) > 0; b = b[64:] {
		words = slowBlock(words, [64]byte(b))
	}
	var digest []byte
	for _, w := range words {
		digest = binary.BigEndian.AppendUint32(digest, w)
	}
	return [32]byte(digest)
}

// What digestFrom tells is held against another SHA-256, so that it may be
// held against where no other one goes.
func TestDigestFrom(t *testing.T) {
	var first [8]uint32
	for k := range first {
		first[k] = Start(k)
	}
	for _, n := range edges() {
		b := some(n)
		if digestFrom(first, 0, b) != sha256.Sum256(b) {
			t.Fatalf("%d bytes", n)
		}
	}
}

// laid is a hash that New made, whose blocks of so many bytes came to be these
// words.
func laid(words [8]uint32, taken int) *Hash {
	h := New()
	h.Write(some(taken))
	h.words = words
	return h
}

// wordsToComeTo is words of blocks that were taken that might be held for the
// words of a hash that New did not make, or that has no bytes.
func wordsToComeTo() [][8]uint32 {
	return [][8]uint32{{}, New().words, {7: 1}}
}

// P2.2, P2.3: a hash that New made has what it has, whatever its words are.
func TestAnyWords(t *testing.T) {
	for _, words := range wordsToComeTo() {
		for _, taken := range []int{64, 128, 640} {
			h := laid(words, taken)
			want := digestFrom(words, taken, nil)
			if h.Len() != taken || h.Sum() != want || h.Sum() != want || h.Len() != taken {
				t.Errorf("%08x behind %d bytes: Len %d, Sum %x, want %x", words, taken, h.Len(), h.Sum(), want)
			}
			h.Write(nil)
			h.Write([]byte{})
			if h.Len() != taken || h.Sum() != want {
				t.Errorf("%08x behind %d bytes: no bytes change it", words, taken)
			}
		}
	}
}

// P2.3: Copy of a hash that New made, whatever its words are.
func TestCopyAnyWords(t *testing.T) {
	for _, words := range wordsToComeTo() {
		h := laid(words, 64)
		c := h.Copy()
		if c == nil || c == h || c.Len() != 64 || c.Sum() != digestFrom(words, 64, nil) {
			t.Fatalf("%08x: the copy has others", words)
		}
		c.Write([]byte("this way"))
		if h.Len() != 64 || h.Sum() != digestFrom(words, 64, nil) {
			t.Errorf("%08x: the copy's way is the first one's", words)
		}
		h.Write([]byte("that way, which is longer"))
		if c.Len() != 72 || c.Sum() != digestFrom(words, 64, []byte("this way")) {
			t.Errorf("%08x: the first one's way is the copy's", words)
		}
	}
}

// P2.3, P2.4: what is written behind any words, in one piece and in two.
func TestWriteBehindAnyWords(t *testing.T) {
	for _, words := range wordsToComeTo() {
		for _, n := range edges() {
			b := some(n)
			want := digestFrom(words, 64, b)
			for _, cut := range []int{0, n / 2, n} {
				h := laid(words, 64)
				h.Write(b[:cut])
				h.Write(b[cut:])
				if h.Len() != 64+n || h.Sum() != want {
					t.Fatalf("%08x, %d bytes behind, cut at %d: Len %d, Sum %x, want %x", words, n, cut, h.Len(), h.Sum(), want)
				}
			}
		}
	}
}

// P2.3: words that come to be 0 once more than one block is there.
func TestWordsComeToNought(t *testing.T) {
	h := laid([8]uint32{}, 64)
	h.Write(some(64))
	h.words = [8]uint32{}
	h.Write([]byte("abc"))
	if h.Len() != 131 || h.Sum() != digestFrom([8]uint32{}, 128, []byte("abc")) {
		t.Errorf("Len %d, Sum %x", h.Len(), h.Sum())
	}
	h = laid([8]uint32{}, 69)
	c := h.Copy()
	c.Write([]byte("abc"))
	behind := some(69)[64:]
	if h.Len() != 69 || h.Sum() != digestFrom([8]uint32{}, 64, behind) {
		t.Errorf("with a piece of a block: Len %d, Sum %x", h.Len(), h.Sum())
	}
	if c.Len() != 72 || c.Sum() != digestFrom([8]uint32{}, 64, append(behind, "abc"...)) {
		t.Errorf("with a piece of a block, and more: Len %d, Sum %x", c.Len(), c.Sum())
	}
}

// Rules: what is handed in is neither changed nor kept.
func TestArgumentsStay(t *testing.T) {
	for _, n := range []int{5, 64, 130} {
		b := some(n)
		h := New()
		h.Write(b)
		if Sum(b) != h.Sum() || !bytes.Equal(b, some(n)) {
			t.Fatalf("%d: the bytes were changed", n)
		}
		clear(b)
		if h.Sum() != sha256.Sum256(some(n)) {
			t.Fatalf("%d: the bytes were kept", n)
		}
	}
}

// P2.4: however bytes are cut, their digest is the same.
func TestPieces(t *testing.T) {
	b := some(200)
	want := sha256.Sum256(b)
	for i := range len(b) + 1 {
		for j := i; j <= len(b); j++ {
			h := New()
			h.Write(b[:i])
			h.Write(b[i:j])
			h.Write(b[j:])
			if h.Sum() != want || h.Len() != len(b) || Sum(b[:i], b[i:j], b[j:]) != want {
				t.Fatalf("cut at %d and %d", i, j)
			}
		}
	}
	r := rand.New(rand.NewSource(4))
	for range 300 {
		b := some(r.Intn(1000))
		var l [][]byte
		h := New()
		for rest := b; len(rest) > 0; {
			n := r.Intn(min(len(rest), 150) + 1)
			l = append(l, rest[:n])
			h.Write(rest[:n])
			rest = rest[n:]
		}
		if want := sha256.Sum256(b); h.Sum() != want || Sum(l...) != want {
			t.Fatalf("%d bytes in %d pieces", len(b), len(l))
		}
	}
}
