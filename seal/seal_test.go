package seal

import (
	"bytes"
	known "crypto/aes"
	"crypto/cipher"
	"crypto/hmac"
	"crypto/sha256"
	"encoding/binary"
	"encoding/hex"
	"math"
	"math/rand"
	"testing"

	"oriel/api"
	"oriel/ctr"
	"oriel/mac"
)

const most = 1<<63 - 1 // the greatest number of a nonce

// some is n bytes, the same ones each time, none of them nought.
func some(n int) []byte {
	b := make([]byte, n)
	r := rand.New(rand.NewSource(int64(n)))
	for i := range b {
		b[i] = byte(1 + r.Intn(255))
	}
	return b
}

// keys are all noughts, and each place of them told apart.
func keys() []api.Key {
	return []api.Key{
		{},
		{Code: [16]byte{1}},
		{Mark: [32]byte{1}},
		{Code: [16]byte{15: 7}, Mark: [32]byte{31: 9}},
		{Code: [16]byte(some(16)), Mark: [32]byte(some(32))},
	}
}

// key is the last of keys.
func key() api.Key {
	l := keys()
	return l[len(l)-1]
}

// pair is a nonce and its word.
type pair struct {
	n    api.Nonce
	word uint64
}

// pairs are nonces of both directions and their words, the edges among them.
func pairs() []pair {
	return []pair{
		{api.Nonce{}, 0},
		{api.Nonce{N: 1}, 1},
		{api.Nonce{N: 5}, 5},
		{api.Nonce{N: 1 << 32}, 1 << 32},
		{api.Nonce{N: 0x0102030405060708}, 0x0102030405060708},
		{api.Nonce{N: 1 << 62}, 1 << 62},
		{api.Nonce{N: most - 1}, 1<<63 - 2},
		{api.Nonce{N: most}, 1<<63 - 1},
		{api.Nonce{Down: true}, 1 << 63},
		{api.Nonce{Down: true, N: 1}, 1<<63 + 1},
		{api.Nonce{Down: true, N: 5}, 1<<63 + 5},
		{api.Nonce{Down: true, N: 1 << 32}, 1<<63 + 1<<32},
		{api.Nonce{Down: true, N: 0x0102030405060708}, 0x8102030405060708},
		{api.Nonce{Down: true, N: 1 << 62}, 1<<63 + 1<<62},
		{api.Nonce{Down: true, N: most - 1}, math.MaxUint64 - 1},
		{api.Nonce{Down: true, N: most}, math.MaxUint64},
	}
}

// none are what may be no nonce, of both directions.
func none() []api.Nonce {
	var l []api.Nonce
	for _, n := range []uint64{1 << 63, 1<<63 + 1, 1<<63 + 5, 1<<63 + 1<<62, math.MaxUint64 - 1, math.MaxUint64} {
		l = append(l, api.Nonce{N: n}, api.Nonce{Down: true, N: n})
	}
	return l
}

// sizes are lengths of texts that may be.
func sizes() []int {
	return []int{0, 1, 2, 3, 8, 15, 16, 17, 24, 31, 32, 33, 100, 255, 256, 1176, 1199, 1200}
}

// packetOf is the packet by another AES that counts and another HMAC; of a
// text of any length.
func packetOf(t *testing.T, key api.Key, word uint64, text []byte) []byte {
	t.Helper()
	c, err := known.NewCipher(key.Code[:])
	if err != nil {
		t.Fatal(err)
	}
	packet := binary.BigEndian.AppendUint64(nil, word)
	hidden := make([]byte, len(text))
	cipher.NewCTR(c, append(bytes.Clone(packet), make([]byte, 8)...)).XORKeyStream(hidden, text)
	return tagged(key, append(packet, hidden...))
}

// tagged is what stands ahead of a tag, and its tag.
func tagged(key api.Key, ahead []byte) []byte {
	h := hmac.New(sha256.New, key.Mark[:])
	h.Write(ahead)
	return append(bytes.Clone(ahead), h.Sum(nil)[:16]...)
}

// sealed is the packet that Seal tells.
func sealed(t *testing.T, key api.Key, n api.Nonce, text []byte) []byte {
	t.Helper()
	b, err := Seal(key, n, text)
	if err != api.OK || len(b) != len(text)+24 {
		t.Fatalf("Seal of %v, %d bytes: %d bytes, error %d", n, len(text), len(b), err)
	}
	return b
}

// opens holds that Open and Peek tell a packet's nonce, and Open its text.
func opens(t *testing.T, name string, key api.Key, b []byte, n api.Nonce, text []byte) {
	t.Helper()
	if got, s, err := Open(key, b); got != n || !bytes.Equal(s, text) || err != api.OK {
		t.Errorf("%s: Open: %v, %x, error %d, want %v, %x", name, got, s, err, n, text)
	}
	if got, err := Peek(b); got != n || err != api.OK {
		t.Errorf("%s: Peek: %v, error %d, want %v", name, got, err, n)
	}
}

// refuses holds that Open tells an error, and nothing beside it.
func refuses(t *testing.T, name string, key api.Key, b []byte, want api.Errno) {
	t.Helper()
	if n, s, err := Open(key, b); n != (api.Nonce{}) || len(s) != 0 || err != want {
		t.Errorf("%s: Open: %v, %x, error %d, want error %d", name, n, s, err, want)
	}
}

// The examples.
func TestExamples(t *testing.T) {
	if w, err := Word(api.Nonce{Down: true, N: 5}); w != 1<<63+5 || err != api.OK {
		t.Errorf("Word of 5, Down: %d, error %d", w, err)
	}
	if w, err := Word(api.Nonce{N: 5}); w != 5 || err != api.OK {
		t.Errorf("Word of 5, up: %d, error %d", w, err)
	}
	n := api.Nonce{Down: true, N: 5}
	b, err := Seal(key(), n, []byte("abc"))
	if len(b) != 27 || err != api.OK {
		t.Fatalf("Seal of abc: %d bytes, error %d", len(b), err)
	}
	refuses(t, "23 bytes", key(), make([]byte, 23), api.ErrBytes)
	b[26]++
	refuses(t, "its last byte changed", key(), b, api.ErrSeal)
	if got, err := Peek(b); got != n || err != api.OK {
		t.Errorf("Peek of it: %v, error %d", got, err)
	}
}

// P6.1: words of nonces, and nonces of words, at the edges of both directions.
func TestWord(t *testing.T) {
	for _, p := range pairs() {
		if got, err := Word(p.n); got != p.word || err != api.OK {
			t.Errorf("Word of %v: %d, error %d, want %d", p.n, got, err, p.word)
		}
		if got := Of(p.word); got != p.n {
			t.Errorf("Of %d: %v, want %v", p.word, got, p.n)
		}
	}
}

// P6.1: any word is the word of its nonce, whose number is below 2^63.
func TestOfAny(t *testing.T) {
	r := rand.New(rand.NewSource(6))
	for range 10000 {
		word := r.Uint64() >> r.Intn(64)
		n := Of(word)
		if got, err := Word(n); got != word || err != api.OK || n.N > most {
			t.Fatalf("Of %d: %v, whose Word is %d, error %d", word, n, got, err)
		}
	}
}

// P6.1, P6.2: 2^63 and more is no nonce's number, of neither direction; and
// that is told ahead of a text that is too long.
func TestNoNonce(t *testing.T) {
	for _, n := range none() {
		if got, err := Word(n); got != 0 || err != api.ErrArg {
			t.Errorf("Word of %v: %d, error %d", n, got, err)
		}
		for _, size := range []int{0, 3, 1200, 1201, 70000} {
			if b, err := Seal(key(), n, make([]byte, size)); len(b) != 0 || err != api.ErrArg {
				t.Errorf("Seal of %v, %d bytes: %d bytes, error %d", n, size, len(b), err)
			}
		}
	}
}

// P6.2: packets that another one makes likewise: word, hidden text, tag.
func TestSeal(t *testing.T) {
	for _, k := range keys() {
		for _, p := range pairs() {
			for _, size := range []int{0, 1, 16, 50} {
				text := some(size)
				if got, want := sealed(t, k, p.n, text), packetOf(t, k, p.word, text); !bytes.Equal(got, want) {
					t.Errorf("%v, %d bytes: %x, want %x", p.n, size, got, want)
				}
			}
		}
	}
}

// P6.2: texts of many lengths, up to MaxText.
func TestSealLengths(t *testing.T) {
	n := api.Nonce{Down: true, N: 77}
	for _, size := range sizes() {
		text := some(size)
		if got, want := sealed(t, key(), n, text), packetOf(t, key(), 1<<63+77, text); !bytes.Equal(got, want) {
			t.Errorf("%d bytes: %x, want %x", size, got, want)
		}
	}
}

// P6.2: a packet of layers 1, 3 and 5, in the words of the chapter.
func TestSealInWords(t *testing.T) {
	k, text := key(), some(40)
	got := sealed(t, k, api.Nonce{Down: true, N: 258}, text)
	if h := hex.EncodeToString(got[:8]); h != "8000000000000102" {
		t.Errorf("the word: %s", h)
	}
	if want := ctr.Turn(k.Code, 1<<63+258, text); !bytes.Equal(got[8:48], want) {
		t.Errorf("the text: %x, want %x", got[8:48], want)
	}
	if want := mac.Of(k.Mark[:], got[:48]); !bytes.Equal(got[48:], want[:16]) {
		t.Errorf("the tag: %x, want %x", got[48:], want[:16])
	}
}

// P6.2, P6.3: a text of no bytes, nil too, is a packet of 24 bytes.
func TestNoText(t *testing.T) {
	n := api.Nonce{N: 9}
	want := packetOf(t, key(), 9, nil)
	for _, text := range [][]byte{nil, {}} {
		b := sealed(t, key(), n, text)
		if !bytes.Equal(b, want) {
			t.Errorf("no text: %x, want %x", b, want)
		}
		opens(t, "no text", key(), b, n, nil)
	}
}

// P6.2: more than MaxText bytes, under any key, of any nonce that may be.
func TestSealLong(t *testing.T) {
	for _, k := range keys() {
		for _, p := range pairs() {
			for _, size := range []int{1201, 1202, 1224, 1225, 70000} {
				if b, err := Seal(k, p.n, make([]byte, size)); len(b) != 0 || err != api.ErrLong {
					t.Errorf("%v, %d bytes: %d bytes, error %d", p.n, size, len(b), err)
				}
			}
		}
	}
}

// P6.3: packets that another one made.
func TestOpen(t *testing.T) {
	for _, k := range keys() {
		for _, p := range pairs() {
			for _, size := range []int{0, 1, 16, 50} {
				text := some(size)
				opens(t, "of another one", k, packetOf(t, k, p.word, text), p.n, text)
			}
		}
	}
	for _, size := range sizes() {
		text := some(size)
		opens(t, "of another one", key(), packetOf(t, key(), 3, text), api.Nonce{N: 3}, text)
	}
}

// P6.3: too few bytes, none and nil too, and too many; their tag would be right.
func TestOpenBytes(t *testing.T) {
	whole := packetOf(t, key(), 1<<63+4, some(1300))
	var l [][]byte
	for _, size := range []int{0, 1, 7, 8, 9, 15, 16, 17, 22, 23, 1225, 1226, 1300, 70000} {
		l = append(l, make([]byte, size), bytes.Repeat([]byte{255}, size))
		if size >= 16 {
			ahead := append(bytes.Clone(whole[:min(size-16, len(whole))]), make([]byte, max(0, size-16-len(whole)))...)
			l = append(l, tagged(key(), ahead))
		}
	}
	for _, b := range append(l, nil) {
		refuses(t, "bytes", key(), b, api.ErrBytes)
		if n, err := Peek(b); n != (api.Nonce{}) || err != api.ErrBytes {
			t.Errorf("Peek of %d bytes: %v, error %d", len(b), n, err)
		}
	}
}

// P6.3: the fewest and the most bytes that a packet may have: with a tag they
// are one; without, ErrSeal, but Peek tells the nonce.
func TestOpenEdges(t *testing.T) {
	for _, size := range []int{24, 25, 1223, 1224} {
		text := some(size - 24)
		n := api.Nonce{Down: true, N: 4}
		opens(t, "at the edge", key(), packetOf(t, key(), 1<<63+4, text), n, text)
		for i, b := range [][]byte{make([]byte, size), bytes.Repeat([]byte{255}, size), some(size)} {
			refuses(t, "without a tag", key(), b, api.ErrSeal)
			want := []api.Nonce{{}, {Down: true, N: most}, Of(binary.BigEndian.Uint64(b))}[i]
			if n, err := Peek(b); n != want || err != api.OK {
				t.Errorf("Peek of %d bytes: %v, error %d, want %v", size, n, err, want)
			}
		}
	}
}

// P6.3, P6.4: each bit of a packet changed, one by one: ErrSeal. Peek tells
// what nonce stands there then: the packet's, but where the word was changed.
func TestChanged(t *testing.T) {
	n := api.Nonce{Down: true, N: 1000}
	for _, size := range []int{0, 1, 20} {
		b := sealed(t, key(), n, some(size))
		for i := range b {
			for bit := range 8 {
				b[i] ^= 1 << bit
				refuses(t, "changed", key(), b, api.ErrSeal)
				want := n
				if i < 8 {
					want = Of(1<<63 + 1000 ^ 1<<(8*(7-i)+bit))
				}
				if got, err := Peek(b); got != want || err != api.OK {
					t.Errorf("%d bytes, the bit %d of the byte %d: Peek: %v, error %d, want %v", size, bit, i, got, err, want)
				}
				b[i] ^= 1 << bit
			}
		}
		opens(t, "changed back", key(), b, n, some(size))
	}
}

// P6.3, P6.4: each byte of a packet as great as may be changed, and tags that
// are others in several bytes.
func TestChangedMuch(t *testing.T) {
	n := api.Nonce{N: most}
	b := sealed(t, key(), n, some(1200))
	for i := range b {
		b[i]++
		refuses(t, "changed", key(), b, api.ErrSeal)
		b[i]--
	}
	at := len(b) - 16
	for i := range 16 {
		for j := range i {
			other := bytes.Clone(b)
			// Likewise in two places: the differences must not make each other up.
			other[at+i] ^= 64
			other[at+j] ^= 64
			refuses(t, "two bytes of the tag changed", key(), other, api.ErrSeal)
			if got, err := Peek(other); got != n || err != api.OK {
				t.Errorf("Peek: %v, error %d", got, err)
			}
			copy(other[at:], b[at:])
			other[at+i], other[at+j] = b[at+j], b[at+i]
			if b[at+i] != b[at+j] {
				refuses(t, "two bytes of the tag swapped", key(), other, api.ErrSeal)
			}
		}
	}
	opens(t, "changed back", key(), b, n, some(1200))
}

// P6.3, P6.4: a packet that is cut, at either end, or goes on: with noughts,
// with more of its mark, with another packet.
func TestCut(t *testing.T) {
	n := api.Nonce{N: 6}
	text := some(30)
	b := sealed(t, key(), n, text)
	for size := 24; size < len(b); size++ {
		refuses(t, "its end cut off", key(), b[:size], api.ErrSeal)
		refuses(t, "its beginning cut off", key(), b[len(b)-size:], api.ErrSeal)
	}
	k := key()
	mark := mac.Of(k.Mark[:], b[:38])
	for _, more := range [][]byte{{0}, make([]byte, 16), mark[16:17], mark[16:], mark[:], b} {
		refuses(t, "goes on", key(), append(bytes.Clone(b), more...), api.ErrSeal)
	}
	refuses(t, "begins ahead", key(), append([]byte{0}, b...), api.ErrSeal)
	opens(t, "as it was", key(), b, n, text)
}

// P6.3: under a key whose Mark is another in any bit: ErrSeal; Peek asks for no
// key.
func TestOtherMark(t *testing.T) {
	n := api.Nonce{Down: true, N: 8}
	b := sealed(t, key(), n, []byte("text"))
	for i := range 256 {
		other := key()
		other.Mark[i/8] ^= 1 << (i % 8)
		refuses(t, "another Mark", other, b, api.ErrSeal)
		both := other
		both.Code[i%16]++
		refuses(t, "another Mark and Code", both, b, api.ErrSeal)
		if bytes.Equal(sealed(t, other, n, []byte("text")), b) {
			t.Errorf("the bit %d of Mark does not tell", i)
		}
	}
	opens(t, "as it was", key(), b, n, []byte("text"))
}

// P6.3: under a key whose Code alone is another, the tag is right: the nonce,
// and the hidden text turned by that Code.
func TestOtherCode(t *testing.T) {
	n := api.Nonce{Down: true, N: 8}
	text := some(20)
	b := sealed(t, key(), n, text)
	for i := range 128 {
		other := key()
		other.Code[i/8] ^= 1 << (i % 8)
		want := ctr.Turn(other.Code, 1<<63+8, b[8:28])
		if bytes.Equal(want, text) {
			t.Errorf("the bit %d of Code does not tell", i)
		}
		opens(t, "another Code", other, b, n, want)
		if bytes.Equal(sealed(t, other, n, text), b) {
			t.Errorf("the packet under another Code (bit %d) is the same", i)
		}
	}
}

// P6.4: back, of any length, under any key, with any nonce.
func TestBack(t *testing.T) {
	for _, k := range keys() {
		for _, p := range pairs() {
			opens(t, "back", k, sealed(t, k, p.n, some(33)), p.n, some(33))
		}
	}
	for size := range 1201 {
		text := some(size)
		n := api.Nonce{Down: size%2 == 0, N: uint64(size)}
		opens(t, "back", key(), sealed(t, key(), n, text), n, text)
	}
}

// P6.5: unlike nonces have unlike words, and unlike packets, of the same text
// and of none.
func TestUnlike(t *testing.T) {
	words := map[uint64]api.Nonce{}
	packets := map[string]api.Nonce{}
	for _, p := range pairs() {
		word, _ := Word(p.n)
		if other, ok := words[word]; ok {
			t.Errorf("%v and %v have one word", other, p.n)
		}
		words[word] = p.n
		for _, text := range [][]byte{nil, {0}, []byte("text")} {
			b := string(sealed(t, key(), p.n, text))
			if other, ok := packets[b]; ok {
				t.Errorf("%v and %v have one packet", other, p.n)
			}
			packets[b] = p.n
		}
	}
}

// P6.5: the nonce tells in the hidden text and in the tag too, not in the word
// alone.
func TestNonceTells(t *testing.T) {
	text := some(16)
	hidden, tags := map[string]api.Nonce{}, map[string]api.Nonce{}
	for _, p := range pairs() {
		b := sealed(t, key(), p.n, text)
		if other, ok := hidden[string(b[8:24])]; ok {
			t.Errorf("%v and %v hide alike", other, p.n)
		}
		if other, ok := tags[string(b[24:])]; ok {
			t.Errorf("%v and %v tag alike", other, p.n)
		}
		hidden[string(b[8:24])], tags[string(b[24:])] = p.n, p.n
	}
}

// P1: every call ends, and none panics, at any bytes.
func TestAnyBytes(t *testing.T) {
	r := rand.New(rand.NewSource(66))
	for size := range 1300 {
		b := make([]byte, size)
		r.Read(b)
		want := api.ErrSeal
		if size < 24 || size > 1224 {
			want = api.ErrBytes
		}
		refuses(t, "any bytes", key(), b, want)
		n, err := Peek(b)
		if want == api.ErrBytes {
			if n != (api.Nonce{}) || err != api.ErrBytes {
				t.Errorf("Peek of %d bytes: %v, error %d", size, n, err)
			}
		} else if n != Of(binary.BigEndian.Uint64(b)) || err != api.OK {
			t.Errorf("Peek of %d bytes: %v, error %d", size, n, err)
		}
	}
}

// Rules: what is handed in stays as it was, the room behind it too, and is not
// kept; where an error is told likewise.
func TestArgumentsStay(t *testing.T) {
	n := api.Nonce{N: 12}
	for _, size := range []int{0, 50, 1200, 1201} {
		room := some(size + 100)
		text := room[20 : 20+size]
		want := bytes.Clone(room)
		b, _ := Seal(key(), n, text)
		Seal(key(), api.Nonce{N: 1 << 63}, text)
		if !bytes.Equal(room, want) {
			t.Errorf("Seal of %d bytes changed what was handed in", size)
		}
		told := bytes.Clone(b)
		clear(room)
		if !bytes.Equal(b, told) {
			t.Errorf("Seal of %d bytes tells what was handed in", size)
		}
	}
	for _, size := range []int{0, 50, 1200} {
		packet := packetOf(t, key(), 12, some(size))
		room := append(append(some(20), packet...), some(100)...)
		b := room[20 : 20+len(packet)]
		want := bytes.Clone(room)
		_, s, _ := Open(key(), b)
		Open(api.Key{}, b)
		Open(key(), b[:23])
		Peek(b)
		Peek(b[:23])
		if !bytes.Equal(room, want) {
			t.Errorf("Open of %d bytes changed what was handed in", size)
		}
		clear(room)
		if !bytes.Equal(s, some(size)) {
			t.Errorf("Open of %d bytes tells what was handed in", size)
		}
	}
}

// Rules: the same answer each time, new each time, and the caller's own.
func TestAnswersAreNew(t *testing.T) {
	n := api.Nonce{Down: true, N: 13}
	text := some(60)
	want := packetOf(t, key(), 1<<63+13, text)
	packet := bytes.Clone(want)
	for range 3 {
		b := sealed(t, key(), n, text)
		_, s, err := Open(key(), packet)
		if !bytes.Equal(b, want) || !bytes.Equal(s, some(60)) || err != api.OK {
			t.Fatalf("another answer: %x, %x, error %d", b, s, err)
		}
		clear(b[:cap(b)])
		clear(s[:cap(s)])
		if !bytes.Equal(packet, want) || !bytes.Equal(text, some(60)) {
			t.Fatal("what was told shares what was handed in")
		}
	}
}

// What a packet is cut into leaves no room: no part can grow into the next one.
func TestParts(t *testing.T) {
	for _, size := range []int{24, 25, 1224} {
		b := some(size + 10)[:size]
		p, err := cut(b)
		if err != api.OK || p.word != binary.BigEndian.Uint64(b) {
			t.Errorf("%d bytes: the word %x, error %d", size, p.word, err)
		}
		if len(p.ahead) != size-16 || len(p.hidden) != size-24 || len(p.tag) != 16 {
			t.Errorf("%d bytes: parts of %d, %d, %d bytes", size, len(p.ahead), len(p.hidden), len(p.tag))
		}
		for _, part := range [][]byte{p.ahead, p.hidden, p.tag} {
			if cap(part) != len(part) {
				t.Errorf("%d bytes: a part of %d bytes has room for %d", size, len(part), cap(part))
			}
		}
	}
}
