package mac

import (
	"bytes"
	"crypto/hmac"
	"crypto/sha256"
	"encoding/hex"
	"math"
	"math/rand"
	"slices"
	"strings"
	"testing"

	"oriel/api"
)

// some is n bytes, the same ones each time, none of them nought.
func some(n int) []byte {
	b := make([]byte, n)
	r := rand.New(rand.NewSource(int64(n)))
	for i := range b {
		b[i] = byte(1 + r.Intn(255))
	}
	return b
}

// markOf is the mark by another HMAC.
func markOf(key []byte, text ...[]byte) [32]byte {
	h := hmac.New(sha256.New, key)
	for _, b := range text {
		h.Write(b)
	}
	return [32]byte(h.Sum(nil))
}

// markInWords is the mark step by step, in the words of the chapter.
func markInWords(key, text []byte) [32]byte {
	block := make([]byte, 64)
	if len(key) > 64 {
		digest := sha256.Sum256(key)
		key = digest[:]
	}
	copy(block, key)
	turned := func(by byte) []byte {
		var l []byte
		for _, b := range block {
			l = append(l, b^by)
		}
		return l
	}
	within := sha256.Sum256(append(turned(54), text...))
	return sha256.Sum256(append(turned(92), within[:]...))
}

// keySizes is lengths of keys: none, around the block's 64, and many more.
func keySizes() []int {
	return []int{0, 1, 16, 31, 32, 33, 62, 63, 64, 65, 66, 127, 128, 129, 1000, 70000}
}

// textSizes is lengths of texts, those at which the digests' last block is
// full among them.
func textSizes() []int {
	return []int{0, 1, 54, 55, 56, 63, 64, 65, 119, 120, 128, 1000, 5000}
}

// P3.1, and the examples.
func TestOfExamples(t *testing.T) {
	for _, c := range []struct{ key, text, first string }{
		{"key", "The quick brown fox jumps over the lazy dog", "f7bc83f4"},
		{"", "", "b613679a"},
	} {
		got := Of([]byte(c.key), []byte(c.text))
		if hex.EncodeToString(got[:4]) != c.first {
			t.Errorf("%q under %q: %x", c.text, c.key, got)
		}
	}
}

// P3.1: marks that are known.
func TestOfKnown(t *testing.T) {
	for _, c := range []struct{ key, text, want string }{
		{"", "", "b613679a0814d9ec772f95d778c35fc5ff1697c493715653c6c712144292c5ad"},
		{"Jefe", "what do ya want for nothing?", "5bdcc146bf60754e6a042426089575c75a003f089d2739839dec58b964ec3843"},
		{strings.Repeat("\x0b", 20), "Hi There", "b0344c61d8db38535ca8afceaf0bf12b881dc200c9833da726e9376c2e32cff7"},
		{strings.Repeat("\xaa", 131), "Test Using Larger Than Block-Size Key - Hash Key First", "60e431591ee0b67f0d8a26aacbf5b77f8e0bc6213728c5140546040f0ee37f54"},
	} {
		got := Of([]byte(c.key), []byte(c.text))
		if hex.EncodeToString(got[:]) != c.want {
			t.Errorf("%q under %d bytes: %x, want %s", c.text, len(c.key), got, c.want)
		}
	}
}

// P3.1: keys and texts of many lengths.
func TestOfLengths(t *testing.T) {
	for _, k := range keySizes() {
		for _, n := range textSizes() {
			key, text := some(k), some(n)
			got := Of(key, text)
			if got != markOf(key, text) || got != markInWords(key, text) {
				t.Errorf("%d bytes under a key of %d: %x, want %x", n, k, got, markOf(key, text))
			}
		}
	}
}

// P3.1: no text, and no key, however they are written.
func TestOfNone(t *testing.T) {
	for _, k := range keySizes() {
		key := some(k)
		want := markOf(key)
		for i, got := range [][32]byte{
			Of(key), Of(key, nil), Of(key, []byte{}), Of(key, nil, []byte{}, nil), Of(key, [][]byte{}...),
		} {
			if got != want {
				t.Errorf("no text %d under a key of %d bytes: %x, want %x", i, k, got, want)
			}
		}
	}
	text := []byte("text")
	if Of(nil, text) != markOf(nil, text) || Of([]byte{}, text) != Of(nil, text) {
		t.Error("no key and an empty one are not one")
	}
}

// P3.1: a text in one piece and in several, some of no bytes.
func TestOfPieces(t *testing.T) {
	for _, k := range []int{0, 5, 63, 64, 65, 200} {
		key, text := some(k), some(150)
		want := markOf(key, text)
		for i := range len(text) + 1 {
			if Of(key, text[:i], text[i:]) != want {
				t.Fatalf("a key of %d bytes, cut at %d", k, i)
			}
			j := i + (len(text)-i)/2
			if Of(key, nil, text[:i], []byte{}, text[i:j], nil, nil, text[j:], []byte{}) != want {
				t.Fatalf("a key of %d bytes, cut at %d and %d", k, i, j)
			}
		}
		var each [][]byte
		for i := range text {
			each = append(each, text[i:i+1])
		}
		if Of(key, each...) != want {
			t.Errorf("a key of %d bytes, byte by byte", k)
		}
	}
}

// P3.1: another order, another text or another key makes another mark.
func TestOfTells(t *testing.T) {
	one, two := []byte("one"), []byte("two")
	if Of(one, one, two) == Of(one, two, one) {
		t.Error("the order does not tell")
	}
	if Of(one, two) == Of(two, one) {
		t.Error("key and text are not told apart")
	}
	for _, k := range []int{1, 32, 63, 64, 65, 200} {
		key, text := some(k), some(100)
		for i := range key {
			other := bytes.Clone(key)
			other[i]++
			if Of(other, text) == Of(key, text) {
				t.Errorf("byte %d of a key of %d does not tell", i, k)
			}
		}
		for i := range text {
			other := bytes.Clone(text)
			other[i]++
			if Of(key, other) == Of(key, text) {
				t.Errorf("byte %d of a text does not tell", i)
			}
		}
	}
}

// Rules: what is handed in stays as it was, the room behind it too, and is not
// kept.
func TestOfArgumentsStay(t *testing.T) {
	for _, k := range []int{0, 5, 63, 64, 65, 200} {
		room := append(some(k), some(100)...)
		key := room[:k]
		texts := some(90)
		l := [][]byte{texts[:30], nil, texts[30:31], {}, []byte("last")}
		full := l[:3]
		want := markOf(key, texts[:31])
		if Of(key, full...) != want || Of(key, full...) != want {
			t.Errorf("a key of %d bytes: another mark", k)
		}
		if !bytes.Equal(room, append(some(k), some(100)...)) {
			t.Errorf("a key of %d bytes was changed", k)
		}
		if !bytes.Equal(texts, some(90)) {
			t.Errorf("a key of %d bytes: the texts were changed", k)
		}
		if &l[0][0] != &texts[0] || l[1] != nil || &l[2][0] != &texts[30] || l[3] == nil || string(l[4]) != "last" {
			t.Errorf("a key of %d bytes: the list was changed", k)
		}
		clear(room)
		clear(texts)
		if Of(some(k), some(90)[:31]) != want {
			t.Errorf("a key of %d bytes was kept", k)
		}
	}
}

// P3.2: the same bytes, as many; none and nil are one.
func TestSame(t *testing.T) {
	for i, c := range []struct {
		a, b []byte
		want bool
	}{
		{nil, nil, true},
		{nil, []byte{}, true},
		{[]byte{}, []byte{}, true},
		{nil, []byte{0}, false},
		{[]byte{}, []byte{0}, false},
		{[]byte{0}, []byte{0}, true},
		{[]byte{0}, []byte{0, 0}, false},
		{[]byte{1}, []byte{2}, false},
		{[]byte{255}, []byte{0}, false},
		{[]byte("ab"), []byte("ba"), false},
		{[]byte("abc"), []byte("abc"), true},
		{[]byte("abc"), []byte("abd"), false},
		{[]byte("abc"), []byte("abcd"), false},
		{[]byte("bcd"), []byte("abcd"), false},
		// Bits that differ here and there must not make up for each other.
		{[]byte{1, 1}, []byte{2, 2}, false},
		{[]byte{0, 0}, []byte{128, 128}, false},
		{[]byte{255, 1}, []byte{0, 0}, false},
	} {
		if Same(c.a, c.b) != c.want || Same(c.b, c.a) != c.want {
			t.Errorf("%d: %x and %x: %t", i, c.a, c.b, Same(c.a, c.b))
		}
	}
}

// P3.2: each bit of each byte tells, the last one's too; so does each length.
func TestSameTellsAll(t *testing.T) {
	for _, n := range []int{1, 2, 16, 32, 300} {
		a, b := some(n), some(n)
		if !Same(a, b) || !Same(a, a) {
			t.Fatalf("%d bytes are not the same", n)
		}
		for i := range n {
			for bit := range 8 {
				b[i] ^= 1 << bit
				if Same(a, b) || Same(b, a) {
					t.Errorf("%d bytes, byte %d, bit %d does not tell", n, i, bit)
				}
				b[i] ^= 1 << bit
			}
			if Same(a, b[:i]) || Same(b[:i], a) {
				t.Errorf("%d bytes are the same as %d", n, i)
			}
		}
		if Same(a, append(some(n), 0)) || Same(append(some(n), 0), a) {
			t.Errorf("%d bytes are the same as one more", n)
		}
		if !bytes.Equal(a, some(n)) || !bytes.Equal(b, some(n)) {
			t.Errorf("%d bytes were changed", n)
		}
	}
}

// P3.3: ErrArg, and no key beside it.
func TestDeriveFaults(t *testing.T) {
	members := []int{0, 9, 10, 256 + 1, 1<<32 + 1, -1, -8, math.MaxInt, math.MinInt}
	epochs := []int{0, 1<<20 + 1, 1 << 21, 1<<32 + 1, -1, -1 << 20, math.MaxInt, math.MinInt}
	refused := func(member, epoch int) {
		t.Helper()
		for _, master := range [][]byte{nil, []byte("m"), some(100)} {
			if key, err := Derive(master, member, epoch); err != api.ErrArg || key != (api.Key{}) {
				t.Errorf("member %d, epoch %d: %v, %d", member, epoch, key, err)
			}
		}
	}
	for _, member := range members {
		for _, epoch := range []int{1, 2, 1 << 20} {
			refused(member, epoch)
		}
	}
	for _, epoch := range epochs {
		for _, member := range slices.Concat([]int{1, 3, 8}, members) {
			refused(member, epoch)
		}
	}
}

// numForms is the forms of the epochs that are asked for, written out.
func numForms() map[int]string {
	return map[int]string{
		1: "\x01", 2: "\x02", 127: "\x7f", 128: "\x81\x00", 300: "\x82\x2c",
		16383: "\xff\x7f", 16384: "\x81\x80\x00", 1<<20 - 1: "\xbf\xff\x7f", 1 << 20: "\xc0\x80\x00",
	}
}

// P3.3: a member's key.
func TestDerive(t *testing.T) {
	for _, master := range [][]byte{nil, {}, []byte("m"), some(32), some(64), some(65), some(300)} {
		for member := 1; member <= 8; member++ {
			for epoch, form := range numForms() {
				key, err := Derive(master, member, epoch)
				whose := string(rune(member)) + form
				code, mark := markOf(master, []byte("code"+whose)), markOf(master, []byte("mark"+whose))
				want := api.Key{Code: [16]byte(code[:16]), Mark: mark}
				if err != api.OK || key != want {
					t.Errorf("member %d, epoch %d: %v, %d, want %v", member, epoch, key, err, want)
				}
				if again, _ := Derive(master, member, epoch); again != key {
					t.Errorf("member %d, epoch %d: another key the second time", member, epoch)
				}
			}
		}
	}
}

// P3.3: unlike members, epochs and masters have unlike keys.
func TestDeriveTells(t *testing.T) {
	type owner struct {
		master        string
		member, epoch int
	}
	codes, marks := map[[16]byte]owner{}, map[[32]byte]owner{}
	for _, master := range []string{"", "m", "n"} {
		for member := 1; member <= 8; member++ {
			for epoch := range numForms() {
				key, err := Derive([]byte(master), member, epoch)
				who := owner{master, member, epoch}
				if err != api.OK {
					t.Fatalf("%v: %d", who, err)
				}
				if other, ok := codes[key.Code]; ok {
					t.Errorf("%v and %v have one Code", who, other)
				}
				if other, ok := marks[key.Mark]; ok {
					t.Errorf("%v and %v have one Mark", who, other)
				}
				if bytes.Equal(key.Code[:], key.Mark[:16]) {
					t.Errorf("%v: Code is of Mark", who)
				}
				codes[key.Code], marks[key.Mark] = who, who
			}
		}
	}
}

// Rules: the master stays as it was, the room behind it too.
func TestDeriveMasterStays(t *testing.T) {
	for _, k := range []int{0, 1, 64, 65} {
		room := some(k + 100)
		if _, err := Derive(room[:k], 3, 300); err != api.OK {
			t.Fatal(err)
		}
		if !bytes.Equal(room, some(k+100)) {
			t.Errorf("a master of %d bytes was changed", k)
		}
	}
}

// P3.4: a key of more than 64 bytes is as its digest; one of 64 is not.
func TestLongKeys(t *testing.T) {
	text := []byte("text")
	for _, k := range keySizes() {
		key := some(k)
		digest := sha256.Sum256(key)
		if same := Of(key, text) == Of(digest[:], text); same != (k > 64) {
			t.Errorf("a key of %d bytes, as its digest: %t", k, same)
		}
		whole, _ := Derive(key, 2, 5)
		short, _ := Derive(digest[:], 2, 5)
		if same := whole == short; same != (k > 64) {
			t.Errorf("a master of %d bytes, as its digest: %t", k, same)
		}
	}
}

// P3.4: noughts behind a key change nothing up to 64 bytes, and beyond they do.
func TestNoughtsBehindKeys(t *testing.T) {
	text := []byte("text")
	for _, k := range []int{0, 1, 32, 62, 63, 64} {
		key := some(k)
		want := Of(key, text)
		for n := k; n <= 70; n++ {
			longer := append(some(k), make([]byte, n-k)...)
			if same := Of(longer, text) == want; same != (n <= 64) {
				t.Errorf("a key of %d bytes, with noughts up to %d: as without them: %t", k, n, same)
			}
		}
	}
	ends := append(some(60), 0, 0, 0, 0)
	if Of(ends, text) != Of(some(60), text) || Of(ends, text) != markInWords(ends, text) {
		t.Error("a key of 64 bytes that ends in noughts is not as without them")
	}
	if Of(append(ends, 0), text) == Of(ends, text) {
		t.Error("a nought behind 64 bytes does not tell")
	}
	if Of([]byte{0, 'k'}, text) == Of([]byte{'k'}, text) {
		t.Error("a nought ahead of a key does not tell")
	}
}
