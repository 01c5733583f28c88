package aes

import (
	known "crypto/aes"
	"encoding/hex"
	"math/rand"
	"strings"
	"testing"
)

// block is 16 bytes of their base 16.
func block(t *testing.T, text string) [16]byte {
	t.Helper()
	b, err := hex.DecodeString(strings.ReplaceAll(text, " ", ""))
	if err != nil || len(b) != 16 {
		t.Fatalf("%q is no block", text)
	}
	return [16]byte(b)
}

// full is a block of one byte.
func full(fill byte) [16]byte {
	var b [16]byte
	for i := range b {
		b[i] = fill
	}
	return b
}

// counted is the block 0, by, 2 by ..
func counted(by int) [16]byte {
	var b [16]byte
	for i := range b {
		b[i] = byte(i * by)
	}
	return b
}

// blocks is edges, and n others, the same ones each time.
func blocks(n int) [][16]byte {
	l := [][16]byte{full(0), full(255), full(1), full(128), counted(1), counted(16), counted(17)}
	for i := range 16 {
		one, most := full(0), full(255)
		one[i], most[i] = 1, 254
		l = append(l, one, most)
	}
	r := rand.New(rand.NewSource(4))
	for range n {
		var b [16]byte
		r.Read(b[:])
		l = append(l, b)
	}
	return l
}

// longProduct is the product by polynomials: all of it first, what is beyond
// x^7 then taken away from the highest on.
func longProduct(a, b byte) byte {
	whole := 0
	for i := range 8 {
		for j := range 8 {
			whole ^= int(a>>i&1) * int(b>>j&1) << (i + j)
		}
	}
	for i := 14; i >= 8; i-- {
		if whole>>i&1 == 1 {
			whole ^= (1<<8 | 1<<4 | 1<<3 | 1<<1 | 1) << (i - 8)
		}
	}
	return byte(whole)
}

// knownSwaps is all bytes swapped, written out.
const knownSwaps = "637c777bf26b6fc53001672bfed7ab76" +
	"ca82c97dfa5947f0add4a2af9ca472c0" +
	"b7fd9326363ff7cc34a5e5f171d83115" +
	"04c723c31896059a071280e2eb27b275" +
	"09832c1a1b6e5aa0523bd6b329e32f84" +
	"53d100ed20fcb15b6acbbe394a4c58cf" +
	"d0efaafb434d338545f9027f503c9fa8" +
	"51a3408f929d38f5bcb6da2110fff3d2" +
	"cd0c13ec5f974417c4a77e3d645d1973" +
	"60814fdc222a908846eeb814de5e0bdb" +
	"e0323a0a4906245cc2d3ac629195e479" +
	"e7c8376d8dd54ea96c56f4ea657aae08" +
	"ba78252e1ca6b4c6e8dd741f4bbd8b8a" +
	"703eb5664803f60e613557b986c11d9e" +
	"e1f8981169d98e949b1e87e9ce5528df" +
	"8ca1890dbfe6426841992d0fb054bb16"

// swapsOf is knownSwaps as bytes.
func swapsOf(t *testing.T) [256]byte {
	t.Helper()
	b, err := hex.DecodeString(knownSwaps)
	if err != nil || len(b) != 256 {
		t.Fatalf("knownSwaps has %d bytes, %v", len(b), err)
	}
	return [256]byte(b)
}

// P4.1, and the examples.
func TestBytesExamples(t *testing.T) {
	for _, c := range []struct {
		name      string
		got, want byte
	}{
		{"Times(57, 83)", Times(0x57, 0x83), 0xc1},
		{"Other(53)", Other(0x53), 0xca},
		{"Swap(0)", Swap(0), 0x63},
		{"Swap(53)", Swap(0x53), 0xed},
	} {
		if c.got != c.want {
			t.Errorf("%s = %x, want %x", c.name, c.got, c.want)
		}
	}
}

// P4.1: products with 0, with 1 and with 2, the polynomial taking part or not.
func TestTimesEdges(t *testing.T) {
	for a := range 256 {
		x := byte(a)
		if Times(x, 0) != 0 || Times(0, x) != 0 {
			t.Errorf("%x and 0: %x, %x", x, Times(x, 0), Times(0, x))
		}
		if Times(x, 1) != x || Times(1, x) != x {
			t.Errorf("%x and 1: %x, %x", x, Times(x, 1), Times(1, x))
		}
		double := byte(2 * a)
		if a >= 128 {
			double ^= 0x1b
		}
		if Times(x, 2) != double || Times(2, x) != double {
			t.Errorf("%x and 2: %x, %x, want %x", x, Times(x, 2), Times(2, x), double)
		}
	}
	for _, c := range [][3]byte{
		{0x02, 0x80, 0x1b}, {0x80, 0x80, 0x9a}, {0x10, 0x10, 0x1b}, {0x10, 0x08, 0x80},
		{0x57, 0x13, 0xfe}, {0x57, 0x10, 0x07}, {0xff, 0xff, 0x13}, {0x03, 0xf6, 0x01},
	} {
		if got := Times(c[0], c[1]); got != c[2] {
			t.Errorf("%x and %x: %x, want %x", c[0], c[1], got, c[2])
		}
	}
}

// P4.1: all products.
func TestTimes(t *testing.T) {
	for a := range 256 {
		for b := range 256 {
			if got, want := Times(byte(a), byte(b)), longProduct(byte(a), byte(b)); got != want {
				t.Fatalf("%x and %x: %x, want %x", a, b, got, want)
			}
		}
	}
}

// P4.1, P4.4: each byte but 0 has one other; that of 0 is 0.
func TestOther(t *testing.T) {
	if Other(0) != 0 || Other(1) != 1 {
		t.Errorf("the others of 0 and 1: %x, %x", Other(0), Other(1))
	}
	for a := 1; a < 256; a++ {
		var others []byte
		for b := range 256 {
			if longProduct(byte(a), byte(b)) == 1 {
				others = append(others, byte(b))
			}
		}
		if got := Other(byte(a)); len(others) != 1 || got != others[0] {
			t.Errorf("the other of %x: %x, want one of %x", a, got, others)
		}
		if got := Other(Other(byte(a))); got != byte(a) {
			t.Errorf("the other of the other of %x: %x", a, got)
		}
		if got := Times(byte(a), Other(byte(a))); got != 1 {
			t.Errorf("%x and its other: %x", a, got)
		}
	}
}

// P4.1: each byte swapped, as it is known and in the words of the chapter.
func TestSwap(t *testing.T) {
	want := swapsOf(t)
	from := map[byte]int{}
	for a := range 256 {
		got := Swap(byte(a))
		if got != want[a] {
			t.Errorf("%x swapped: %x, want %x", a, got, want[a])
		}
		y := Other(byte(a))
		turned := func(n int) byte { return y<<n | y>>(8-n) }
		if words := y ^ turned(1) ^ turned(2) ^ turned(3) ^ turned(4) ^ 99; got != words {
			t.Errorf("%x swapped: %x, in words %x", a, got, words)
		}
		if b, ok := from[got]; ok {
			t.Errorf("%x and %x swapped are both %x", a, b, got)
		}
		from[got] = a
	}
}

// P4.1, P4.2: the bytes swapped that blocks are hidden by are those of Swap,
// though they are not looked for one by one; and they are undone.
func TestSwapsAreSwap(t *testing.T) {
	all := swaps()
	back := undone(all)
	for a := range 256 {
		if all[a] != Swap(byte(a)) {
			t.Errorf("%x swapped: %x, by Swap %x", a, all[a], Swap(byte(a)))
		}
		if back[all[a]] != byte(a) {
			t.Errorf("%x swapped and back: %x", a, back[all[a]])
		}
	}
}

// P4.4: Times does not hang on order or grouping, and goes through exclusive or.
func TestTimesIsProduct(t *testing.T) {
	var times [256][256]byte
	for a := range 256 {
		for b := range 256 {
			times[a][b] = Times(byte(a), byte(b))
		}
	}
	for a := range 256 {
		for b := range 256 {
			if times[a][b] != times[b][a] {
				t.Fatalf("%x and %x hang on their order", a, b)
			}
			for c := range 256 {
				if times[times[a][b]][c] != times[a][times[b][c]] {
					t.Fatalf("%x, %x and %x hang on their grouping", a, b, c)
				}
				if times[a][b^c] != times[a][b]^times[a][c] {
					t.Fatalf("%x does not go through %x exclusive or %x", a, b, c)
				}
			}
		}
	}
}

// P4.2, and the examples.
func TestBlocksExamples(t *testing.T) {
	hidden := Hide(counted(1), counted(17))
	if hex.EncodeToString(hidden[:4]) != "69c4e0d8" {
		t.Errorf("hidden: %x", hidden)
	}
	if want := block(t, "69c4e0d8 6a7b0430 d8cdb780 70b4c55a"); hidden != want {
		t.Errorf("hidden: %x, want %x", hidden, want)
	}
	list := Rounds(block(t, "2b7e151628aed2a6abf7158809cf4f3c"))
	if hex.EncodeToString(list[1][:4]) != "a0fafe17" {
		t.Errorf("the first column of the round 1: %x", list[1][:4])
	}
}

// P4.2: rounds that are known, each of the 11.
func TestRoundsKnown(t *testing.T) {
	for _, rounds := range [][11]string{
		{
			"2b7e1516 28aed2a6 abf71588 09cf4f3c", "a0fafe17 88542cb1 23a33939 2a6c7605",
			"f2c295f2 7a96b943 5935807a 7359f67f", "3d80477d 4716fe3e 1e237e44 6d7a883b",
			"ef44a541 a8525b7f b671253b db0bad00", "d4d1c6f8 7c839d87 caf2b8bc 11f915bc",
			"6d88a37a 110b3efd dbf98641 ca0093fd", "4e54f70e 5f5fc9f3 84a64fb2 4ea6dc4f",
			"ead27321 b58dbad2 312bf560 7f8d292f", "ac7766f3 19fadc21 28d12941 575c006e",
			"d014f9a8 c9ee2589 e13f0cc8 b6630ca6",
		},
		{
			"00000000 00000000 00000000 00000000", "62636363 62636363 62636363 62636363",
			"9b9898c9 f9fbfbaa 9b9898c9 f9fbfbaa", "90973450 696ccffa f2f45733 0b0fac99",
			"ee06da7b 876a1581 759e42b2 7e91ee2b", "7f2e2b88 f8443e09 8dda7cbb f34b9290",
			"ec614b85 1425758c 99ff0937 6ab49ba7", "21751787 3550620b acaf6b3c c61bf09b",
			"0ef90333 3ba96138 97060a04 511dfa9f", "b1d4d8e2 8a7db9da 1d7bb3de 4c664941",
			"b4ef5bcb 3e92e211 23e951cf 6f8f188e",
		},
		{
			"ffffffff ffffffff ffffffff ffffffff", "e8e9e9e9 17161616 e8e9e9e9 17161616",
			"adaeae19 bab8b80f 525151e6 454747f0", "090e2277 b3b69a78 e1e7cb9e a4a08c6e",
			"e16abd3e 52dc2746 b33becd8 179b60b6", "e5baf3ce b766d488 045d3850 13c658e6",
			"71d07db3 c6b6a93b c2eb916b d12dc98d", "e90d208d 2fbb89b6 ed5018dd 3c7dd150",
			"96337366 b988fad0 54d8e20d 68a5335d", "8bf03f23 3278c5f3 66a027fe 0e0514a3",
			"d60a3588 e472f07b 82d2d785 8cd7c326",
		},
	} {
		got := Rounds(block(t, rounds[0]))
		for r, text := range rounds {
			if want := block(t, text); got[r] != want {
				t.Errorf("the key %s, round %d: %x, want %x", rounds[0], r, got[r], want)
			}
		}
	}
}

// roundsInWords is a key's rounds column by column, in the words of the
// chapter, by bytes swapped as they are known.
func roundsInWords(key [16]byte, swap [256]byte) [11][16]byte {
	var columns [44][4]byte
	for i := range columns {
		if i < 4 {
			columns[i] = [4]byte(key[4*i : 4*i+4])
			continue
		}
		before := columns[i-1]
		if i%4 == 0 {
			before = [4]byte{before[1], before[2], before[3], before[0]}
			power := byte(1)
			for range i/4 - 1 {
				power = longProduct(power, 2)
			}
			for k := range before {
				before[k] = swap[before[k]]
			}
			before[0] ^= power
		}
		for k := range before {
			columns[i][k] = columns[i-4][k] ^ before[k]
		}
	}
	var list [11][16]byte
	for i, column := range columns {
		copy(list[i/4][4*(i%4):], column[:])
	}
	return list
}

// P4.2: rounds of many keys.
func TestRounds(t *testing.T) {
	swap := swapsOf(t)
	for _, key := range blocks(500) {
		if got, want := Rounds(key), roundsInWords(key, swap); got != want {
			t.Fatalf("the key %x: %x, want %x", key, got, want)
		}
		if Rounds(key)[0] != key {
			t.Fatalf("the key %x is not the round 0", key)
		}
	}
}

// P4.2: blocks that are known, hidden and shown again.
func TestHideKnown(t *testing.T) {
	const key = "2b7e151628aed2a6abf7158809cf4f3c"
	for _, c := range []struct{ key, b, want string }{
		{"000102030405060708090a0b0c0d0e0f", "00112233445566778899aabbccddeeff", "69c4e0d86a7b0430d8cdb78070b4c55a"},
		{key, "3243f6a8885a308d313198a2e0370734", "3925841d02dc09fbdc118597196a0b32"},
		{key, "6bc1bee22e409f96e93d7e117393172a", "3ad77bb40d7a3660a89ecaf32466ef97"},
		{key, "ae2d8a571e03ac9c9eb76fac45af8e51", "f5d3d58503b9699de785895a96fdbaaf"},
		{key, "30c81c46a35ce411e5fbc1191a0a52ef", "43b1cd7f598ece23881b00e3ed030688"},
		{key, "f69f2445df4f9b17ad2b417be66c3710", "7b0c785e27e8ad3f8223207104725dd4"},
		{"00000000000000000000000000000000", "00000000000000000000000000000000", "66e94bd4ef8a2c3b884cfa59ca342b2e"},
		{"00000000000000000000000000000000", "ffffffffffffffffffffffffffffffff", "3f5b8cc9ea855a0afa7347d23e8d664e"},
		{"ffffffffffffffffffffffffffffffff", "00000000000000000000000000000000", "a1f6258c877d5fcd8964484538bfc92c"},
		{"ffffffffffffffffffffffffffffffff", "ffffffffffffffffffffffffffffffff", "bcbf217cb280cf30b2517052193ab979"},
	} {
		key, b, want := block(t, c.key), block(t, c.b), block(t, c.want)
		if got := Hide(key, b); got != want {
			t.Errorf("%s under %s: %x, want %s", c.b, c.key, got, c.want)
		}
		if got := Show(key, want); got != b {
			t.Errorf("%s under %s shown: %x, want %s", c.want, c.key, got, c.b)
		}
	}
}

// hideInWords is a block hidden step by step, in the words of the chapter: a
// block is rows of columns here.
func hideInWords(key, b [16]byte, swap [256]byte) [16]byte {
	var rows [4][4]byte
	list := roundsInWords(key, swap)
	for i := range b {
		rows[i%4][i/4] = b[i] ^ list[0][i]
	}
	for round := 1; round <= 10; round++ {
		var next [4][4]byte
		for r := range 4 {
			for c := range 4 {
				next[r][c] = swap[rows[r][(c+r)%4]]
			}
		}
		for r := range 4 {
			for c := range 4 {
				rows[r][c] = next[r][c]
				if round < 10 {
					two, three := longProduct(2, next[r][c]), longProduct(3, next[(r+1)%4][c])
					rows[r][c] = two ^ three ^ next[(r+2)%4][c] ^ next[(r+3)%4][c]
				}
				rows[r][c] ^= list[round][4*c+r]
			}
		}
	}
	for i := range b {
		b[i] = rows[i%4][i/4]
	}
	return b
}

// P4.2: many blocks under many keys, against another AES and the chapter's
// words.
func TestHideAndShow(t *testing.T) {
	swap := swapsOf(t)
	for _, key := range blocks(30) {
		other, err := known.NewCipher(key[:])
		if err != nil {
			t.Fatal(err)
		}
		for _, b := range blocks(30) {
			var hidden, shown [16]byte
			other.Encrypt(hidden[:], b[:])
			other.Decrypt(shown[:], b[:])
			if got := Hide(key, b); got != hidden || got != hideInWords(key, b, swap) {
				t.Fatalf("%x under %x: %x, want %x", b, key, got, hidden)
			}
			if got := Show(key, b); got != shown {
				t.Fatalf("%x under %x shown: %x, want %x", b, key, got, shown)
			}
		}
	}
}

// P4.3: there and back, from either side.
func TestThereAndBack(t *testing.T) {
	for _, key := range blocks(40) {
		for _, b := range blocks(40) {
			if got := Show(key, Hide(key, b)); got != b {
				t.Fatalf("%x under %x, hidden and shown: %x", b, key, got)
			}
			if got := Hide(key, Show(key, b)); got != b {
				t.Fatalf("%x under %x, shown and hidden: %x", b, key, got)
			}
		}
	}
}

// P4.2: each bit of the key and of the block tells, both ways.
func TestEachBitTells(t *testing.T) {
	for _, key := range [][16]byte{full(0), full(255), counted(1)} {
		b := counted(17)
		hidden, shown := map[[16]byte]int{Hide(key, b): -1}, map[[16]byte]int{Show(key, b): -1}
		for bit := range 256 {
			k, x := key, b
			if bit < 128 {
				k[bit/8] ^= 1 << (bit % 8)
			} else {
				x[bit/8-16] ^= 1 << (bit % 8)
			}
			h, s := Hide(k, x), Show(k, x)
			if other, ok := hidden[h]; ok {
				t.Errorf("the key %x: bits %d and %d hide alike", key, bit, other)
			}
			if other, ok := shown[s]; ok {
				t.Errorf("the key %x: bits %d and %d show alike", key, bit, other)
			}
			hidden[h], shown[s] = bit, bit
		}
	}
}

// Rules: what is handed in stays as it was; nothing is kept from call to call,
// and what is told is the caller's own.
func TestArgumentsStay(t *testing.T) {
	key, b := counted(1), counted(17)
	list, hidden, shown := Rounds(key), Hide(key, b), Show(key, b)
	if key != counted(1) || b != counted(17) {
		t.Errorf("changed: the key %x, the block %x", key, b)
	}
	wantList, wantHidden, wantShown := list, hidden, shown
	list[3][5]++
	hidden[0]++
	shown[15]++
	Rounds(full(255))
	Hide(full(255), full(0))
	Show(full(255), full(0))
	if Rounds(key) != wantList || Hide(key, b) != wantHidden || Show(key, b) != wantShown {
		t.Error("another answer the second time")
	}
	if Hide(b, b) == Hide(key, b) || Hide(key, key) != Hide(key, counted(1)) {
		t.Error("the key and the block are not told apart")
	}
}
