package frag

import (
	"bytes"
	"math"
	"math/rand"
	"slices"
	"testing"

	"oriel/api"
)

// some is n bytes, the same ones each time.
func some(n int) []byte {
	b := make([]byte, n)
	rand.New(rand.NewSource(int64(n))).Read(b)
	return b
}

// piece is one that is not the last.
func piece(id uint64, at int, b string) api.Piece {
	return api.Piece{Id: id, At: at, B: []byte(b)}
}

// last is a piece behind which none comes.
func last(id uint64, at int, b string) api.Piece {
	return api.Piece{Id: id, At: at, Last: true, B: []byte(b)}
}

// same tells whether pieces are one; none and an empty list are one.
func same(p, q api.Piece) bool {
	return p.Id == q.Id && p.At == q.At && p.Last == q.Last && bytes.Equal(p.B, q.B)
}

// isNone tells whether nothing is told of a piece.
func isNone(p api.Piece) bool { return same(p, api.Piece{}) && p.B == nil }

// ids are those of texts: the edges, and those at which a form grows longer.
func ids() []uint64 {
	return []uint64{0, 1, 7, 127, 128, 16383, 16384, 1<<32 - 1, 1 << 32, 1<<63 - 1, 1 << 63, math.MaxUint64 - 1, math.MaxUint64}
}

// noPlaces are numbers that are no place.
func noPlaces() []int {
	return []int{math.MinInt, math.MinInt + 1, -1 << 32, -256, -2, -1, 256, 257, 511, 512, 1 << 32, math.MaxInt/2 + 1, math.MaxInt}
}

// numForm is a number's form by the words of layer 1: its digits of base 128.
func numForm(n uint64) []byte {
	form := []byte{byte(n % 128)}
	for n /= 128; n > 0; n /= 128 {
		form = append([]byte{128 + byte(n%128)}, form...)
	}
	return form
}

// formInWords is a piece's form by the words of the chapter.
func formInWords(p api.Piece) []byte {
	n := uint64(2 * p.At)
	if p.Last {
		n++
	}
	return slices.Concat(numForm(p.Id), numForm(n), p.B)
}

// cut is what Cut tells of what may be cut.
func cut(t *testing.T, id uint64, text []byte, size int) []api.Piece {
	t.Helper()
	l, err := Cut(id, text, size)
	if err != api.OK {
		t.Fatalf("Cut of %d bytes, size %d: error %d", len(text), size, err)
	}
	return l
}

// silent holds that a joiner tells nothing of a piece.
func silent(t *testing.T, j *Joiner, p api.Piece) {
	t.Helper()
	if text, whole, err := j.Put(p); text != nil || whole || err != api.OK {
		t.Fatalf("Put of the piece %d of %d: %d bytes, %t, error %d", p.At, p.Id, len(text), whole, err)
	}
}

// tells holds that a joiner tells a text by a piece, and holds nothing then.
func tells(t *testing.T, j *Joiner, p api.Piece, want string) {
	t.Helper()
	text, whole, err := j.Put(p)
	if string(text) != want || !whole || err != api.OK {
		t.Fatalf("Put of the piece %d of %d: %d bytes, %t, error %d; want %d bytes", p.At, p.Id, len(text), whole, err, len(want))
	}
	stands(t, j, p.Id, 0, 0)
}

// refuses holds that a joiner tells an error, and nothing beside it.
func refuses(t *testing.T, j *Joiner, p api.Piece, want api.Errno) {
	t.Helper()
	if text, whole, err := j.Put(p); text != nil || whole || err != want {
		t.Fatalf("Put of the piece %d of %d: %d bytes, %t, error %d; want error %d", p.At, p.Id, len(text), whole, err, want)
	}
}

// stands holds what a joiner says of itself.
func stands(t *testing.T, j *Joiner, id uint64, many, size int) {
	t.Helper()
	gotMany, gotSize := j.Held()
	if j.Id() != id || gotMany != many || gotSize != size {
		t.Fatalf("Id %d, held %d, %d; want %d, %d, %d", j.Id(), gotMany, gotSize, id, many, size)
	}
}

// great puts so many whole pieces of a text, from a place on, that is not given
// up by them.
func great(t *testing.T, j *Joiner, id uint64, from, many int) {
	t.Helper()
	for i := range many {
		silent(t, j, api.Piece{Id: id, At: from + i, B: make([]byte, api.MaxPiece)})
	}
}

// The examples.
func TestExamples(t *testing.T) {
	l := cut(t, 9, []byte("abcde"), 2)
	want := []api.Piece{piece(9, 0, "ab"), piece(9, 1, "cd"), last(9, 2, "e")}
	if !slices.EqualFunc(l, want, same) {
		t.Errorf("Cut of abcde: %v", l)
	}
	if b, err := Form(last(7, 1, "x")); !bytes.Equal(b, []byte{7, 3, 0x78}) || err != api.OK {
		t.Errorf("Form of {7, 1, true, x}: %x, error %d", b, err)
	}
	j := New()
	silent(t, j, l[2])
	silent(t, j, l[0])
	silent(t, j, l[0])
	tells(t, j, l[1], "abcde")
	for _, p := range l {
		silent(t, j, p)
	}
	if l, err := Cut(9, make([]byte, 257), 1); l != nil || err != api.ErrLong {
		t.Errorf("Cut of 257 bytes, size 1: %d pieces, error %d", len(l), err)
	}
}

// P8.1: forms at the edges, each byte by hand.
func TestForm(t *testing.T) {
	greatest := "\x81\xff\xff\xff\xff\xff\xff\xff\xff\x7f"
	long := string(some(1100))
	for _, x := range []struct {
		p    api.Piece
		want string
	}{
		{api.Piece{}, "\x00\x00"},
		{api.Piece{B: []byte{}}, "\x00\x00"},
		{api.Piece{Last: true}, "\x00\x01"},
		{piece(7, 1, "x"), "\x07\x02x"},
		{last(7, 1, "x"), "\x07\x03x"},
		{piece(128, 63, "ab"), "\x81\x00\x7eab"},
		{last(128, 63, "ab"), "\x81\x00\x7fab"},
		{piece(128, 64, ""), "\x81\x00\x81\x00"},
		{piece(0, 255, "z"), "\x00\x83\x7ez"},
		{last(0, 255, "z"), "\x00\x83\x7fz"},
		{last(math.MaxUint64, 0, "\x00\xff"), greatest + "\x01\x00\xff"},
		{last(math.MaxUint64, 255, long), greatest + "\x83\x7f" + long},
	} {
		if b, err := Form(x.p); string(b) != x.want || err != api.OK {
			t.Errorf("Form of the piece %d of %d: %x, error %d", x.p.At, x.p.Id, b, err)
		}
		if p, err := Read([]byte(x.want)); !same(p, x.p) || err != api.OK {
			t.Errorf("Read of %x: the piece %d of %d, last %t, %d bytes, error %d", x.want, p.At, p.Id, p.Last, len(p.B), err)
		}
	}
}

// P8.1: forms of all edges together, by the chapter's words, there and back.
func TestFormInWords(t *testing.T) {
	for _, id := range ids() {
		for at := range 256 {
			for _, size := range []int{0, 1, 2, 1099, 1100} {
				for _, end := range []bool{false, true} {
					p := api.Piece{Id: id, At: at, Last: end, B: some(size)}
					b, err := Form(p)
					if err != api.OK || !bytes.Equal(b, formInWords(p)) {
						t.Fatalf("Form of the piece %d of %d, %d bytes: %x, error %d", at, id, size, b, err)
					}
					if got, err := Read(b); err != api.OK || !same(got, p) {
						t.Fatalf("Read of the form of the piece %d of %d, %d bytes: %v, error %d", at, id, size, got, err)
					}
				}
			}
		}
	}
}

// P8.1: what has no form: no place, then too many bytes; both: no place.
func TestFormRefuses(t *testing.T) {
	form := func(p api.Piece, want api.Errno) {
		t.Helper()
		if b, err := Form(p); b != nil || err != want {
			t.Errorf("Form of the piece %d, %d bytes: %x, error %d, want %d", p.At, len(p.B), b, err, want)
		}
	}
	for _, id := range ids() {
		for _, end := range []bool{false, true} {
			for _, at := range noPlaces() {
				for _, size := range []int{0, 1, 1100, 1101, 70000} {
					form(api.Piece{Id: id, At: at, Last: end, B: make([]byte, size)}, api.ErrArg)
				}
			}
			for _, at := range []int{0, 1, 255} {
				for _, size := range []int{1101, 1102, 65536, 70000} {
					form(api.Piece{Id: id, At: at, Last: end, B: make([]byte, size)}, api.ErrLong)
				}
			}
		}
	}
}

// P8.1: bytes that are no piece's form.
func TestReadRefuses(t *testing.T) {
	most := bytes.Repeat([]byte{255}, 8)
	for _, b := range [][]byte{
		nil,
		{},
		{0},                // no second number
		{0x7f},             // likewise
		{0x81},             // the first number is cut
		{0x81, 0x80},       // likewise
		{7, 0x83},          // the second number is cut
		{7, 0x81, 0x80},    // likewise
		{0x80, 0, 0},       // a group of nought ahead of the first number
		{0x80, 1, 0},       // likewise
		{7, 0x80, 0},       // ahead of the second number
		{7, 0x80, 1},       // likewise
		{7, 0x80, 0x83, 0}, // likewise
		{7, 0x84, 0},       // the second number is 512
		{7, 0x84, 1},       // 513
		{7, 0x84, 0, 'x'},  // 512, bytes behind it
		{7, 0x81, 0x80, 0}, // 16384
		slices.Concat([]byte{7, 0x81}, most, []byte{0x7f}),    // 2^64 - 1
		slices.Concat([]byte{7, 0x81}, most, []byte{0x7e}),    // 2^64 - 2
		slices.Concat([]byte{0x81}, most, []byte{0xff, 0, 0}), // more than ten bytes
		slices.Concat([]byte{0x83}, most, []byte{0x7f, 0}),    // more than 2^64
		slices.Concat([]byte{7, 0x83}, most, []byte{0x7f}),    // the second one likewise
		append([]byte{7, 3}, make([]byte, 1101)...),
		append([]byte{7, 3}, make([]byte, 1102)...),
		append([]byte{0x81, 0, 0x83, 0x7f}, make([]byte, 1101)...),
		append([]byte{7, 0x84, 0}, make([]byte, 1101)...),
		make([]byte, 1103),
		make([]byte, 1<<20),
		bytes.Repeat([]byte{255}, 40),
	} {
		if p, err := Read(b); !isNone(p) || err != api.ErrBytes {
			t.Errorf("Read of %d bytes, the first ones %x: %v, error %d", len(b), b[:min(len(b), 16)], p, err)
		}
	}
	for _, id := range ids() {
		for n := range uint64(1030) {
			b := append(numForm(id), numForm(n)...)
			p, err := Read(b)
			if n >= 512 && (!isNone(p) || err != api.ErrBytes) {
				t.Fatalf("Read of the numbers %d and %d: %v, error %d", id, n, p, err)
			}
			if want := (api.Piece{Id: id, At: int(n / 2), Last: n%2 == 1}); n < 512 && (!same(p, want) || err != api.OK) {
				t.Fatalf("Read of the numbers %d and %d: %v, error %d", id, n, p, err)
			}
			for i := range b {
				if p, err := Read(b[:i]); !isNone(p) || err != api.ErrBytes {
					t.Fatalf("Read of %x: %v, error %d", b[:i], p, err)
				}
			}
		}
	}
}

// again holds that bytes are read as the piece of which they are the form, or
// not at all.
func again(t *testing.T, b []byte) {
	t.Helper()
	p, err := Read(b)
	if err != api.OK {
		if err != api.ErrBytes || !isNone(p) {
			t.Fatalf("Read of %x: %v, error %d", b, p, err)
		}
		return
	}
	if p.At < 0 || p.At > 255 || len(p.B) > 1100 || !bytes.Equal(formInWords(p), b) {
		t.Fatalf("Read of %x: %v", b, p)
	}
	if form, err := Form(p); err != api.OK || !bytes.Equal(form, b) {
		t.Fatalf("Form of what %x was read as: %x, error %d", b, form, err)
	}
}

// P8.1: what was read is, formed again, the bytes that were read.
func TestReadAgain(t *testing.T) {
	for a := range 256 {
		again(t, []byte{byte(a)})
		for b := range 256 {
			again(t, []byte{byte(a), byte(b)})
			for _, c := range []byte{0, 1, 127, 128, 129, 131, 132, 255} {
				again(t, []byte{byte(a), byte(b), c})
				again(t, []byte{byte(a), byte(b), c, 5})
				again(t, []byte{byte(a), byte(b), c, 128, 0})
			}
		}
	}
	r := rand.New(rand.NewSource(81))
	for range 20000 {
		b := make([]byte, r.Intn(30))
		r.Read(b)
		again(t, b)
	}
}

func FuzzReadAgain(f *testing.F) {
	f.Add([]byte{7, 3, 'x'})
	f.Add([]byte{1, 0x84, 0})
	f.Add([]byte{})
	f.Fuzz(func(t *testing.T, b []byte) { again(t, b) })
}

// isCut holds that pieces are a text's, by the chapter's words.
func isCut(t *testing.T, l []api.Piece, id uint64, text []byte, size int) {
	t.Helper()
	left := text
	for at, p := range l {
		end := at == len(l)-1
		if p.Id != id || p.At != at || p.Last != end || !bytes.HasPrefix(left, p.B) {
			t.Fatalf("%d bytes, size %d: the piece %d is %d of %d, last %t, %d bytes", len(text), size, at, p.At, p.Id, p.Last, len(p.B))
		}
		left = left[len(p.B):]
		if !end && len(p.B) != size || end && len(p.B) > size || end && len(p.B) == 0 && len(text) > 0 {
			t.Fatalf("%d bytes, size %d: the piece %d has %d bytes", len(text), size, at, len(p.B))
		}
	}
	if len(l) == 0 || len(left) > 0 {
		t.Fatalf("%d bytes, size %d: %d pieces, %d bytes are left", len(text), size, len(l), len(left))
	}
}

// P8.2: how many pieces there are, and what they have.
func TestCut(t *testing.T) {
	for _, x := range []struct{ length, size, many int }{
		{0, 1, 1}, {0, 2, 1}, {0, 1100, 1},
		{1, 1, 1}, {1, 2, 1}, {1, 1100, 1}, {2, 1, 2}, {2, 2, 1}, {3, 2, 2}, {4, 2, 2}, {5, 2, 3}, {6, 2, 3},
		{255, 1, 255}, {256, 1, 256}, {511, 2, 256}, {512, 2, 256}, {510, 2, 255},
		{1099, 1100, 1}, {1100, 1100, 1}, {1101, 1100, 2}, {2200, 1100, 2}, {2201, 1100, 3},
		{65536, 256, 256}, {65535, 256, 256}, {65281, 256, 256}, {65280, 256, 255}, {65280, 255, 256},
		{65536, 257, 256}, {65536, 1000, 66}, {65536, 1024, 64}, {65536, 1099, 60}, {65536, 1100, 60},
	} {
		for _, id := range []uint64{0, 9, math.MaxUint64} {
			text := some(x.length)
			l := cut(t, id, text, x.size)
			if len(l) != x.many {
				t.Errorf("%d bytes, size %d: %d pieces, want %d", x.length, x.size, len(l), x.many)
			}
			isCut(t, l, id, text, x.size)
		}
	}
	for _, text := range [][]byte{nil, {}} {
		if l := cut(t, 5, text, 3); len(l) != 1 || !same(l[0], last(5, 0, "")) {
			t.Errorf("Cut of no text: %v", l)
		}
	}
}

// P8.2: all short texts by all small sizes, and any others.
func TestCutAny(t *testing.T) {
	for length := range 40 {
		for size := 1; size <= 42; size++ {
			isCut(t, cut(t, 3, some(length), size), 3, some(length), size)
		}
	}
	r := rand.New(rand.NewSource(82))
	for range 500 {
		size := 1 + r.Intn(1100)
		text := some(r.Intn(min(65536, 256*size) + 1))
		isCut(t, cut(t, 3, text, size), 3, text, size)
	}
}

// P8.2: what can't be cut, and which error is told first.
func TestCutRefuses(t *testing.T) {
	for _, x := range []struct {
		length, size int
		want         api.Errno
	}{
		{5, 0, api.ErrArg}, {5, -1, api.ErrArg}, {5, 1101, api.ErrArg}, {5, 1102, api.ErrArg},
		{5, math.MinInt, api.ErrArg}, {5, math.MaxInt, api.ErrArg}, {5, math.MaxInt - 5, api.ErrArg},
		{0, 0, api.ErrArg}, {0, -1, api.ErrArg}, {0, 1101, api.ErrArg},
		{65536, 1101, api.ErrArg}, {65537, 0, api.ErrArg}, {65537, -1, api.ErrArg}, {65537, 1101, api.ErrArg},
		{65537, math.MinInt, api.ErrArg}, {65537, math.MaxInt, api.ErrArg}, {257, 0, api.ErrArg},
		{65537, 1, api.ErrLong}, {65537, 256, api.ErrLong}, {65537, 257, api.ErrLong}, {65537, 1000, api.ErrLong},
		{65537, 1100, api.ErrLong}, {65538, 1100, api.ErrLong}, {281600, 1100, api.ErrLong}, {1 << 20, 1100, api.ErrLong},
		{257, 1, api.ErrLong}, {258, 1, api.ErrLong}, {513, 2, api.ErrLong}, {514, 2, api.ErrLong},
		{65281, 255, api.ErrLong}, {65536, 255, api.ErrLong}, {65536, 1, api.ErrLong},
	} {
		if l, err := Cut(9, make([]byte, x.length), x.size); l != nil || err != x.want {
			t.Errorf("Cut of %d bytes, size %d: %d pieces, error %d, want %d", x.length, x.size, len(l), err, x.want)
		}
	}
	if l, err := Cut(9, nil, 0); l != nil || err != api.ErrArg {
		t.Errorf("Cut of nil, size 0: %d pieces, error %d", len(l), err)
	}
}

// P8.3: errors, in their order, and that nothing has changed by them: neither
// by a piece of the text nor by one of a greater Id.
func TestPutRefuses(t *testing.T) {
	var none *Joiner
	for _, at := range []int{-1, 0, 255, 256} {
		for _, size := range []int{0, 1100, 1101} {
			refuses(t, none, api.Piece{Id: 3, At: at, B: make([]byte, size)}, api.ErrNil)
		}
	}
	for _, id := range []uint64{0, 4, 5, 6, math.MaxUint64} {
		for _, end := range []bool{false, true} {
			j := New()
			some := func(at, size int) api.Piece {
				return api.Piece{Id: id, At: at, Last: end, B: make([]byte, size)}
			}
			all := func() {
				t.Helper()
				for _, at := range noPlaces() {
					refuses(t, j, some(at, 1), api.ErrArg)
					refuses(t, j, some(at, 1101), api.ErrArg)
				}
				for _, at := range []int{0, 1, 2, 3, 255} {
					refuses(t, j, some(at, 1101), api.ErrLong)
					refuses(t, j, some(at, 70000), api.ErrLong)
				}
			}
			all()
			stands(t, j, 0, 0, 0)
			silent(t, j, piece(5, 1, "b"))
			all()
			stands(t, j, 5, 1, 1)
			silent(t, j, last(5, 2, "c"))
			all()
			stands(t, j, 5, 2, 2)
			tells(t, j, piece(5, 0, "a"), "abc")
			all()
			stands(t, j, 5, 0, 0)
		}
	}
}

// P8.3: places and bytes at their edges are taken.
func TestPutEdges(t *testing.T) {
	j := New()
	silent(t, j, api.Piece{Id: 1, At: 255, B: some(1100)})
	stands(t, j, 1, 1, 1100)
	silent(t, j, api.Piece{Id: 1, At: 1, B: nil})
	silent(t, j, api.Piece{Id: 1, At: 2, B: []byte{}})
	stands(t, j, 1, 3, 1100)
	silent(t, j, api.Piece{Id: 1, At: 3, Last: true})
	stands(t, j, 1, 3, 0)
	tells(t, j, api.Piece{Id: 1, At: 0, B: some(1100)}, string(some(1100)))

	tells(t, j, last(2, 0, ""), "")
	tells(t, j, api.Piece{Id: 3, Last: true, B: some(1100)}, string(some(1100)))
	tells(t, j, last(math.MaxUint64, 0, "x"), "x")
	silent(t, j, last(math.MaxUint64, 0, "x"))
	silent(t, j, last(0, 0, "x"))
	stands(t, j, math.MaxUint64, 0, 0)
}

// P8.3: 256 pieces, of which none or the last one is Last.
func TestPutMany(t *testing.T) {
	j := New()
	for at := range 256 {
		silent(t, j, piece(4, at, "x"))
		stands(t, j, 4, at+1, at+1)
	}
	silent(t, j, last(4, 255, "x"))
	silent(t, j, last(4, 0, "x"))
	stands(t, j, 4, 256, 256)

	for _, back := range []bool{false, true} {
		l := cut(t, 4, some(256), 1)
		if back {
			slices.Reverse(l)
		}
		j := New()
		for i, p := range l[:255] {
			silent(t, j, p)
			stands(t, j, 4, i+1, i+1)
		}
		tells(t, j, l[255], string(some(256)))
	}
}

// P8.3: a place that is held: the first piece that came counts, whatever the
// other one has, Last too.
func TestPutTwice(t *testing.T) {
	j := New()
	silent(t, j, piece(4, 0, "a"))
	silent(t, j, piece(4, 0, "zz"))
	silent(t, j, last(4, 0, "a"))
	silent(t, j, last(4, 0, ""))
	stands(t, j, 4, 1, 1)
	silent(t, j, piece(4, 1, "b"))
	silent(t, j, last(4, 1, "b"))
	stands(t, j, 4, 2, 2)
	tells(t, j, last(4, 2, "c"), "abc")

	// a piece without bytes holds its place too
	silent(t, j, piece(5, 1, ""))
	silent(t, j, piece(5, 1, "zz"))
	stands(t, j, 5, 1, 0)
	silent(t, j, last(5, 2, "c"))
	silent(t, j, last(5, 2, "zz"))
	tells(t, j, piece(5, 0, "a"), "ac")
}

// P8.3: pieces of a lesser Id, of the same and of a greater one: in the middle
// of a text, once one was told, and once one was given up.
func TestPutIds(t *testing.T) {
	lesser := func(j *Joiner, many, size int) {
		t.Helper()
		for _, id := range []uint64{0, 1, 8} {
			for _, p := range []api.Piece{piece(id, 0, "z"), piece(id, 7, "z"), last(id, 0, "z"), last(id, 1, "z"), last(id, 255, "")} {
				silent(t, j, p)
				stands(t, j, 9, many, size)
			}
		}
	}
	for name, ahead := range map[string]func(j *Joiner){
		"in the middle": func(j *Joiner) {
			silent(t, j, piece(9, 1, "bb"))
			lesser(j, 1, 2)
			silent(t, j, last(9, 3, "d"))
			lesser(j, 2, 3)
			silent(t, j, piece(9, 0, ""))
			lesser(j, 3, 3)
		},
		"told": func(j *Joiner) {
			tells(t, j, last(9, 0, "a"), "a")
			lesser(j, 0, 0)
			silent(t, j, last(9, 0, "a"))
			silent(t, j, piece(9, 1, "b"))
			silent(t, j, last(9, 255, "b"))
			stands(t, j, 9, 0, 0)
		},
		"given up": func(j *Joiner) {
			great(t, j, 9, 0, 59)
			refuses(t, j, api.Piece{Id: 9, At: 59, B: make([]byte, 1100)}, api.ErrLong)
			lesser(j, 0, 0)
			silent(t, j, last(9, 0, "a"))
			silent(t, j, piece(9, 1, "b"))
			silent(t, j, piece(9, 60, "b"))
			stands(t, j, 9, 0, 0)
		},
	} {
		for _, id := range []uint64{10, 11, math.MaxUint64} {
			t.Run(name, func(t *testing.T) {
				// by a piece ahead, behind, and by one that is whole
				j := New()
				ahead(j)
				silent(t, j, piece(id, 0, "abc"))
				stands(t, j, id, 1, 3)
				tells(t, j, last(id, 1, "d"), "abcd")

				j = New()
				ahead(j)
				silent(t, j, last(id, 1, "d"))
				stands(t, j, id, 1, 1)
				tells(t, j, piece(id, 0, "abc"), "abcd")

				j = New()
				ahead(j)
				tells(t, j, last(id, 0, "abc"), "abc")

				// beyond how many there had to be of the text ahead
				j = New()
				ahead(j)
				silent(t, j, piece(id, 255, "far"))
				stands(t, j, id, 1, 3)
			})
		}
	}
}

// P8.3, P8.4: any Id is greater than none: a first piece of Id 0.
func TestPutFirst(t *testing.T) {
	for _, make := range []func() *Joiner{New, func() *Joiner { return new(Joiner) }} {
		j := make()
		stands(t, j, 0, 0, 0)
		silent(t, j, piece(0, 0, "a"))
		stands(t, j, 0, 1, 1)
		silent(t, j, piece(0, 0, "b"))
		stands(t, j, 0, 1, 1)
		tells(t, j, last(0, 1, "c"), "ac")
		silent(t, j, last(0, 0, "a"))
		silent(t, j, piece(0, 5, "a"))
		stands(t, j, 0, 0, 0)
		tells(t, j, last(1, 0, "x"), "x")
		silent(t, j, last(0, 0, "a"))
		stands(t, j, 1, 0, 0)

		tells(t, make(), last(0, 0, ""), "")
	}
}

// P8.3: two pieces that are both Last: the first one that came counts; the
// other one, at a lesser place, is a piece as others are, and at a greater one
// nothing.
func TestPutLasts(t *testing.T) {
	j := New()
	silent(t, j, last(6, 3, "d"))
	silent(t, j, last(6, 1, "b"))
	stands(t, j, 6, 2, 2)
	silent(t, j, piece(6, 0, "a"))
	stands(t, j, 6, 3, 3)
	tells(t, j, piece(6, 2, "c"), "abcd")

	j = New()
	silent(t, j, last(6, 1, "b"))
	for _, p := range []api.Piece{last(6, 2, "c"), last(6, 255, "c"), piece(6, 2, "c"), piece(6, 3, ""), last(6, 1, "zz")} {
		silent(t, j, p)
		stands(t, j, 6, 1, 1)
	}
	tells(t, j, last(6, 0, "a"), "ab")
}

// P8.3: pieces that are held at or beyond how many there must be are let go, as
// soon as that is known; what is below stays.
func TestPutBeyond(t *testing.T) {
	j := New()
	for _, at := range []int{1, 2, 3, 4, 255} {
		silent(t, j, piece(6, at, "abcdef"))
	}
	stands(t, j, 6, 5, 30)
	tells(t, j.Copy(), last(6, 0, "z"), "z")
	silent(t, j.Copy(), last(6, 2, "z")) // that place is held

	// all places below it are held, and others beyond it
	j = New()
	for _, at := range []int{0, 1, 3, 4, 255} {
		silent(t, j, piece(6, at, "ab"))
	}
	tells(t, j, last(6, 2, "z"), "ababz")

	// a place below it is not held, though as many beyond it were
	j = New()
	for _, at := range []int{0, 3, 4, 255} {
		silent(t, j, piece(6, at, "ab"))
	}
	silent(t, j, last(6, 2, "z"))
	stands(t, j, 6, 2, 3)
	for _, at := range []int{3, 4, 5, 255} {
		silent(t, j, piece(6, at, "ab"))
		silent(t, j, last(6, at, "ab"))
	}
	stands(t, j, 6, 2, 3)
	tells(t, j, piece(6, 1, "cd"), "abcdz")

	// the greatest place: nothing is beyond it
	j = New()
	silent(t, j, piece(6, 254, "x"))
	silent(t, j, last(6, 255, "y"))
	stands(t, j, 6, 2, 2)
}

// P8.3: a text that comes to just 65536 bytes, and one that comes to one more:
// by its last piece, and by another one.
func TestPutWhole(t *testing.T) {
	rest := api.MaxWhole - 59*api.MaxPiece // 636
	for _, end := range []bool{false, true} {
		p := func(at, size int) api.Piece {
			return api.Piece{Id: 2, At: at, Last: end, B: make([]byte, size)}
		}
		j := New()
		great(t, j, 2, 0, 59)
		stands(t, j, 2, 59, 64900)
		up := j.Copy()
		if end {
			tells(t, j, p(59, rest), string(make([]byte, 65536)))
		} else {
			silent(t, j, p(59, rest))
			stands(t, j, 2, 60, 65536)
			silent(t, j, p(200, 0))
			stands(t, j, 2, 61, 65536)
			tells(t, j.Copy(), last(2, 60, ""), string(make([]byte, 65536)))
			refuses(t, j, p(100, 1), api.ErrLong)
			stands(t, j, 2, 0, 0)
		}
		refuses(t, up, p(59, rest+1), api.ErrLong)
		stands(t, up, 2, 0, 0)
		for _, at := range []int{0, 58, 59, 60, 255} {
			silent(t, up, p(at, 1))
			silent(t, up, p(at, 0))
			silent(t, up, p(at, 1100))
			refuses(t, up, p(at, 1101), api.ErrLong)
			refuses(t, up, p(at-256, 1), api.ErrArg)
		}
		stands(t, up, 2, 0, 0)
	}

	// the last piece came first: the text is given up by another one
	j := New()
	silent(t, j, api.Piece{Id: 2, At: 59, Last: true, B: make([]byte, rest+1)})
	great(t, j, 2, 1, 58)
	up := j.Copy()
	refuses(t, up, api.Piece{Id: 2, At: 0, B: make([]byte, 1100)}, api.ErrLong)
	stands(t, up, 2, 0, 0)
	tells(t, j, api.Piece{Id: 2, At: 0, B: make([]byte, 1099)}, string(make([]byte, 65536)))

	// places that are held already add nothing
	j = New()
	great(t, j, 2, 0, 59)
	great(t, j, 2, 0, 59)
	stands(t, j, 2, 59, 64900)
}

// P8.3: what a Last piece lets go does not count: a text that would come to
// more with it is told, or goes on, or is given up by what is left alone.
func TestPutLetsGo(t *testing.T) {
	j := New()
	great(t, j, 2, 1, 59)
	refuses(t, j.Copy(), api.Piece{Id: 2, At: 0, B: make([]byte, 1100)}, api.ErrLong)
	refuses(t, j.Copy(), api.Piece{Id: 2, At: 60, Last: true, B: make([]byte, 1100)}, api.ErrLong)
	tells(t, j, api.Piece{Id: 2, At: 0, Last: true, B: some(1100)}, string(some(1100)))

	j = New()
	great(t, j, 2, 40, 59)
	silent(t, j, api.Piece{Id: 2, At: 39, Last: true, B: make([]byte, 1100)})
	stands(t, j, 2, 1, 1100)
	great(t, j, 2, 1, 38)
	tells(t, j, piece(2, 0, "abc"), "abc"+string(make([]byte, 39*1100)))

	// just one of the pieces is let go, and it was what had been too much
	j = New()
	great(t, j, 2, 0, 58)
	silent(t, j, api.Piece{Id: 2, At: 200, B: make([]byte, 1100)})
	silent(t, j, api.Piece{Id: 2, At: 100, B: make([]byte, 636)})
	stands(t, j, 2, 60, 65536)
	silent(t, j, api.Piece{Id: 2, At: 199, Last: true, B: make([]byte, 1100)})
	stands(t, j, 2, 60, 65536)
	refuses(t, j, piece(2, 150, "x"), api.ErrLong)
}

// permutations are all orders of the numbers below n.
func permutations(n int) [][]int {
	if n == 0 {
		return [][]int{nil}
	}
	var l [][]int
	for _, p := range permutations(n - 1) {
		for i := range n {
			l = append(l, slices.Insert(slices.Clone(p), i, n-1))
		}
	}
	return l
}

// joins holds that a text is told just once, by the piece with which all are
// there, whatever comes ahead of it and behind it.
func joins(t *testing.T, j *Joiner, l []api.Piece, order []int, text string) {
	t.Helper()
	came := map[int]bool{}
	told := false
	for _, i := range order {
		came[i] = true
		if told || len(came) < len(l) {
			silent(t, j, l[i])
			continue
		}
		tells(t, j, l[i], text)
		told = true
	}
	if !told {
		t.Fatalf("not all pieces came: %v", order)
	}
}

// P8.5: the pieces of short texts in all orders, once, and each of them twice.
func TestJoinOrders(t *testing.T) {
	for _, text := range []string{"", "a", "ab", "abc", "abcd", "abcde", "abcdef"} {
		for size := 1; size <= 7; size++ {
			l := cut(t, 9, []byte(text), size)
			for _, order := range permutations(len(l)) {
				joins(t, New(), l, order, text)
				joins(t, New(), l, slices.Concat(order, order), text)
				back := slices.Clone(order)
				slices.Reverse(back)
				joins(t, New(), l, slices.Concat(order, back), text)
				var pairs []int
				for _, i := range order {
					pairs = append(pairs, i, i)
				}
				joins(t, New(), l, pairs, text)
			}
		}
	}
}

// P8.5: any texts, one after the other, in any order, each piece up to three
// times.
func TestJoinAny(t *testing.T) {
	r := rand.New(rand.NewSource(85))
	j := New()
	for id := range uint64(300) {
		size := 1 + r.Intn(1100)>>r.Intn(11)
		most := min(65536, 256*size)
		text := some(most - r.Intn(most+1)>>r.Intn(8))
		l := cut(t, id, text, size)
		order := r.Perm(len(l))
		for range r.Intn(2 * len(l)) {
			i := r.Intn(len(l))
			order = slices.Insert(order, r.Intn(len(order)+1), i)
		}
		joins(t, j, l, order, string(text))
	}
}

// words are a joiner by the words of the chapter: what is held is a list.
type words struct {
	met   bool
	id    uint64
	done  bool
	held  []api.Piece
	known bool // how many there must be
	many  int
}

// put is what the chapter says of a piece.
func (w *words) put(p api.Piece) (text string, whole bool, err api.Errno) {
	if p.At < 0 || p.At > 255 {
		return "", false, api.ErrArg
	}
	if len(p.B) > 1100 {
		return "", false, api.ErrLong
	}
	if !w.met || p.Id > w.id {
		*w = words{met: true, id: p.Id}
	}
	at := func(place int) int {
		return slices.IndexFunc(w.held, func(q api.Piece) bool { return q.At == place })
	}
	if p.Id < w.id || w.done || at(p.At) >= 0 || w.known && p.At >= w.many {
		return "", false, api.OK
	}
	w.held = append(slices.Clone(w.held), p)
	if p.Last && !w.known {
		w.known, w.many = true, p.At+1
		w.held = slices.DeleteFunc(w.held, func(q api.Piece) bool { return q.At > p.At })
	}
	if _, size := w.counts(); size > 65536 {
		w.held, w.done = nil, true
		return "", false, api.ErrLong
	}
	if !w.known {
		return "", false, api.OK
	}
	for place := range w.many {
		i := at(place)
		if i < 0 {
			return "", false, api.OK
		}
		text += string(w.held[i].B)
	}
	w.held, w.done = nil, true
	return text, true, api.OK
}

func (w *words) counts() (many, size int) {
	for _, p := range w.held {
		size += len(p.B)
	}
	return len(w.held), size
}

// pair is a joiner, and the same by words.
type pair struct {
	j *Joiner
	w words
}

// put holds what a joiner does to what the words say.
func (x *pair) put(t *testing.T, p api.Piece) {
	t.Helper()
	text, whole, err := x.w.put(p)
	got, gotWhole, gotErr := x.j.Put(p)
	if string(got) != text || gotWhole != whole || gotErr != err {
		t.Fatalf("Put of the piece %d of %d, last %t, %d bytes: %d bytes, %t, error %d; want %d bytes, %t, error %d",
			p.At, p.Id, p.Last, len(p.B), len(got), gotWhole, gotErr, len(text), whole, err)
	}
	if !whole && got != nil {
		t.Fatalf("Put tells %x, but no text", got)
	}
	x.stands(t)
}

func (x *pair) stands(t *testing.T) {
	t.Helper()
	many, size := x.w.counts()
	if many > 256 || size > 65536 {
		t.Fatalf("%d pieces, %d bytes are held", many, size)
	}
	stands(t, x.j, x.w.id, many, size)
}

// walk puts any pieces to joiners and to copies of them, so that few texts, of
// so many places, come again and again.
func walk(t *testing.T, r *rand.Rand, places, size, steps int) {
	t.Helper()
	all := []pair{{j: New()}}
	id := uint64(0)
	for range steps {
		x := &all[r.Intn(len(all))]
		if r.Intn(places*4) == 0 {
			id++
		}
		p := api.Piece{
			Id:   id - min(id, uint64(r.Intn(8)/6)),
			At:   r.Intn(places),
			Last: r.Intn(places) == 0,
			B:    some(size - r.Intn(size+1)>>r.Intn(6)),
		}
		switch r.Intn(40) {
		case 0:
			p.At = noPlaces()[r.Intn(len(noPlaces()))]
		case 1:
			p.B = make([]byte, 1101+r.Intn(3))
		case 2:
			p.At = 255 - r.Intn(2)
		}
		x.put(t, p)
		if r.Intn(20) != 0 {
			continue
		}
		other := pair{j: x.j.Copy(), w: x.w}
		if len(all) < 4 {
			all = append(all, other)
		} else {
			all[r.Intn(len(all))] = other
		}
		for i := range all {
			all[i].stands(t)
		}
	}
}

// P8.3, P8.4, P8.5: any pieces, put to joiners and their copies, by the
// chapter's words.
func TestPutInWords(t *testing.T) {
	r := rand.New(rand.NewSource(83))
	for _, x := range []struct{ places, size, rounds, steps int }{
		{1, 2, 50, 60}, {2, 3, 100, 100}, {3, 3, 100, 200}, {5, 3, 100, 300},
		{16, 1100, 20, 400}, {80, 1100, 30, 1000}, {256, 1100, 20, 1500},
	} {
		for range x.rounds {
			walk(t, r, x.places, x.size, x.steps)
		}
	}
}

// P8.4: a joiner that has met none; what one says of itself as pieces come.
func TestSays(t *testing.T) {
	j := New()
	stands(t, j, 0, 0, 0)
	silent(t, j, piece(7, 3, "abc"))
	stands(t, j, 7, 1, 3)
	silent(t, j, piece(7, 1, "de"))
	stands(t, j, 7, 2, 5)
	silent(t, j, piece(6, 2, "zz"))
	stands(t, j, 7, 2, 5)
	silent(t, j, piece(8, 2, "f"))
	stands(t, j, 8, 1, 1)
	silent(t, j, last(8, 1, ""))
	stands(t, j, 8, 1, 0)
	tells(t, j, piece(8, 0, "gh"), "gh")
	stands(t, New(), 0, 0, 0)
	if a, b := New(), New(); a == nil || a == b {
		t.Error("New tells no joiner, or one that is not new")
	}
}

// P8.4: a copy stands so, and each goes its own way: in the middle of a text,
// with a last piece and without one, once a text was told, and given up.
func TestCopy(t *testing.T) {
	j := New()
	silent(t, j, piece(7, 0, "a"))
	other := j.Copy()
	if other == nil || other == j {
		t.Fatal("Copy tells no other joiner")
	}
	stands(t, other, 7, 1, 1)
	silent(t, j, last(7, 2, "c"))
	stands(t, other, 7, 1, 1)
	silent(t, other, piece(7, 2, "C"))
	silent(t, other, piece(7, 3, "DD"))
	stands(t, j, 7, 2, 2)
	stands(t, other, 7, 3, 4)
	third := j.Copy()
	tells(t, j, piece(7, 1, "b"), "abc")
	stands(t, third, 7, 2, 2)
	silent(t, third, piece(7, 3, "d"))
	stands(t, other, 7, 3, 4)
	silent(t, other, last(7, 4, "E"))
	tells(t, other, piece(7, 1, "B"), "aBCDDE")
	tells(t, third, piece(7, 1, "x"), "axc")

	// once it was told
	for _, j := range []*Joiner{j, j.Copy(), j.Copy().Copy()} {
		silent(t, j, piece(7, 1, "b"))
		silent(t, j, last(7, 0, "b"))
		stands(t, j, 7, 0, 0)
	}
	other = j.Copy()
	tells(t, other, last(8, 0, "x"), "x")
	stands(t, j, 7, 0, 0)
	tells(t, j, last(8, 0, "y"), "y")

	// once it was given up, and ahead of that
	great(t, j, 9, 0, 59)
	other = j.Copy()
	refuses(t, j, api.Piece{Id: 9, At: 59, B: make([]byte, 1100)}, api.ErrLong)
	stands(t, other, 9, 59, 64900)
	silent(t, j.Copy(), last(9, 0, "x"))
	tells(t, other, last(9, 59, ""), string(make([]byte, 64900)))

	// a greater Id lets go what one holds, not what the other one does
	silent(t, j, piece(11, 1, "b"))
	other = j.Copy()
	silent(t, other, piece(12, 5, "zz"))
	stands(t, j, 11, 1, 1)
	silent(t, j, last(11, 2, "c"))
	stands(t, other, 12, 1, 2)
	tells(t, j, piece(11, 0, "a"), "abc")

	// a last piece lets go what one holds, not what the other one does
	silent(t, j, piece(13, 1, "b"))
	silent(t, j, piece(13, 2, "c"))
	other = j.Copy()
	tells(t, j, last(13, 0, "a"), "a")
	stands(t, other, 13, 2, 2)
	silent(t, other, last(13, 3, "d"))
	tells(t, other, piece(13, 0, "A"), "Abcd")
}

// P8.4: one that has met none is copied as such.
func TestCopyOfNone(t *testing.T) {
	for _, j := range []*Joiner{New(), new(Joiner), New().Copy(), new(Joiner).Copy()} {
		other := j.Copy()
		stands(t, other, 0, 0, 0)
		silent(t, other, piece(0, 1, "b"))
		stands(t, j, 0, 0, 0)
		stands(t, other, 0, 1, 1)
		tells(t, j, last(0, 0, "x"), "x")
		tells(t, other, last(0, 0, "y"), "y")
	}
}

// P8.4: one that is copied as a value goes its own way too.
func TestCopiedAsValue(t *testing.T) {
	j := New()
	silent(t, j, piece(7, 1, "b"))
	other := *j
	silent(t, &other, piece(7, 2, "C"))
	stands(t, j, 7, 1, 1)
	silent(t, j, last(7, 2, "c"))
	stands(t, &other, 7, 2, 2)
	silent(t, &other, last(7, 3, "d"))
	tells(t, j, piece(7, 0, "a"), "abc")
	tells(t, &other, piece(7, 0, "a"), "abCd")
}

// P8.3, P8.4: a nil joiner, and one that New did not make, at every call.
func TestNoJoiner(t *testing.T) {
	var none *Joiner
	for range 2 {
		stands(t, none, 0, 0, 0)
		if none.Copy() != nil {
			t.Error("a nil joiner has a copy")
		}
		refuses(t, none, last(7, 0, "x"), api.ErrNil)
	}
	for _, j := range []*Joiner{new(Joiner), {}, new(Joiner).Copy()} {
		stands(t, j, 0, 0, 0)
		refuses(t, j, piece(7, -1, "x"), api.ErrArg)
		refuses(t, j, api.Piece{Id: 7, B: make([]byte, 1101)}, api.ErrLong)
		stands(t, j, 0, 0, 0)
		silent(t, j, last(7, 1, "b"))
		stands(t, j, 7, 1, 1)
		tells(t, j, piece(7, 0, "a"), "ab")
		silent(t, j, piece(7, 0, "a"))
	}
	var j Joiner
	great(t, &j, 3, 0, 59)
	refuses(t, &j, api.Piece{Id: 3, At: 59, B: make([]byte, 1100)}, api.ErrLong)
	stands(t, &j, 3, 0, 0)
}

// Rules: what is handed in stays as it was, the room behind it too, and bytes
// that are changed behind a call change nothing that is held, or that was told.
func TestArgumentsStay(t *testing.T) {
	room := []byte("-abcdefg+++")
	b := room[1:8]
	p := api.Piece{Id: 7, At: 1, B: b}
	form, _ := Form(p)
	l := cut(t, 7, b, 3)
	whole := cut(t, 7, b, 100)
	read := bytes.Clone(form)
	got, _ := Read(read)
	j := New()
	silent(t, j, p)
	other := j.Copy()
	if string(room) != "-abcdefg+++" || string(p.B) != "abcdefg" || p.At != 1 || !bytes.Equal(read, form) {
		t.Fatalf("what was handed in is %s, %x", room, read)
	}
	clear(room)
	clear(read)
	if string(form) != "\x07\x02abcdefg" || string(got.B) != "abcdefg" || string(whole[0].B) != "abcdefg" {
		t.Errorf("what was told has changed: %x, %s, %s", form, got.B, whole[0].B)
	}
	if string(l[0].B) != "abc" || string(l[1].B) != "def" || string(l[2].B) != "g" {
		t.Errorf("the pieces have changed: %v", l)
	}
	silent(t, j, last(7, 2, "!"))
	tells(t, j, piece(7, 0, ">"), ">abcdefg!")
	silent(t, other, last(7, 2, "?"))
	tells(t, other, piece(7, 0, "<"), "<abcdefg?")
}

// Rules: what is told is new each time: no two lists of an answer, or of two
// answers, share anything, the room behind them neither.
func TestAnswersAreNew(t *testing.T) {
	text := []byte("abcdefgh")
	l, twin := cut(t, 7, text, 3), cut(t, 7, text, 3)
	for _, p := range l {
		clear(p.B[:cap(p.B)])
	}
	if string(text) != "abcdefgh" || !slices.EqualFunc(twin, cut(t, 7, text, 3), same) {
		t.Errorf("pieces share something: %s, %v", text, twin)
	}
	clear(twin[0].B[:cap(twin[0].B)])
	if string(twin[1].B) != "def" || string(twin[2].B) != "gh" {
		t.Errorf("the pieces of one text share something: %v", twin)
	}

	p := piece(7, 0, "abc")
	form, _ := Form(p)
	clear(form[:cap(form)])
	if again, _ := Form(p); string(p.B) != "abc" || string(again) != "\x07\x00abc" {
		t.Errorf("forms share something: %s, %x", p.B, again)
	}
	got, _ := Read([]byte("\x07\x00abc"))
	clear(got.B[:cap(got.B)])
	if again, _ := Read([]byte("\x07\x00abc")); string(again.B) != "abc" {
		t.Errorf("what is read shares something: %s", again.B)
	}

	// a text that is one piece, and one of two; told to one joiner and its copy
	one := last(7, 0, "abc")
	told, _, _ := New().Put(one)
	clear(told[:cap(told)])
	if string(one.B) != "abc" {
		t.Errorf("a text shares something with its piece: %s", one.B)
	}
	j := New()
	silent(t, j, last(7, 1, "cd"))
	other := j.Copy()
	told, _, _ = j.Put(piece(7, 0, "ab"))
	clear(told[:cap(told)])
	tells(t, other, piece(7, 0, "ab"), "abcd")
}

// P1: every call ends and none panics, at all edges together; with an error
// nothing beside it is told.
func TestAnyArguments(t *testing.T) {
	joiners := map[string]func() *Joiner{
		"nil":  func() *Joiner { return nil },
		"zero": func() *Joiner { return new(Joiner) },
		"new":  New,
		"mid": func() *Joiner {
			j := New()
			j.Put(piece(7, 1, "b"))
			return j
		},
		"mid, last": func() *Joiner {
			j := New()
			j.Put(last(7, 1, "b"))
			return j
		},
		"told": func() *Joiner {
			j := New()
			j.Put(last(7, 0, "a"))
			return j
		},
	}
	places := append(noPlaces(), 0, 1, 2, 127, 254, 255)
	lengths := []int{0, 1, 1099, 1100, 1101, 65536, 65537}
	for _, length := range lengths {
		b := some(length)
		for _, at := range places {
			for _, end := range []bool{false, true} {
				for _, id := range []uint64{0, 6, 7, 8, math.MaxUint64} {
					p := api.Piece{Id: id, At: at, Last: end, B: b}
					want := api.OK
					if at < 0 || at > 255 {
						want = api.ErrArg
					} else if length > 1100 {
						want = api.ErrLong
					}
					if form, err := Form(p); err != want || err != api.OK && form != nil {
						t.Fatalf("Form of the piece %d of %d, %d bytes: error %d", at, id, length, err)
					}
					for name, make := range joiners {
						j := make()
						if j == nil {
							refuses(t, j, p, api.ErrNil)
							continue
						}
						text, whole, err := j.Put(p)
						if err != want || (err != api.OK || !whole) && text != nil || err != api.OK && whole {
							t.Fatalf("%s: Put of the piece %d of %d, %d bytes: %d bytes, %t, error %d", name, at, id, length, len(text), whole, err)
						}
						j.Copy().Put(p)
						j.Held()
						j.Id()
					}
				}
			}
		}
		for _, size := range append(places, 256, 1099, 1100, 1101) {
			if l, err := Cut(7, b, size); (err == api.OK) == (l == nil) {
				t.Fatalf("Cut of %d bytes, size %d: %d pieces, error %d", length, size, len(l), err)
			}
		}
		again(t, b)
	}
}

// P8.4: asking a joiner changes nothing, and the same is told each time.
func TestAsking(t *testing.T) {
	j := New()
	silent(t, j, last(7, 2, "c"))
	for range 3 {
		stands(t, j, 7, 1, 1)
		j.Copy()
	}
	silent(t, j, piece(7, 0, "a"))
	tells(t, j, piece(7, 1, "b"), "abc")
}
