package wire

import (
	"bytes"
	"encoding/binary"
	"encoding/hex"
	"math"
	"math/big"
	"slices"
	"strings"
	"testing"

	"oriel/api"
)

// raw is the bytes that s writes in base 16, blanks left out.
func raw(t *testing.T, s string) []byte {
	t.Helper()
	b, err := hex.DecodeString(strings.ReplaceAll(s, " ", ""))
	if err != nil {
		t.Fatal(err)
	}
	return b
}

// numbers has, in order, all numbers up to 2^15, and those around each power of two.
func numbers() []uint64 {
	var l []uint64
	for n := range uint64(1 << 15) {
		l = append(l, n)
	}
	for i := range 64 {
		for d := range uint64(5) {
			l = append(l, 1<<i+d-2)
		}
	}
	l = append(l, math.MaxUint64/3, math.MaxUint64/5*4)
	slices.Sort(l)
	return slices.Compact(l)
}

// numForm is a number's form by the words of the chapter: its digits of base 128.
func numForm(n uint64) []byte {
	var form []byte
	for v, base := new(big.Int).SetUint64(n), big.NewInt(128); ; {
		digit := new(big.Int)
		v.DivMod(v, base, digit)
		d := byte(digit.Int64())
		if form != nil {
			d |= 128
		}
		form = append([]byte{d}, form...)
		if v.Sign() == 0 {
			return form
		}
	}
}

// stands fails if r does not stand with that error, with so many bytes left, or if its End is not right then.
func stands(t *testing.T, what string, r *Reader, err api.Errno, left int) {
	t.Helper()
	end := err
	if err == api.OK && left > 0 {
		end = api.ErrBytes
	}
	if r.Err() != err || r.Left() != left || r.End() != end {
		t.Errorf("%s: Err %d, Left %d, End %d; want %d, %d, %d", what, r.Err(), r.Left(), r.End(), err, left, end)
	}
}

// stuck fails if r, behind an error, tells anything or passes anything.
func stuck(t *testing.T, what string, r *Reader) {
	t.Helper()
	err, left := r.Err(), r.Left()
	for range 2 {
		if n := r.Num(); n != 0 {
			t.Errorf("%s: Num behind an error: %d", what, n)
		}
		for size := -1; size <= 9; size++ {
			if n := r.Fixed(size); n != 0 {
				t.Errorf("%s: Fixed(%d) behind an error: %d", what, size, n)
			}
		}
		for most := -1; most <= 4; most++ {
			if s := r.Text(most); len(s) != 0 {
				t.Errorf("%s: Text(%d) behind an error: %x", what, most, s)
			}
		}
		if s := r.Rest(); len(s) != 0 {
			t.Errorf("%s: Rest behind an error: %x", what, s)
		}
		stands(t, what, r, err, left)
	}
}

// P1.1: a number's form.
func TestNumForm(t *testing.T) {
	for _, x := range []struct {
		n    uint64
		want string
	}{
		{0, "00"},
		{1, "01"},
		{127, "7f"},
		{128, "81 00"},
		{255, "81 7f"},
		{16383, "ff 7f"},
		{16384, "81 80 00"},
		{1<<63 - 1, "ff ff ff ff ff ff ff ff 7f"},
		{1 << 63, "81 80 80 80 80 80 80 80 80 00"},
		{math.MaxUint64, "81 ff ff ff ff ff ff ff ff 7f"},
	} {
		if got := Num(x.n); !bytes.Equal(got, raw(t, x.want)) {
			t.Errorf("Num(%d): %x, want %s", x.n, got, x.want)
		}
	}
	for _, n := range numbers() {
		got := Num(n)
		if !bytes.Equal(got, numForm(n)) {
			t.Errorf("Num(%d): %x, want %x", n, got, numForm(n))
		}
		if len(got) < 1 || len(got) > 10 || len(got) == 10 && got[0] != 129 {
			t.Errorf("Num(%d): %x is no form", n, got)
		}
	}
}

// P1.1: a fixed number's form; none of a size that is not 1 to 8.
func TestFixedForm(t *testing.T) {
	for _, x := range []struct {
		n    uint64
		size int
		want string
	}{
		{258, 3, "00 01 02"},
		{258, 2, "01 02"},
		{258, 1, "02"},
		{256, 1, "00"},
		{0, 8, "00 00 00 00 00 00 00 00"},
		{0x0123456789abcdef, 8, "01 23 45 67 89 ab cd ef"},
		{0x0123456789abcdef, 7, "23 45 67 89 ab cd ef"},
		{math.MaxUint64, 5, "ff ff ff ff ff"},
	} {
		if got := Fixed(x.n, x.size); !bytes.Equal(got, raw(t, x.want)) {
			t.Errorf("Fixed(%d, %d): %x, want %s", x.n, x.size, got, x.want)
		}
	}
	for _, n := range numbers() {
		whole := binary.BigEndian.AppendUint64(nil, n)
		for size := 1; size <= 8; size++ {
			if got := Fixed(n, size); !bytes.Equal(got, whole[8-size:]) {
				t.Errorf("Fixed(%d, %d): %x", n, size, got)
			}
		}
	}
	for _, size := range []int{0, 9, 10, 64, -1, -8, math.MaxInt, math.MinInt} {
		if got := Fixed(258, size); len(got) != 0 {
			t.Errorf("Fixed(258, %d): %x", size, got)
		}
	}
}

// P1.1: a text's form, which is new memory.
func TestTextForm(t *testing.T) {
	if got := Text([]byte("ab")); !bytes.Equal(got, raw(t, "02 61 62")) {
		t.Errorf("Text(ab): %x", got)
	}
	for _, s := range [][]byte{nil, {}} {
		if got := Text(s); !bytes.Equal(got, []byte{0}) {
			t.Errorf("Text of none: %x", got)
		}
	}
	for _, size := range []int{1, 127, 128, 300, 16383, 16384} {
		s := bytes.Repeat([]byte{200, 0, 128}, size)[:size]
		want := append(numForm(uint64(size)), s...)
		if got := Text(s); !bytes.Equal(got, want) {
			t.Errorf("Text of %d bytes: %d bytes, the first ones %x", size, len(got), got[:4])
		}
	}
	s := []byte("ab")
	got := Text(s)
	s[0] = 'x'
	if !bytes.Equal(got, raw(t, "02 61 62")) {
		t.Errorf("Text(ab), once ab is changed: %x", got)
	}
	got[2] = 'y'
	if string(s) != "xb" {
		t.Errorf("ab, once its form is changed: %s", s)
	}
}

// P1.2: numbers that stand next are told and passed.
func TestReadNum(t *testing.T) {
	r := Open(raw(t, "00 7f 81 00 81 80 00 81 ff ff ff ff ff ff ff ff 7f 05"))
	for _, x := range []struct {
		want uint64
		left int
	}{{0, 17}, {127, 16}, {128, 14}, {16384, 11}, {math.MaxUint64, 1}, {5, 0}} {
		if n := r.Num(); n != x.want {
			t.Errorf("Num: %d, want %d", n, x.want)
		}
		stands(t, "Num", r, api.OK, x.left)
	}
	if n := r.Num(); n != 0 {
		t.Errorf("Num at the end: %d", n)
	}
	stands(t, "Num at the end", r, api.ErrBytes, 0)
}

// P1.2: what is no number's form is ErrBytes, and nothing is passed.
func TestReadNumFaults(t *testing.T) {
	for what, s := range map[string]string{
		"no bytes":                        "",
		"ends too soon, of 1":             "81",
		"ends too soon, of 9":             "ff ff ff ff ff ff ff ff ff",
		"ends too soon, of 10":            "81 80 80 80 80 80 80 80 80 80",
		"a group too many":                "80 01",
		"a group too many, of 0":          "80 00",
		"a group too many, and cut":       "80",
		"two groups too many":             "80 80 01",
		"ten bytes, a group too many":     "80 ff ff ff ff ff ff ff ff 7f",
		"eleven bytes, a group too many":  "80 81 ff ff ff ff ff ff ff ff 7f",
		"many groups too many":            strings.Repeat("80", 40) + "01",
		"2^64":                            "82 80 80 80 80 80 80 80 80 00",
		"more than 2^64, and cut":         "82 80 80 80 80 80 80 80 80 80",
		"more than 2^64, of ten bytes":    "ff ff ff ff ff ff ff ff ff 7f",
		"more than 2^64, of eleven bytes": "81 80 80 80 80 80 80 80 80 80 00",
		"more than 2^64, of twelve bytes": "81 80 80 80 80 80 80 80 80 80 80 00",
		"more than 2^64, of many bytes":   strings.Repeat("ff", 40) + "7f",
		"2^70, 1 behind its ten bytes":    "81 80 80 80 80 80 80 80 80 80 01",
	} {
		b := raw(t, s)
		for _, lead := range [][]byte{nil, {3}} {
			r := Open(append(slices.Clone(lead), b...))
			for _, n := range lead {
				if got := r.Num(); got != uint64(n) {
					t.Errorf("%s: %d ahead of it", what, got)
				}
			}
			if n := r.Num(); n != 0 {
				t.Errorf("%s: %d", what, n)
			}
			stands(t, what, r, api.ErrBytes, len(b))
			stuck(t, what, r)
		}
		r := Open(b)
		if got := r.Text(math.MaxInt); len(got) != 0 {
			t.Errorf("%s, as a text's: %x", what, got)
		}
		stands(t, what+", as a text's", r, api.ErrBytes, len(b))
		stuck(t, what+", as a text's", r)
	}
}

// P1.2: fixed numbers; sizes that are not 1 to 8; bytes that end too soon.
func TestReadFixed(t *testing.T) {
	all := raw(t, "f1 f2 f3 f4 f5 f6 f7 f8 f9")
	for size := 1; size <= 8; size++ {
		r := Open(all)
		want := binary.BigEndian.Uint64(append(make([]byte, 8-size), all[:size]...))
		if n := r.Fixed(size); n != want {
			t.Errorf("Fixed(%d): %x, want %x", size, n, want)
		}
		stands(t, "Fixed", r, api.OK, 9-size)

		r = Open(all[:size])
		r.Fixed(size)
		stands(t, "Fixed of as many as are there", r, api.OK, 0)

		for short := range size {
			r = Open(all[:short])
			if n := r.Fixed(size); n != 0 {
				t.Errorf("Fixed(%d) of %d bytes: %x", size, short, n)
			}
			stands(t, "Fixed of too few", r, api.ErrBytes, short)
			stuck(t, "Fixed of too few", r)
		}
	}
	for _, size := range []int{0, 9, 10, -1, -8, math.MaxInt, math.MinInt} {
		r := Open(append(all, all...))
		if n := r.Fixed(size); n != 0 {
			t.Errorf("Fixed(%d): %x", size, n)
		}
		stands(t, "Fixed of no size", r, api.ErrBytes, 18)
		stuck(t, "Fixed of no size", r)
	}
	r := Open(raw(t, "01 02 03"))
	if n, next := r.Fixed(2), r.Fixed(2); n != 258 || next != 0 {
		t.Errorf("Fixed(2) twice of three bytes: %d, %d", n, next)
	}
	stands(t, "Fixed(2) twice of three bytes", r, api.ErrBytes, 1)
}

// P1.2: texts, their bounds, and which error is told.
func TestReadText(t *testing.T) {
	long := append(numForm(300), bytes.Repeat([]byte{9}, 300)...)
	for _, x := range []struct {
		b    []byte
		most int
		want string
		err  api.Errno
		left int
	}{
		{raw(t, "02 61 62"), 2, "ab", api.OK, 0},
		{raw(t, "02 61 62 63"), 2, "ab", api.OK, 1},
		{raw(t, "02 61 62 63"), math.MaxInt, "ab", api.OK, 1},
		{raw(t, "00 61"), 0, "", api.OK, 1},
		{raw(t, "00"), 5, "", api.OK, 0},
		{raw(t, "00 61"), -1, "", api.OK, 1},
		{raw(t, "00"), math.MinInt, "", api.OK, 0},
		{long, 300, strings.Repeat("\t", 300), api.OK, 0},

		{raw(t, "02 61 62"), 1, "", api.ErrLong, 3},
		{raw(t, "01 61"), 0, "", api.ErrLong, 2},
		{raw(t, "01 61"), -1, "", api.ErrLong, 2},
		{raw(t, "01 61"), math.MinInt, "", api.ErrLong, 2},
		{raw(t, "02"), 1, "", api.ErrLong, 1},
		{raw(t, "03 61"), 2, "", api.ErrLong, 2},
		{long, 299, "", api.ErrLong, 302},
		{Num(math.MaxUint64), math.MaxInt, "", api.ErrLong, 10},
		{Num(math.MaxInt + 1), math.MaxInt, "", api.ErrLong, 10},

		{raw(t, ""), 0, "", api.ErrBytes, 0},
		{raw(t, "02 61"), 2, "", api.ErrBytes, 2},
		{raw(t, "02"), 2, "", api.ErrBytes, 1},
		{raw(t, "02 61"), math.MaxInt, "", api.ErrBytes, 2},
		{raw(t, "81"), 200, "", api.ErrBytes, 1},
		{raw(t, "80 01 61"), 0, "", api.ErrBytes, 3},
		{Num(math.MaxInt), math.MaxInt, "", api.ErrBytes, 9},
		{long[:301], 300, "", api.ErrBytes, 301},
	} {
		r := Open(x.b)
		got := r.Text(x.most)
		if string(got) != x.want {
			t.Errorf("Text(%d) of %x: %x, want %x", x.most, x.b, got, x.want)
		}
		stands(t, "Text", r, x.err, x.left)
		if x.err != api.OK {
			stuck(t, "Text", r)
		}
	}
}

// P1.2: the first error stays, whatever would be told later.
func TestFirstErrorStays(t *testing.T) {
	r := Open(raw(t, "02 61 62"))
	r.Text(1)
	r.Fixed(0)
	r.Num()
	stands(t, "ErrLong first", r, api.ErrLong, 3)
	stuck(t, "ErrLong first", r)

	r = Open(raw(t, "02 61 62"))
	r.Fixed(9)
	r.Text(1)
	stands(t, "ErrBytes first", r, api.ErrBytes, 3)
	stuck(t, "ErrBytes first", r)

	// what was passed ahead of the error stays passed
	r = Open(raw(t, "07 01 02 01 78 02 61"))
	if n, m, s := r.Num(), r.Fixed(2), r.Text(1); n != 7 || m != 258 || string(s) != "x" {
		t.Errorf("ahead of the error: %d %d %s", n, m, s)
	}
	stands(t, "ahead of the error", r, api.OK, 2)
	r.Text(2)
	stands(t, "an error midway", r, api.ErrBytes, 2)
	stuck(t, "an error midway", r)
}

// P1.2: a reader has a copy of its bytes, and what it tells is new memory.
func TestReaderMemory(t *testing.T) {
	b := raw(t, "02 61 62 02 63 64 65")
	kept := slices.Clone(b)
	r := Open(b)
	clear(b)
	first := r.Text(2)
	if string(first) != "ab" {
		t.Errorf("Text, once the bytes are changed: %x", first)
	}
	first = append(first, "zzzz"...)
	clear(first)
	next := r.Text(2)
	if string(next) != "cd" {
		t.Errorf("the next Text, once the first one is changed: %x", next)
	}
	if rest := r.Rest(); string(rest) != "e" {
		t.Errorf("Rest: %x", rest)
	}
	b = slices.Clone(kept)
	r = Open(b)
	s := r.Text(2)
	rest := r.Rest()
	clear(s)
	clear(rest)
	if !bytes.Equal(b, kept) {
		t.Errorf("the bytes were changed: %x", b)
	}

	// readers over the same bytes go their own ways
	one, other := Open(b), Open(b)
	one.Text(0)
	stands(t, "one", one, api.ErrLong, 7)
	stands(t, "the other", other, api.OK, 7)
}

// P1.3: Rest passes all that is left, and tells none behind an error.
func TestRest(t *testing.T) {
	r := Open(raw(t, "05 61 62 63"))
	r.Num()
	if s := r.Rest(); string(s) != "abc" {
		t.Errorf("Rest: %x", s)
	}
	stands(t, "Rest", r, api.OK, 0)
	if s := r.Rest(); len(s) != 0 {
		t.Errorf("Rest again: %x", s)
	}
	stands(t, "Rest again", r, api.OK, 0)
	r.Num()
	stands(t, "Num behind Rest", r, api.ErrBytes, 0)

	r = Open(raw(t, "81"))
	r.Num()
	if s := r.Rest(); len(s) != 0 {
		t.Errorf("Rest behind an error: %x", s)
	}
	stands(t, "Rest behind an error", r, api.ErrBytes, 1)
}

// P1.3: End tells that bytes are left, and leaves Err as it is.
func TestEnd(t *testing.T) {
	r := Open(raw(t, "01 02"))
	for _, left := range []int{2, 1} {
		if r.End() != api.ErrBytes || r.Err() != api.OK || r.Left() != left {
			t.Errorf("%d left: End %d, Err %d, Left %d", left, r.End(), r.Err(), r.Left())
		}
		if n := r.Num(); n != uint64(3-left) {
			t.Errorf("Num behind End: %d", n)
		}
	}
	stands(t, "at the end", r, api.OK, 0)

	r = Open(raw(t, "01 61"))
	r.Text(0)
	if r.End() != api.ErrLong || r.Err() != api.ErrLong || r.Left() != 2 {
		t.Errorf("behind an error: End %d, Err %d, Left %d", r.End(), r.Err(), r.Left())
	}

	r = Open(nil)
	r.Num()
	if r.End() != api.ErrBytes {
		t.Errorf("behind an error, nothing left: End %d", r.End())
	}
}

// P1.2, P1.3, P1: a reader that is nil, or that Open did not make, is as one over no bytes.
func TestNoReader(t *testing.T) {
	makes := map[string]func() *Reader{
		"over no bytes":   func() *Reader { return Open(nil) },
		"over none":       func() *Reader { return Open([]byte{}) },
		"nil":             func() *Reader { return nil },
		"made by nothing": func() *Reader { return new(Reader) },
	}
	steps := map[string]func(*Reader) int{
		"Num":       func(r *Reader) int { return int(r.Num()) },
		"Fixed(1)":  func(r *Reader) int { return int(r.Fixed(1)) },
		"Fixed(8)":  func(r *Reader) int { return int(r.Fixed(8)) },
		"Fixed(0)":  func(r *Reader) int { return int(r.Fixed(0)) },
		"Fixed(9)":  func(r *Reader) int { return int(r.Fixed(9)) },
		"Text(0)":   func(r *Reader) int { return len(r.Text(0)) },
		"Text(-1)":  func(r *Reader) int { return len(r.Text(-1)) },
		"Text(max)": func(r *Reader) int { return len(r.Text(math.MaxInt)) },
	}
	for what, make := range makes {
		r := make()
		stands(t, what, r, api.OK, 0)
		if s := r.Rest(); len(s) != 0 {
			t.Errorf("%s: Rest: %x", what, s)
		}
		stands(t, what+", behind Rest", r, api.OK, 0)
		for name, step := range steps {
			r := make()
			if n := step(r); n != 0 {
				t.Errorf("%s: %s: %d", what, name, n)
			}
			if r != nil { // a nil one has no place for an error
				stands(t, what+", behind "+name, r, api.ErrBytes, 0)
			}
			stuck(t, what+", behind "+name, r)
		}
	}
}

// P1.4: what was put is read again, whatever stands behind it.
func TestBack(t *testing.T) {
	tails := [][]byte{nil, {0}, {127}, {128}, {255}, raw(t, "81 00"), bytes.Repeat([]byte{255}, 20)}
	for _, n := range numbers() {
		for _, tail := range tails {
			r := Open(append(Num(n), tail...))
			if got := r.Num(); got != n {
				t.Fatalf("%d and %x: %d", n, tail, got)
			}
			if s := r.Rest(); r.Err() != api.OK || !bytes.Equal(s, tail) {
				t.Fatalf("%d and %x: the rest %x", n, tail, s)
			}
			for size := 1; size <= 8; size++ {
				r := Open(append(Fixed(n, size), tail...))
				want := n & (math.MaxUint64 >> (64 - 8*size))
				if got := r.Fixed(size); got != want {
					t.Fatalf("%d in %d bytes and %x: %d", n, size, tail, got)
				}
				if s := r.Rest(); r.Err() != api.OK || !bytes.Equal(s, tail) {
					t.Fatalf("%d in %d bytes and %x: the rest %x", n, size, tail, s)
				}
			}
		}
	}
	for _, size := range []int{0, 1, 2, 127, 128, 129, 16384} {
		s := bytes.Repeat([]byte{128, 1, 255}, size)[:size]
		for _, tail := range tails {
			for _, most := range []int{size, size + 1, math.MaxInt} {
				r := Open(append(Text(s), tail...))
				if got := r.Text(most); !bytes.Equal(got, s) {
					t.Fatalf("a text of %d and %x: %x", size, tail, got)
				}
				if rest := r.Rest(); r.Err() != api.OK || !bytes.Equal(rest, tail) {
					t.Fatalf("a text of %d and %x: the rest %x", size, tail, rest)
				}
			}
		}
	}
}

// P1.4: a form that is cut is ErrBytes.
func TestCut(t *testing.T) {
	for _, n := range numbers() {
		form := Num(n)
		for i := range form {
			r := Open(form[:i])
			if got := r.Num(); got != 0 || r.Err() != api.ErrBytes || r.Left() != i {
				t.Fatalf("%d, cut to %x: %d, Err %d", n, form[:i], got, r.Err())
			}
		}
	}
	for _, size := range []int{0, 1, 127, 128, 300} {
		form := Text(make([]byte, size))
		for i := range form {
			r := Open(form[:i])
			if got := r.Text(size); len(got) != 0 || r.Err() != api.ErrBytes || r.Left() != i {
				t.Fatalf("a text of %d, cut to %d bytes: %x, Err %d", size, i, got, r.Err())
			}
		}
	}
}

// again fails if b is read as a number that is not, put again, the bytes that were read.
func again(t *testing.T, b []byte) {
	t.Helper()
	r := Open(b)
	n := r.Num()
	if r.Err() != api.OK {
		if n != 0 || r.Err() != api.ErrBytes || r.Left() != len(b) {
			t.Fatalf("%x: %d, Err %d, Left %d", b, n, r.Err(), r.Left())
		}
		return
	}
	if read := b[:len(b)-r.Left()]; !bytes.Equal(Num(n), read) {
		t.Fatalf("%x was read as %d, which is %x", read, n, Num(n))
	}
}

// P1.4: what was read as a number, put again, is the bytes that were read: no other bytes are a number's.
func TestPutAgain(t *testing.T) {
	for a := range 256 {
		again(t, []byte{byte(a)})
		for b := range 256 {
			again(t, []byte{byte(a), byte(b)})
			for _, c := range []byte{0, 1, 127, 128, 129, 255} {
				again(t, []byte{byte(a), byte(b), c, 0})
			}
			for _, middle := range []byte{128, 255} {
				for size := 6; size <= 10; size++ {
					s := append([]byte{byte(a)}, bytes.Repeat([]byte{middle}, size)...)
					again(t, append(s, byte(b)))
				}
			}
		}
	}
}

func FuzzPutAgain(f *testing.F) {
	f.Add(Num(0))
	f.Add(Num(math.MaxUint64))
	f.Add([]byte{128, 1})
	f.Fuzz(func(t *testing.T, b []byte) { again(t, b) })
}

// P1.5: of two numbers the greater one has the longer form, or one as long that is greater byte by byte.
func TestOrder(t *testing.T) {
	l := numbers()
	for i := 1; i < len(l); i++ {
		small, great := Num(l[i-1]), Num(l[i])
		if len(small) > len(great) || len(small) == len(great) && bytes.Compare(small, great) >= 0 {
			t.Errorf("%d is %x, %d is %x", l[i-1], small, l[i], great)
		}
	}
}
