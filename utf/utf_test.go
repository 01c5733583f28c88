package utf

import (
	"bytes"
	"math"
	"math/rand"
	"slices"
	"strings"
	"testing"
	"unicode/utf8"

	"oriel/api"
)

// bad stands for bytes that are no form, in what tests want.
const bad = rune(65533)

// points are code points at the edges; the last of each length, and the first.
func points() []rune {
	return []rune{0, 1, 97, 126, 127, 128, 129, 233, 2046, 2047, 2048, 2049, 4095, 4096, 8364, 53247, 53248, 55294, 55295, 57344, 57345, 65532, 65533, 65534, 65535, 65536, 65537, 262143, 262144, 1048575, 1048576, 1114110, 1114111}
}

// noPoints are numbers that are no code point.
func noPoints() []rune {
	return []rune{math.MinInt32, math.MinInt32 + 1, -1 << 16, -65533, -128, -2, -1, 55296, 55297, 56319, 56320, 57342, 57343, 1114112, 1114113, 2097151, 2097152, 1 << 26, math.MaxInt32 - 1, math.MaxInt32}
}

// edgeBytes are the bytes at which something else begins, and some between.
func edgeBytes() []byte {
	return []byte{0x00, 0x61, 0x7f, 0x80, 0x8f, 0x90, 0x9f, 0xa0, 0xbf, 0xc0, 0xc1, 0xc2, 0xdf, 0xe0, 0xe1, 0xec, 0xed, 0xee, 0xef, 0xf0, 0xf1, 0xf3, 0xf4, 0xf5, 0xf7, 0xf8, 0xff}
}

// formInWords is a code point's form by the words of the chapter: its bits are
// its digits of base 64.
func formInWords(c rune) []byte {
	n := int(c)
	d0, d1, d2, d3 := n%64, n/64%64, n/4096%64, n/262144
	switch {
	case n < 128:
		return []byte{byte(n)}
	case n < 2048:
		return []byte{byte(192 + d1), byte(128 + d0)}
	case n < 65536:
		return []byte{byte(224 + d2), byte(128 + d1), byte(128 + d0)}
	}
	return []byte{byte(240 + d3), byte(128 + d2), byte(128 + d1), byte(128 + d0)}
}

// everyPoint ranges over all code points.
func everyPoint(yield func(rune) bool) {
	for c := rune(0); c <= 1114111; c++ {
		if c >= 55296 && c <= 57343 {
			continue
		}
		if !yield(c) {
			return
		}
	}
}

// beginnings are all bytes that begin some code point's form, and are none
// whole.
func beginnings() map[string]bool {
	l := map[string]bool{}
	for c := range everyPoint {
		form := formInWords(c)
		for n := 1; n < len(form); n++ {
			l[string(form[:n])] = true
		}
	}
	return l
}

// words read bytes by the words of the chapter.
type words struct{ begins map[string]bool }

// newWords are the words, once all forms were gone through.
func newWords() *words { return &words{beginnings()} }

// one is the first code point of bytes, how many bytes it takes, and whether
// these begin a form and end there.
func (w *words) one(b []byte) (c rune, many int, open bool) {
	if c, many := utf8.DecodeRune(b); c != utf8.RuneError || many == 3 {
		return c, many, false
	}
	for n := min(3, len(b)); n > 0; n-- {
		if w.begins[string(b[:n])] {
			return bad, n, n == len(b)
		}
	}
	return bad, 1, false
}

// decode is what the chapter says of all bytes, and how many of them, at the
// end, are held.
func (w *words) decode(b []byte) (l []rune, held int) {
	for len(b) > 0 {
		c, many, open := w.one(b)
		if open {
			held = many
		}
		l = append(l, c)
		b = b[many:]
	}
	return l, held
}

// put is what the chapter says of what is held and more bytes, and what is held
// then.
func (w *words) put(held, b []byte) ([]rune, []byte) {
	all := slices.Concat(held, b)
	l, many := w.decode(all)
	if many > 0 {
		l = l[:len(l)-1]
	}
	return l, all[len(all)-many:]
}

// tells holds what a decoder tells of bytes, and how many it holds then.
func tells(t *testing.T, d *Decoder, b string, held int, want ...rune) {
	t.Helper()
	if l := d.Put([]byte(b)); !slices.Equal(l, want) || d.Held() != held {
		t.Fatalf("Put of %x: %d, %d held; want %d, %d held", b, l, d.Held(), want, held)
	}
}

// ends holds what a decoder tells at its end, that nothing is held then, and
// that nothing is told once more.
func ends(t *testing.T, d *Decoder, want ...rune) {
	t.Helper()
	if l := d.End(); !slices.Equal(l, want) || d.Held() != 0 {
		t.Fatalf("End: %d, %d held; want %d", l, d.Held(), want)
	}
	if l := d.End(); len(l) > 0 || d.Held() != 0 {
		t.Fatalf("End once more: %d, %d held", l, d.Held())
	}
}

// decodes holds what Decode tells of bytes.
func decodes(t *testing.T, b string, want ...rune) {
	t.Helper()
	if l := Decode([]byte(b)); !slices.Equal(l, want) {
		t.Errorf("Decode of %x: %d; want %d", b, l, want)
	}
}

// The examples.
func TestExamples(t *testing.T) {
	if a, b := Form(233), Form(55296); string(a) != "\xc3\xa9" || string(b) != "\xef\xbf\xbd" {
		t.Errorf("Form of 233: %x; of 55296: %x", a, b)
	}
	decodes(t, "\x61\xc3\xa9", 97, 233)
	decodes(t, "\xc3\x61", bad, 97)
	decodes(t, "\xe2\x82", bad)
	decodes(t, "\xf0\x80\x80", bad, bad, bad)
	decodes(t, "\xed\xa0\x80", bad, bad, bad)
	d := New()
	tells(t, d, "\xe2", 1)
	tells(t, d, "\x82\xac", 0, 8364)
}

// P10.1: forms at the edges, each byte by hand.
func TestForm(t *testing.T) {
	for c, want := range map[rune]string{
		0:       "\x00",
		1:       "\x01",
		97:      "a",
		127:     "\x7f",
		128:     "\xc2\x80",
		2047:    "\xdf\xbf",
		2048:    "\xe0\xa0\x80",
		8364:    "\xe2\x82\xac",
		55295:   "\xed\x9f\xbf",
		57344:   "\xee\x80\x80",
		65533:   "\xef\xbf\xbd",
		65535:   "\xef\xbf\xbf",
		65536:   "\xf0\x90\x80\x80",
		1114111: "\xf4\x8f\xbf\xbf",
	} {
		if form := Form(c); string(form) != want {
			t.Errorf("Form of %d: %x; want %x", c, form, want)
		}
		decodes(t, want, c)
	}
}

// P10.1: what is no code point has the form of Bad.
func TestFormOfBad(t *testing.T) {
	l := noPoints()
	for c := rune(55296); c <= 57343; c++ {
		l = append(l, c)
	}
	r := rand.New(rand.NewSource(1))
	for range 10000 {
		l = append(l, -1-rune(r.Int31()), 1114112+rune(r.Int31n(math.MaxInt32-1114111)))
	}
	for _, c := range l {
		if form := Form(c); string(form) != "\xef\xbf\xbd" {
			t.Fatalf("Form of %d: %x", c, form)
		}
	}
	if api.Bad != bad {
		t.Errorf("Bad is %d", api.Bad)
	}
}

// P10.1, P10.4: the form of each code point there is, there and back, alone and
// with all others in a row; other codes of the same agree.
func TestEveryPoint(t *testing.T) {
	var all []byte
	var want []rune
	for c := range everyPoint {
		form := Form(c)
		if !bytes.Equal(form, formInWords(c)) || !bytes.Equal(form, utf8.AppendRune(nil, c)) {
			t.Fatalf("Form of %d: %x", c, form)
		}
		if l := Decode(form); len(l) != 1 || l[0] != c {
			t.Fatalf("Decode of %x: %d", form, l)
		}
		all = append(all, form...)
		want = append(want, c)
	}
	if l := Decode(all); !slices.Equal(l, want) || len(l) != 1112064 {
		t.Errorf("Decode of all forms tells %d code points", len(l))
	}
}

// P10.4: the forms of any code points, one behind the other, there and back; the
// edges behind one another too.
func TestFormsAgain(t *testing.T) {
	again := func(want []rune) {
		t.Helper()
		var b []byte
		for _, c := range want {
			b = append(b, Form(c)...)
		}
		if l := Decode(b); !slices.Equal(l, want) {
			t.Fatalf("Decode of the forms of %d: %d", want, l)
		}
	}
	again(nil)
	again(points())
	for _, c := range points() {
		for _, other := range points() {
			again([]rune{c, other, c})
		}
	}
	r := rand.New(rand.NewSource(2))
	for range 2000 {
		l := make([]rune, r.Intn(20))
		for i := range l {
			for l[i] = bad; l[i] == bad; {
				l[i] = []rune{rune(r.Intn(128)), rune(r.Intn(2048)), rune(r.Intn(55296)), 57344 + rune(r.Intn(8192)), 65536 + rune(r.Intn(1048576))}[r.Intn(5)]
			}
		}
		again(l)
	}
}

// P10.1: no bytes, and each byte alone: a code point below 128, else Bad.
func TestDecodeAlone(t *testing.T) {
	decodes(t, "")
	if l := Decode(nil); len(l) > 0 {
		t.Errorf("Decode of nil: %d", l)
	}
	for b := range 256 {
		want, held := rune(b), 0
		if b >= 128 {
			want = bad
		}
		decodes(t, string([]byte{byte(b)}), want)
		if b >= 0xc2 && b <= 0xf4 {
			held = 1
		}
		d := New()
		if l := d.Put([]byte{byte(b)}); d.Held() != held || held == 0 && !slices.Equal(l, []rune{want}) || held == 1 && len(l) > 0 {
			t.Errorf("Put of %x: %d, %d held", b, l, d.Held())
		}
	}
}

// P10.1: bytes that are no form, each code point by hand: how many Bads there
// are tells how many bytes each of them stands for.
func TestDecodeBad(t *testing.T) {
	for b, want := range map[string][]rune{
		// longer than need be
		"\xc0\x80":         {bad, bad},
		"\xc1\xbf":         {bad, bad},
		"\xe0\x80\x80":     {bad, bad, bad},
		"\xe0\x9f\xbf":     {bad, bad, bad},
		"\xf0\x80\x80\x80": {bad, bad, bad, bad},
		"\xf0\x8f\xbf\xbf": {bad, bad, bad, bad},
		"\xe0\x80":         {bad, bad},
		"\xf0\x8f\xbf":     {bad, bad, bad},
		// no code points
		"\xed\xa0\x80":         {bad, bad, bad},
		"\xed\xbf\xbf":         {bad, bad, bad},
		"\xed\xa0":             {bad, bad},
		"\xf4\x90\x80\x80":     {bad, bad, bad, bad},
		"\xf4\xbf\xbf\xbf":     {bad, bad, bad, bad},
		"\xf5\x80\x80\x80":     {bad, bad, bad, bad},
		"\xf7\xbf\xbf\xbf":     {bad, bad, bad, bad},
		"\xf8\x88\x80\x80\x80": {bad, bad, bad, bad, bad},
		"\xfc\xfd\xfe\xff":     {bad, bad, bad, bad},
		// what goes on nothing
		"\x80":             {bad},
		"\xbf":             {bad},
		"a\x80b":           {'a', bad, 'b'},
		"\xc3\xa9\xa9":     {233, bad},
		"\xe2\x82\xac\xac": {8364, bad},
		"\x80\xc3\xa9":     {bad, 233},
		// cut at the end
		"\xc3":             {bad},
		"\xe2":             {bad},
		"\xe2\x82":         {bad},
		"\xe0\xa0":         {bad},
		"\xed\x9f":         {bad},
		"\xf0":             {bad},
		"\xf0\x9f":         {bad},
		"\xf0\x9f\x98":     {bad},
		"\xf0\x90":         {bad},
		"\xf4\x8f\xbf":     {bad},
		"a\xf0\x9f\x98":    {'a', bad},
		"\xc3\xa9\xe2\x82": {233, bad},
		// ahead of a byte below 128
		"\xc3a":                 {bad, 'a'},
		"\xe2a":                 {bad, 'a'},
		"\xe2\x82a":             {bad, 'a'},
		"\xf0a":                 {bad, 'a'},
		"\xf0\x9fa":             {bad, 'a'},
		"\xf0\x9f\x98a":         {bad, 'a'},
		"\xf0\x9f\x98\x00\x7fz": {bad, 0, 127, 'z'},
		// ahead of another form
		"\xc3\xc3\xa9":                 {bad, 233},
		"\xe2\xe2\x82\xac":             {bad, 8364},
		"\xe2\x82\xe2\x82\xac":         {bad, 8364},
		"\xf0\xf0\x9f\x98\x80":         {bad, 128512},
		"\xf0\x9f\xf0\x9f\x98\x80":     {bad, 128512},
		"\xf0\x9f\x98\xf0\x9f\x98\x80": {bad, 128512},
		"\xf0\x9f\x98\xc3\xa9":         {bad, 233},
		"\xe2\x82\xc3\xe2\xf0":         {bad, bad, bad, bad},
		// ahead of a byte that begins none
		"\xc3\xc0":             {bad, bad},
		"\xe2\xff":             {bad, bad},
		"\xe2\x82\xc1":         {bad, bad},
		"\xf0\xf8":             {bad, bad},
		"\xf0\x9f\xf5":         {bad, bad},
		"\xf0\x9f\x98\xfe":     {bad, bad},
		"\xe0\x9f\xe0\x9f":     {bad, bad, bad, bad},
		"\xf4\x90\xf4\x8f":     {bad, bad, bad},
		"\xf0\x80\x80a":        {bad, bad, bad, 'a'},
		"\xe2\x82\xff\x82\xac": {bad, bad, bad, bad},
		// Bad itself, by its form
		"\xef\xbf\xbd":             {bad},
		"\xef\xbf\xbd\xef\xbf\xbd": {bad, bad},
		"\xef\xbf\xef\xbf\xbd":     {bad, bad},
		"\xef\xbf":                 {bad},
	} {
		decodes(t, b, want...)
	}
}

// P10.1: all bytes of up to three, and of up to four at the edges, by the words
// of the chapter.
func TestDecodeInWords(t *testing.T) {
	w := newWords()
	edges := edgeBytes()
	check := func(b []byte) {
		want, held := w.decode(b)
		if l := Decode(b); !slices.Equal(l, want) {
			t.Fatalf("Decode of %x: %d; want %d", b, l, want)
		}
		d := New()
		if d.Put(b); d.Held() != held {
			t.Fatalf("Put of %x: %d held; want %d", b, d.Held(), held)
		}
	}
	for first := range 256 {
		for second := range 256 {
			check([]byte{byte(first), byte(second)})
			for _, third := range edges {
				check([]byte{byte(first), byte(second), third})
			}
		}
	}
	for _, first := range edges {
		for _, second := range edges {
			for _, third := range edges {
				for _, fourth := range edges {
					check([]byte{first, second, third, fourth})
				}
			}
		}
	}
}

// anyBytes are bytes in which forms, whole and cut, and what is none, stand
// close together.
func anyBytes(r *rand.Rand, most int) []byte {
	edges, all := edgeBytes(), points()
	var b []byte
	for len(b) < most {
		form := formInWords(all[r.Intn(len(all))])
		switch r.Intn(5) {
		case 0:
			b = append(b, form...)
		case 1:
			b = append(b, form[:r.Intn(len(form))]...)
		case 2:
			b = append(b, form[r.Intn(len(form)):]...)
		case 3:
			b = append(b, edges[r.Intn(len(edges))])
		default:
			b = append(b, byte(r.Intn(256)))
		}
	}
	return b[:most]
}

// inPieces holds that pieces tell what all of them tell at once, and each what
// the words of the chapter say.
func inPieces(t *testing.T, w *words, pieces ...[]byte) {
	t.Helper()
	d := New()
	var got []rune
	var held []byte
	for _, b := range pieces {
		var want []rune
		want, held = w.put(held, b)
		l := d.Put(b)
		if !slices.Equal(l, want) || d.Held() != len(held) {
			t.Fatalf("Put of %x of %x: %d, %d held; want %d, %x held", b, pieces, l, d.Held(), want, held)
		}
		got = append(got, l...)
	}
	l := d.End()
	if (len(held) > 0) != slices.Equal(l, []rune{bad}) || len(held) == 0 && len(l) > 0 || d.Held() != 0 {
		t.Fatalf("End behind %x: %d, where %x was held; %d held then", pieces, l, held, d.Held())
	}
	if got = append(got, l...); !slices.Equal(got, Decode(slices.Concat(pieces...))) {
		t.Fatalf("%x tell %d", pieces, got)
	}
}

// P10.2, P10.3: bytes cut at each place, byte by byte, and with pieces of no
// bytes between.
func TestPieces(t *testing.T) {
	w := newWords()
	r := rand.New(rand.NewSource(3))
	texts := [][]byte{nil, {}, []byte("a\xc3\xa9\xe2\x82\xac\xf0\x9f\x98\x80"), []byte("\xf0\x9f\x98\xf0\x9f\xf0\xe2\x82\xe2\xc3\x80\xc0\xed\xa0\x80"), []byte("\xf4\x8f\xbf\xbf\xf4\x90\x80\x80\xef\xbf\xbd")}
	for range 100 {
		texts = append(texts, anyBytes(r, r.Intn(24)))
	}
	for _, b := range texts {
		for from := range len(b) + 1 {
			inPieces(t, w, b[:from], b[from:])
			inPieces(t, w, nil, b[:from], []byte{}, nil, b[from:], nil)
			for to := from; to <= len(b); to++ {
				inPieces(t, w, b[:from], b[from:to], b[to:])
			}
		}
		var ones, wide [][]byte
		for i := range b {
			ones = append(ones, b[i:i+1])
			wide = append(wide, nil, b[i:i+1], []byte{})
		}
		inPieces(t, w, ones...)
		inPieces(t, w, wide...)
	}
}

// P10.2, P10.3: all bytes of three at the edges, behind a form that is begun,
// byte by byte.
func TestPiecesAtEdges(t *testing.T) {
	w := newWords()
	edges := edgeBytes()
	for _, begun := range []string{"", "\xc3", "\xe0", "\xe2\x82", "\xed", "\xf0", "\xf0\x90", "\xf4\x8f\xbf"} {
		for _, first := range edges {
			for _, second := range edges {
				for _, third := range edges {
					inPieces(t, w, []byte(begun), []byte{first}, []byte{second}, []byte{third})
				}
			}
		}
	}
}

// P10.3: long bytes, in pieces of any length.
func TestPiecesAny(t *testing.T) {
	w := newWords()
	r := rand.New(rand.NewSource(4))
	for range 200 {
		b := anyBytes(r, r.Intn(500))
		var pieces [][]byte
		for from := 0; from < len(b); {
			to := min(len(b), from+r.Intn(7))
			pieces = append(pieces, b[from:to])
			from = to
		}
		inPieces(t, w, pieces...)
	}
}

func FuzzPieces(f *testing.F) {
	w := newWords()
	f.Add([]byte("\xe2\x82\xac\xf0\x9f\x98a"), 1, 5)
	f.Fuzz(func(t *testing.T, b []byte, from, to int) {
		from = min(max(from, 0), len(b))
		to = min(max(to, from), len(b))
		want, _ := w.decode(b)
		if l := Decode(b); !slices.Equal(l, want) {
			t.Fatalf("Decode of %x: %d; want %d", b, l, want)
		}
		inPieces(t, w, b[:from], b[from:to], b[to:])
	})
}

// P10.2: what is told, and held, behind each byte of forms.
func TestPut(t *testing.T) {
	d := New()
	tells(t, d, "", 0)
	tells(t, d, "ab", 0, 'a', 'b')
	tells(t, d, "\xc3", 1)
	tells(t, d, "", 1)
	tells(t, d, "\xa9", 0, 233)
	tells(t, d, "\xe2", 1)
	tells(t, d, "\x82", 2)
	tells(t, d, "\xac", 0, 8364)
	tells(t, d, "\xf0", 1)
	tells(t, d, "\x9f", 2)
	tells(t, d, "\x98", 3)
	tells(t, d, "\x80", 0, 128512)
	tells(t, d, "x\xf0\x9f\x98", 3, 'x')
	if l := d.Put(nil); len(l) > 0 || d.Held() != 3 {
		t.Errorf("Put of nil: %d, %d held", l, d.Held())
	}
	tells(t, d, "\x80\xe2\x82", 2, 128512)
	tells(t, d, "\xe2", 1, bad)
	tells(t, d, "a", 0, bad, 'a')
	tells(t, d, "\xf0\x9f\x98", 3)
	tells(t, d, "\xc3", 1, bad)
	tells(t, d, "\xc0", 0, bad, bad)
	tells(t, d, "\xf4", 1)
	tells(t, d, "\x90", 0, bad, bad)
	tells(t, d, "\xed\x9f", 2)
	tells(t, d, "\xbf\xed", 1, 55295)
	tells(t, d, "\xa0\x80", 0, bad, bad, bad)
	tells(t, d, "\xef\xbf\xbd\xef\xbf", 2, bad)
	tells(t, d, "\xbd", 0, bad)
	ends(t, d)
}

// P10.2: at the end one Bad, whatever is held, and none, where nothing is; what
// comes behind it stands alone.
func TestEnd(t *testing.T) {
	ends(t, New())
	d := New()
	for _, held := range []string{"\xc3", "\xe2", "\xe2\x82", "\xf0", "\xf0\x9f", "\xf0\x9f\x98"} {
		tells(t, d, "a"+held, len(held), 'a')
		ends(t, d, bad)
		tells(t, d, "\x82\xac", 0, bad, bad)
		ends(t, d)
		tells(t, d, "\xe2", 1)
		tells(t, d, "\x82\xac", 0, 8364)
		ends(t, d)
	}
	tells(t, d, "\xc0\xff\x80", 0, bad, bad, bad)
	ends(t, d)
}

// P10.2: a copy holds the same, and each goes its own way, whichever is used
// first; one that is copied as a value too.
func TestCopy(t *testing.T) {
	for _, held := range []string{"", "\xc3", "\xe2", "\xe2\x82", "\xf0", "\xf0\x9f", "\xf0\x9f\x98"} {
		make := func() *Decoder {
			d := New()
			tells(t, d, "a"+held, len(held), 'a')
			return d
		}
		var left []rune
		if held != "" {
			left = []rune{bad}
		}
		for _, copied := range []func(*Decoder) *Decoder{
			(*Decoder).Copy,
			func(d *Decoder) *Decoder { other := *d; return &other },
			func(d *Decoder) *Decoder { return d.Copy().Copy() },
		} {
			d := make()
			c := copied(d)
			if c == d || c.Held() != len(held) || d.Held() != len(held) {
				t.Fatalf("the copy of one that holds %x holds %d", held, c.Held())
			}
			tells(t, c, "x", 0, append(left, 'x')...)
			tells(t, d, "\xe2", 1, left...)
			tells(t, c, "\x80", 0, bad)
			tells(t, d, "\x82\xac", 0, 8364)

			d = make()
			c = copied(d)
			ends(t, d, left...)
			if c.Held() != len(held) {
				t.Fatalf("the copy of one that held %x holds %d, once that one ended", held, c.Held())
			}
			tells(t, d, "\xf0\x9f", 2)
			ends(t, c, left...)
			tells(t, d, "\x98\x80", 0, 128512)
		}
	}
}

// P10.2: decoders and their copies, handed any pieces in any order, each by the
// words of the chapter.
func TestDecodersInWords(t *testing.T) {
	type pair struct {
		d    *Decoder
		held []byte
	}
	w := newWords()
	r := rand.New(rand.NewSource(5))
	all := []pair{{d: New()}}
	for range 20000 {
		x := &all[r.Intn(len(all))]
		switch r.Intn(8) {
		case 0:
			if l := x.d.End(); len(l) != min(len(x.held), 1) || len(l) == 1 && l[0] != bad {
				t.Fatalf("End, where %x is held: %d", x.held, l)
			}
			x.held = nil
		case 1:
			other := pair{x.d.Copy(), x.held}
			if len(all) < 8 {
				all = append(all, other)
			} else {
				all[r.Intn(len(all))] = other
			}
		default:
			b := anyBytes(r, r.Intn(6))
			want, held := w.put(x.held, b)
			if l := x.d.Put(b); !slices.Equal(l, want) {
				t.Fatalf("Put of %x, where %x is held: %d; want %d", b, x.held, l, want)
			}
			x.held = held
		}
		for _, x := range all {
			if x.d.Held() != len(x.held) {
				t.Fatalf("%d held; want %x", x.d.Held(), x.held)
			}
		}
	}
}

// P10.2: a nil decoder holds nothing, ever: its Put is Decode; its Copy is as
// New's.
func TestNilDecoder(t *testing.T) {
	var none *Decoder
	for _, b := range []string{"", "a", "\xe2", "\x82\xac", "\xe2\x82\xac", "a\xf0\x9f\x98", "\x80", "\xf0\x80\x80"} {
		tells(t, none, b, 0, Decode([]byte(b))...)
		ends(t, none)
	}
	tells(t, none, "\xe2", 0, bad)
	tells(t, none, "\x82\xac", 0, bad, bad)
	if l := none.Put(nil); len(l) > 0 {
		t.Errorf("Put of nil: %d", l)
	}
	c := none.Copy()
	if c == nil || c == none.Copy() {
		t.Fatal("a nil decoder has no copy of its own")
	}
	ends(t, c)
	tells(t, c, "\xe2", 1)
	tells(t, none, "\x82\xac", 0, bad, bad)
	tells(t, c, "\x82\xac", 0, 8364)
}

// P10.2: one that New did not make is as New's, and so is one that New made:
// each of its own.
func TestNotMade(t *testing.T) {
	var zero Decoder
	for _, d := range []*Decoder{&zero, new(Decoder), {}, New(), New(), new(Decoder).Copy()} {
		if d.Held() != 0 {
			t.Errorf("%d held", d.Held())
		}
		ends(t, d)
		tells(t, d, "\xf0\x9f", 2)
		c := d.Copy()
		tells(t, d, "\x98\x80\xc3", 1, 128512)
		ends(t, d, bad)
		tells(t, c, "\x98", 3)
	}
	if New() == New() {
		t.Error("New tells one decoder twice")
	}
}

// Rules: what is handed in stays as it was, the room behind it too, and bytes
// that are changed behind a call change nothing of what is held.
func TestArgumentsStay(t *testing.T) {
	const whole = "-a\xc3\xa9\xf0\x9f\x98+++\x80\xe2\x82\xac"
	room := []byte(whole)
	b := room[1:7]
	l := Decode(b)
	d := New()
	told := d.Put(b)
	c := d.Copy()
	var none *Decoder
	none.Put(b)
	if string(room) != whole {
		t.Fatalf("what was handed in is %x", room)
	}
	clear(room)
	if !slices.Equal(l, []rune{'a', 233, bad}) || !slices.Equal(told, []rune{'a', 233}) {
		t.Errorf("what was told has changed: %d, %d", l, told)
	}
	tells(t, d, "\x80", 0, 128512)
	copy(room, "\xf4\x8f\xbf\xbf")
	tells(t, c, "\x81", 0, 128513)
}

// Rules: what is told is new each time: no two answers share anything, the room
// behind them neither.
func TestAnswersAreNew(t *testing.T) {
	for _, c := range append(points(), noPoints()...) {
		form := Form(c)
		want := bytes.Clone(form)
		clear(form[:cap(form)])
		if again := Form(c); !bytes.Equal(again, want) {
			t.Fatalf("forms of %d share something: %x", c, again)
		}
	}
	const b = "a\xc3\xa9\xe2\x82"
	var none *Decoder
	for name, tell := range map[string]func() []rune{
		"Decode":       func() []rune { return Decode([]byte(b)) },
		"Put":          func() []rune { return New().Put([]byte(b)) },
		"Put of a nil": func() []rune { return none.Put([]byte(b)) },
		"End": func() []rune {
			d := New()
			d.Put([]byte(b))
			return d.End()
		},
	} {
		l, twin := tell(), tell()
		want := slices.Clone(twin)
		clear(l[:cap(l)])
		if again := tell(); len(want) == 0 || !slices.Equal(twin, want) || !slices.Equal(again, want) {
			t.Errorf("%s: answers share something: %d, %d", name, twin, again)
		}
	}
	d := New()
	first := d.Put([]byte("abc"))
	second := d.Put([]byte("def"))
	if _ = append(first, 'x'); !slices.Equal(first, []rune{'a', 'b', 'c'}) || !slices.Equal(second, []rune{'d', 'e', 'f'}) {
		t.Errorf("what one decoder told shares something: %d, %d", first, second)
	}
}

// P10.2: asking a decoder changes nothing, and the same is told each time.
func TestAsking(t *testing.T) {
	d := New()
	tells(t, d, "\xf0\x9f", 2)
	for range 3 {
		if d.Held() != 2 || d.Copy().Held() != 2 {
			t.Fatalf("%d held", d.Held())
		}
		ends(t, d.Copy(), bad)
	}
	tells(t, d, "\x98\x80", 0, 128512)
}

// P1: every call ends and none panics, at all arguments; what is told are code
// points, and what is held at most three bytes.
func TestAnyArguments(t *testing.T) {
	var texts []string
	for _, b := range edgeBytes() {
		texts = append(texts, strings.Repeat(string([]byte{b}), 1), strings.Repeat(string([]byte{b}), 5), strings.Repeat(string([]byte{b}), 70000))
	}
	r := rand.New(rand.NewSource(6))
	for range 20 {
		texts = append(texts, string(anyBytes(r, r.Intn(5000))))
	}
	check := func(l []rune) {
		t.Helper()
		for _, c := range l {
			if !utf8.ValidRune(c) {
				t.Fatalf("%d was told", c)
			}
		}
	}
	var none *Decoder
	one := New()
	for _, s := range texts {
		b := []byte(s)
		check(Decode(b))
		for _, d := range []*Decoder{none, new(Decoder), New(), one} {
			check(d.Put(b))
			if many := d.Held(); many < 0 || many > 3 {
				t.Fatalf("%d held", many)
			}
			check(d.Copy().Put(b))
			check(d.Copy().End())
		}
		check(one.End())
	}
	for _, c := range append(points(), noPoints()...) {
		if form := Form(c); len(form) < 1 || len(form) > 4 || !utf8.Valid(form) {
			t.Fatalf("Form of %d: %x", c, form)
		}
	}
}
