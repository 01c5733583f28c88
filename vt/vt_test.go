package vt

import (
	"fmt"
	"math"
	"math/rand"
	"regexp"
	"slices"
	"strconv"
	"strings"
	"testing"

	"oriel/api"
)

// begun are code points behind which each thing that may be begun stands in each
// of its ways; nothing of what was ahead of it is left.
func begun() map[string]string {
	return map[string]string{
		"nothing":                         "",
		"nothing, behind a sequence":      "\x1b[?12;34 qa",
		"an escape":                       "\x1b",
		"an escape in an escape":          "\x1b(\x1b",
		"an escape with a control":        "\x1b\n\x7f",
		"an escape with an Inter":         "\x1b(",
		"an escape with two Inter":        "\x1b /",
		"an escape with three Inter":      "\x1b#%(",
		"a sequence":                      "\x1b[",
		"a sequence with a control":       "\x1b[\a\x7f",
		"a sequence of one code point":    "\u009b",
		"a sequence with a Mark":          "\x1b[?",
		"a sequence with another Mark":    "\x1b[<\r",
		"a sequence with a digit":         "\x1b[7",
		"a sequence with a semicolon":     "\x1b[;",
		"a sequence with a Mark, numbers": "\x1b[>10;9999;",
		"a sequence with an Inter":        "\x1b[ ",
		"a sequence with two Inter":       "\x1b[4!$",
		"a sequence with three Inter":     "\x1b[4!$'",
		"a sequence void by a colon":      "\x1b[1:",
		"a sequence void by a Mark":       "\x1b[??",
		"a sequence void by a digit":      "\x1b[1 2",
		"a sequence with 15 numbers":      "\x1b[1;2;3;4;5;6;7;8;9;10;11;12;13;14;15",
		"a sequence with 16 numbers":      "\x1b[1;2;3;4;5;6;7;8;9;10;11;12;13;14;15;16",
		"a sequence with 17 numbers":      "\x1b[1;2;3;4;5;6;7;8;9;10;11;12;13;14;15;16;17",
		"a string":                        "\x1b]",
		"a string with a text":            "\x1b]0;\x01t\x7fé",
		"a string with a text of 63":      "\x1b]" + strings.Repeat("t", 63),
		"a string with a text of 64":      "\x1b]" + strings.Repeat("t", 64),
		"a string of one code point":      "\u009d",
		"a string never told, by P":       "\x1bP",
		"a string never told, by X":       "\x1bXtext",
		"a string never told, by ^":       "\x1b^\n",
		"a string never told, by _":       "\x1b_\u00a0",
		"a string never told, of one":     "\u0090",
	}
}

// tails end or go on what is begun so that what it is, is seen.
func tails() []string {
	return []string{"", "m", "1", "12;3m", "?25h", ":m", "[m", "]t\a", "(B", " x", "()~", "!\"#x", "/q", "\am", "\nm", "\x7f0m", "\x18m", "\x1am", "\x1b[4m", "\x1b\\", "\x84", "\u009b;;m", "\u009c", "é", "Pm\am", "\x1b]u\x1b\\"}
}

// edges are the code points from 0 to 160, and numbers at which something else
// begins.
func edges() []rune {
	l := []rune{math.MinInt32, math.MinInt32 + 1, -128, -1, 161, 233, 255, 256, 8364, 55295, 55296, 57343, 57344, 65533, 65534, 65535, 65536, 1114111, 1114112, math.MaxInt32 - 1, math.MaxInt32}
	for c := rune(0); c <= 160; c++ {
		l = append(l, c)
	}
	return l
}

// some is an action, each field of it, as a text.
func some(a api.Action) string {
	return fmt.Sprintf("%d c%d mark%d inter%q %d %d", a.Kind, a.C, a.Mark, a.Inter, a.Params, a.Text)
}

// somes are actions as texts.
func somes(l []api.Action) []string {
	all := []string{}
	for _, a := range l {
		all = append(all, some(a))
	}
	return all
}

func shown(c rune) string { return some(api.Action{Kind: 1, C: c}) }

func done(c rune) string { return some(api.Action{Kind: 2, C: c}) }

func esc(inter string, c rune) string { return some(api.Action{Kind: 3, Inter: inter, C: c}) }

func csi(mark rune, inter string, c rune, params ...int) string {
	return some(api.Action{Kind: 4, Mark: mark, Inter: inter, C: c, Params: params})
}

func osc(text string) string { return some(api.Action{Kind: 5, Text: []rune(text)}) }

// sequence is a control sequence, to be read whole, that is not void.
var sequence = regexp.MustCompile(`^([<-?]?)([0-9;]*)([ -/]{0,2})([@-~])$`)

// escapeWhole is an escape that is told.
var escapeWhole = regexp.MustCompile(`^([ -/]{0,2})([0-~])$`)

// words read code points by the words of the chapter: all that came of what is
// begun is kept, and read when it is whole.
type words struct {
	what rune // what is begun: 27, [, ], P; 0: nothing
	came []rune
}

// put is what the chapter says of a code point.
func (w *words) put(c rune) []string {
	if c < 0 || c > 1114111 || c >= 55296 && c <= 57343 {
		c = 65533
	}
	if c >= 128 && c <= 159 {
		first := w.put(27)
		return slices.Concat(first, w.put(c-64))
	}
	switch {
	case c == 24 || c == 26:
		*w = words{}
		return []string{done(c)}
	case c == 27:
		l := w.closed()
		*w = words{what: 27}
		return l
	case w.what == ']' || w.what == 'P':
		if c == 7 {
			l := w.closed()
			*w = words{}
			return l
		}
		w.came = append(w.came, c)
		return nil
	case c < 32:
		return []string{done(c)}
	case c == 127:
		return nil
	case c >= 160 || w.what == 0:
		*w = words{}
		return []string{shown(c)}
	}
	w.came = append(w.came, c)
	if w.what == 27 {
		return w.escape(c)
	}
	return w.sequence(c)
}

// closed is what is told of a string when 7 or 27 ends it.
func (w *words) closed() []string {
	if w.what != ']' {
		return nil
	}
	l := slices.DeleteFunc(slices.Clone(w.came), func(c rune) bool { return c < 32 || c == 127 })
	return []string{osc(string(l[:min(len(l), 64)]))}
}

// escape is what is told of an escape behind its code point c.
func (w *words) escape(c rune) []string {
	if len(w.came) == 1 && strings.ContainsRune("[]PX^_", c) {
		what := map[rune]rune{'[': '[', ']': ']'}[c]
		if what == 0 {
			what = 'P'
		}
		*w = words{what: what}
		return nil
	}
	if c < 48 {
		return nil
	}
	m := escapeWhole.FindStringSubmatch(string(w.came))
	*w = words{}
	if m == nil {
		return nil
	}
	return []string{esc(m[1], c)}
}

// sequence is what is told of a control sequence behind its code point c.
func (w *words) sequence(c rune) []string {
	if c < 64 {
		return nil
	}
	m := sequence.FindStringSubmatch(string(w.came))
	*w = words{}
	if m == nil {
		return nil
	}
	mark := rune(0)
	if m[1] != "" {
		mark = rune(m[1][0])
	}
	return []string{csi(mark, m[3], c, numbers(m[2])...)}
}

// numbers are a control sequence's parameters.
func numbers(s string) []int {
	if s == "" {
		return nil
	}
	var l []int
	for _, digits := range strings.Split(s, ";") {
		digits = strings.TrimLeft(digits, "0")
		n, _ := strconv.Atoi("0" + digits[:min(len(digits), 5)])
		l = append(l, min(n, 9999))
	}
	return l[:min(len(l), 16)]
}

// all is what the chapter says of all code points, from w on.
func (w *words) all(l []rune) []string {
	told := []string{}
	for _, c := range l {
		told = append(told, w.put(c)...)
	}
	return told
}

// copy is another one that stands so.
func (w *words) copy() *words {
	return &words{w.what, slices.Clone(w.came)}
}

// parses holds what Parse tells of code points.
func parses(t *testing.T, s string, want ...string) {
	t.Helper()
	if l := somes(Parse([]rune(s))); !slices.Equal(l, want) {
		t.Errorf("Parse of %q: %q; want %q", s, l, want)
	}
}

// behind is a parser that code points were put to.
func behind(s string) *Parser {
	p := New()
	putAll(p, []rune(s))
	return p
}

// putAll is what a parser tells of code points, one by one.
func putAll(p *Parser, l []rune) []string {
	all := []string{}
	for _, c := range l {
		all = append(all, somes(p.Put(c))...)
	}
	return all
}

// tells holds what a parser tells of code points, and whether it is idle then.
func tells(t *testing.T, p *Parser, s string, idle bool, want ...string) {
	t.Helper()
	if l := putAll(p, []rune(s)); !slices.Equal(l, want) || p.Idle() != idle {
		t.Fatalf("Put of %q: %q, idle %v; want %q, %v", s, l, p.Idle(), want, idle)
	}
}

// stands holds that a parser stands as the words do: idle or not, and as to all
// that may come.
func stands(t *testing.T, name string, p *Parser, w *words) {
	t.Helper()
	if p.Idle() != (w.what == 0) {
		t.Fatalf("%s: idle %v", name, p.Idle())
	}
	for _, s := range tails() {
		if l, want := putAll(p.Copy(), []rune(s)), w.copy().all([]rune(s)); !slices.Equal(l, want) {
			t.Fatalf("%s, then %q: %q; want %q", name, s, l, want)
		}
	}
}

// The examples.
func TestExamples(t *testing.T) {
	parses(t, "a\a", shown('a'), done(7))
	parses(t, "\x1b[?25h", csi('?', "", 'h', 25))
	parses(t, "\x1b[;5H", csi(0, "", 'H', 0, 5))
	parses(t, "\x1b(B", esc("(", 'B'))
	parses(t, "\x1b7", esc("", '7'))
	parses(t, "\x1b(B\x1b7", esc("(", 'B'), esc("", '7'))
	parses(t, "\x1b]0;t\a", osc("0;t"))
	parses(t, "\u009b13\x18m", done(24), shown('m'))
	parses(t, "\x1b[13\x18m", done(24), shown('m'))
	parses(t, "\x1b[1:2m")
	parses(t, "\x1b[1\nm", done(10), csi(0, "", 'm', 1))
}

// P11.1: the kinds and limits are those that tests want.
func TestKinds(t *testing.T) {
	if k := []api.ActKind{api.ActPrint, api.ActExec, api.ActEsc, api.ActCsi, api.ActOsc}; !slices.Equal(k, []api.ActKind{1, 2, 3, 4, 5}) {
		t.Errorf("the kinds are %d", k)
	}
	if l := []int{api.MaxParams, api.MaxParam, api.MaxOsc}; !slices.Equal(l, []int{16, 9999, 64}) {
		t.Errorf("the limits are %d", l)
	}
}

// P11.1: where nothing is begun: controls are told, 27 begins an escape, 127 is
// nothing, all else is shown.
func TestOutside(t *testing.T) {
	for c := rune(0); c < 128; c++ {
		switch p := New(); {
		case c == 27:
			tells(t, p, string(c), false)
		case c == 127:
			tells(t, p, string(c), true)
		case c < 32:
			tells(t, p, string(c), true, done(c))
		default:
			tells(t, p, string(c), true, shown(c))
		}
	}
	parses(t, "\u00a0é€😀\U0010ffff\ufffd", shown(160), shown(233), shown(8364), shown(128512), shown(1114111), shown(65533))
	if l := Parse(nil); len(l) > 0 {
		t.Errorf("Parse of nil: %v", l)
	}
	parses(t, "")
}

// P11.1: what is no code point counts as Bad: it is shown, and ends an escape
// and a control sequence; in a string it is of its text.
func TestNoPoints(t *testing.T) {
	for _, c := range []rune{math.MinInt32, math.MinInt32 + 1, -65533, -128, -101, -64, -37, -5, -1, 55296, 56000, 57343, 65533, 1114112, 1 << 24, math.MaxInt32 - 1, math.MaxInt32} {
		for _, s := range []string{"", "\x1b", "\x1b(", "\x1b()*", "\x1b[", "\x1b[?", "\x1b[1;2 ", "\x1b[1:"} {
			if told := somes(Parse(append([]rune(s), c, 'm'))); !slices.Equal(told, []string{shown(65533), shown('m')}) {
				t.Errorf("%q, then %d: %q", s, c, told)
			}
		}
		if told := somes(Parse([]rune{27, ']', 't', c, 'm', 7})); !slices.Equal(told, []string{osc("t\ufffdm")}) {
			t.Errorf("%d in a string: %q", c, told)
		}
		if told := somes(Parse([]rune{27, 'P', 't', c, 'm', 7})); len(told) > 0 {
			t.Errorf("%d in a string that is never told: %q", c, told)
		}
	}
	if l := somes(Parse([]rune{55295, 57344, 1114111})); !slices.Equal(l, []string{shown(55295), shown(57344), shown(1114111)}) {
		t.Errorf("code points beside those that are none: %q", l)
	}
}

// P11.1: escapes: each last one, alone and behind one and two Inter; those that
// begin something else do so only without an Inter.
func TestEscape(t *testing.T) {
	for c := rune(48); c <= 126; c++ {
		if strings.ContainsRune("[]PX^_", c) {
			tells(t, New(), "\x1b"+string(c), false)
		} else {
			tells(t, New(), "\x1b"+string(c), true, esc("", c))
		}
		tells(t, New(), "\x1b("+string(c), true, esc("(", c))
		tells(t, New(), "\x1b /"+string(c), true, esc(" /", c))
		tells(t, New(), "\x1b #/"+string(c), true)
		tells(t, New(), "\x1b (#/"+string(c), true)
	}
	for c := rune(32); c <= 47; c++ {
		s := string(c)
		tells(t, New(), "\x1b"+s, false)
		tells(t, New(), "\x1b"+s+"A", true, esc(s, 'A'))
		tells(t, New(), "\x1b"+s+"("+"A", true, esc(s+"(", 'A'))
		tells(t, New(), "\x1b$"+s+"0", true, esc("$"+s, '0'))
		tells(t, New(), "\x1b$%"+s, false)
		tells(t, New(), "\x1b$%"+s+"0m", true, shown('m'))
	}
	parses(t, "\x1b#%(8\x1b#8", esc("#", '8'))
	parses(t, "\x1b"+strings.Repeat(" ", 1000)+"xy", shown('y'))
}

// P11.1: what goes on within an escape and a control sequence, in each way of
// them: controls are told and end nothing, 127 is nothing, 24 and 26 end it and
// are told, 27 begins anew, one of 160 or more ends it and is shown.
func TestBeside(t *testing.T) {
	for s, whole := range map[string]string{
		"\x1b":       esc("", 'D'),
		"\x1b(":      esc("(", 'D'),
		"\x1b()":     esc("()", 'D'),
		"\x1b[":      csi(0, "", 'D'),
		"\x1b[?":     csi('?', "", 'D'),
		"\x1b[7":     csi(0, "", 'D', 7),
		"\x1b[;":     csi(0, "", 'D', 0, 0),
		"\x1b[1;2 /": csi(0, " /", 'D', 1, 2),
	} {
		for c := rune(0); c < 32; c++ {
			if c != 24 && c != 26 && c != 27 {
				tells(t, behind(s), string(c), false, done(c))
				tells(t, behind(s), string(c)+"\x7f"+string(c)+"D", true, done(c), done(c), whole)
			}
		}
		tells(t, behind(s), "\x7f", false)
		tells(t, behind(s), "\x7f\x7fD", true, whole)
		tells(t, behind(s), "\x18", true, done(24))
		tells(t, behind(s), "\x18D", true, done(24), shown('D'))
		tells(t, behind(s), "\x1a", true, done(26))
		tells(t, behind(s), "\x1aD", true, done(26), shown('D'))
		tells(t, behind(s), "\x1b", false)
		tells(t, behind(s), "\x1bD", true, esc("", 'D'))
		tells(t, behind(s), "\x1b[D", true, csi(0, "", 'D'))
		for _, c := range []rune{160, 161, 233, 8364, 65533, 1114111} {
			tells(t, behind(s), string(c), true, shown(c))
			tells(t, behind(s), string(c)+"D", true, shown(c), shown('D'))
		}
	}
	for _, s := range []string{"\x1b()*", "\x1b[1:", "\x1b[1 2", "\x1b[!!!", "\x1b[??"} {
		tells(t, behind(s), "\n", false, done(10))
		tells(t, behind(s), "\x7fDD", true, shown('D'))
		tells(t, behind(s), "\n\x7fDD", true, done(10), shown('D'))
		tells(t, behind(s), "\x18D", true, done(24), shown('D'))
		tells(t, behind(s), "\x1aD", true, done(26), shown('D'))
		tells(t, behind(s), "\x1bD", true, esc("", 'D'))
		tells(t, behind(s), "éD", true, shown(233), shown('D'))
	}
}

// P11.1: control sequences: each last one; those ahead of it end none.
func TestSequence(t *testing.T) {
	for c := rune(64); c <= 126; c++ {
		s := string(c)
		tells(t, New(), "\x1b["+s, true, csi(0, "", c))
		tells(t, New(), "\u009b"+s, true, csi(0, "", c))
		tells(t, New(), "\x1b[>1;2 "+s, true, csi('>', " ", c, 1, 2))
		tells(t, New(), "\x1b[1:"+s+s, true, shown(c))
	}
	for c := rune(32); c <= 63; c++ {
		tells(t, New(), "\x1b["+string(c), false)
		tells(t, New(), "\x1b[:"+string(c), false)
	}
}

// P11.1: a Mark is the first that came of a control sequence: behind anything of
// it one makes it void; what is told or nothing within it is not of it.
func TestMark(t *testing.T) {
	for _, c := range "<=>?" {
		mark := string(c)
		parses(t, "\x1b["+mark+"h", csi(c, "", 'h'))
		parses(t, "\x1b["+mark+"25;7h", csi(c, "", 'h', 25, 7))
		parses(t, "\x1b["+mark+"$p", csi(c, "$", 'p'))
		parses(t, "\x1b[\n"+mark+"1h", done(10), csi(c, "", 'h', 1))
		parses(t, "\x1b[\x7f"+mark+"1h", csi(c, "", 'h', 1))
		for _, came := range []string{"?", "<", "1", ";", "1;", " ", ":", "?1", "!\""} {
			parses(t, "\x1b["+came+mark+"h")
			parses(t, "\x1b["+came+mark+"1hm", shown('m'))
		}
		parses(t, "\x1b["+mark+"1\x1b[2h", csi(0, "", 'h', 2))
	}
	parses(t, "\x1b[:1h")
	parses(t, "\x1b[:?1h")
}

// P11.1: the Inter of a control sequence: up to two; a digit, a semicolon, a
// colon, a Mark or a third one makes it void.
func TestInter(t *testing.T) {
	for c := rune(32); c <= 47; c++ {
		s := string(c)
		parses(t, "\x1b["+s+"q", csi(0, s, 'q'))
		parses(t, "\x1b[1"+s+"q", csi(0, s, 'q', 1))
		parses(t, "\x1b[?1"+s+"$q", csi('?', s+"$", 'q', 1))
		parses(t, "\x1b[;$"+s+"q", csi(0, "$"+s, 'q', 0, 0))
		parses(t, "\x1b[1#$"+s+"q")
		parses(t, "\x1b["+s+s+s+"q")
		parses(t, "\x1b["+s+s+s+s+"q")
		for c := rune(48); c <= 63; c++ {
			parses(t, "\x1b[1"+s+string(c)+"q")
			parses(t, "\x1b["+s+string(c)+"q")
			parses(t, "\x1b["+s+s+string(c)+"qm", shown('m'))
			parses(t, "\x1b["+s+string(c)+s+"qm", shown('m'))
		}
	}
	parses(t, "\x1b[1 \nq", done(10), csi(0, " ", 'q', 1))
}

// P11.1: parameters: none, if there is neither a digit nor a semicolon; 0
// without digits; 9999 for all that are greater.
func TestParams(t *testing.T) {
	for s, want := range map[string][]int{
		"":                 nil,
		";":                {0, 0},
		";;":               {0, 0, 0},
		"0":                {0},
		"00":               {0},
		"0;0":              {0, 0},
		"1;":               {1, 0},
		";1":               {0, 1},
		"1;;2":             {1, 0, 2},
		"7":                {7},
		"10":               {10},
		"007":              {7},
		"00000000000009":   {9},
		"123;456":          {123, 456},
		"999;1000":         {999, 1000},
		"9998":             {9998},
		"9999":             {9999},
		"09999;09998":      {9999, 9998},
		"10000":            {9999},
		"10001;1":          {9999, 1},
		"99990":            {9999},
		"65536;65537":      {9999, 9999},
		"2147483648;5":     {9999, 5},
		"4294967297":       {9999},
		"9223372036854775": {9999},
		"18446744073709551616;18446744073709551617":  {9999, 9999},
		"100000000000000000000000000000000000000;12": {9999, 12},
		"5;" + strings.Repeat("0", 1000) + "12":      {5, 12},
		"5;" + strings.Repeat("9", 100000) + ";6":    {5, 9999, 6},
	} {
		parses(t, "\x1b["+s+"m", csi(0, "", 'm', want...))
		parses(t, "\x1b[>"+s+" m", csi('>', " ", 'm', want...))
	}
	for c := '0'; c <= '9'; c++ {
		parses(t, "\x1b["+string(c)+"m", csi(0, "", 'm', int(c-'0')))
		parses(t, "\x1b[1"+string(c)+"m", csi(0, "", 'm', 10+int(c-'0')))
	}
	parses(t, "\x1b[1\n2;\x7f3m", done(10), csi(0, "", 'm', 12, 3))
}

// P11.1, P11.3: the first 16 parameters count; more of them make nothing void.
func TestManyParams(t *testing.T) {
	var l, first []int
	s := ""
	for n := 1; n <= 40; n++ {
		l = append(l, n*10)
		s += strconv.Itoa(n * 10)
		first = l[:min(n, 16)]
		parses(t, "\x1b["+s+"m", csi(0, "", 'm', first...))
		parses(t, "\x1b[?"+s+"$m", csi('?', "$", 'm', first...))
		s += ";"
		if n < 16 {
			parses(t, "\x1b["+s+"m", csi(0, "", 'm', append(slices.Clone(first), 0)...))
		} else {
			parses(t, "\x1b["+s+"m", csi(0, "", 'm', first...))
		}
		none := strings.Repeat(";", n)
		parses(t, "\x1b["+none+"m", csi(0, "", 'm', make([]int, min(n+1, 16))...))
		parses(t, "\x1b["+none+"5m", csi(0, "", 'm', append(make([]int, n), 5)[:min(n+1, 16)]...))
	}
	parses(t, "\x1b["+strings.Repeat("9;", 100000)+"m", csi(0, "", 'm', slices.Repeat([]int{9}, 16)...))
	parses(t, "\x1b["+s+"1:m")
}

// P11.1, P11.3: a string's text: its first 64 from 32 on, but 127; all else that
// comes in it is nothing.
func TestText(t *testing.T) {
	for _, n := range []int{0, 1, 2, 62, 63, 64, 65, 66, 127, 128, 1000, 70000} {
		text := strings.Repeat("0123456é", n/8+1)
		short := string([]rune(text)[:min(n, 64)])
		text = string([]rune(text)[:n])
		parses(t, "\x1b]"+text+"\a", osc(short))
		parses(t, "\x1b]"+text+"\x1b", osc(short))
		parses(t, "\x1b]"+text+"\x1b\\", osc(short), esc("", '\\'))
		parses(t, "\x1b]"+text+"\x18", done(24))
		parses(t, "\x1b]"+text+"\x1a", done(26))
		parses(t, "\x1b]"+text)
		parses(t, "\x1b]\x7f"+text+"\n\x7f\a", osc(short))
	}
	for c := rune(0); c < 127; c++ {
		switch s := string(c); {
		case c == 7:
			tells(t, behind("\x1b]t"), s, true, osc("t"))
		case c == 24 || c == 26:
			tells(t, behind("\x1b]t"), s, true, done(c))
		case c == 27:
			tells(t, behind("\x1b]t"), s, false, osc("t"))
		case c < 32:
			tells(t, behind("\x1b]t"), s, false)
			tells(t, behind("\x1b]t"), s+"u\a", true, osc("tu"))
		default:
			tells(t, behind("\x1b]t"), s, false)
			tells(t, behind("\x1b]t"), s+"u\a", true, osc("t"+s+"u"))
		}
	}
	parses(t, "\x1b]t\x7fu\a", osc("tu"))
	parses(t, "\x1b]\u00a0é€\U0010ffff\a", osc("\u00a0é€\U0010ffff"))
	parses(t, "\x1b]a\x1b]b\a\x1b]\a", osc("a"), osc("b"), osc(""))
	parses(t, "\x1b]a\x18\x1b]b\a", done(24), osc("b"))
	parses(t, "\x1b(]a\a", esc("(", ']'), shown('a'), done(7))
}

// P11.1: four strings are never told, nor is what comes in them; 7 ends them
// untold too.
func TestNeverTold(t *testing.T) {
	for _, begin := range []string{"\x1bP", "\x1bX", "\x1b^", "\x1b_", "\u0090", "\u0098", "\u009e", "\u009f"} {
		for c := rune(0); c <= 127; c++ {
			switch s := string(c); {
			case c == 7:
				tells(t, behind(begin+"t"), s, true)
				tells(t, behind(begin), s+"m", true, shown('m'))
			case c == 24 || c == 26:
				tells(t, behind(begin+"t"), s, true, done(c))
				tells(t, behind(begin), s+"m", true, done(c), shown('m'))
			case c == 27:
				tells(t, behind(begin+"t"), s, false)
				tells(t, behind(begin), s+"m", true, esc("", 'm'))
			default:
				tells(t, behind(begin+"t"), s, false)
				tells(t, behind(begin), s+"[1m\a\a", true, done(7))
			}
		}
		for _, c := range []rune{160, 233, 65533, 1114111} {
			tells(t, behind(begin), string(c), false)
		}
		parses(t, begin+strings.Repeat("long", 1000)+"\x1b\\x", esc("", '\\'), shown('x'))
		parses(t, "\x1b"+begin+"t\a")
	}
	for _, c := range "PX^_" {
		parses(t, "\x1b("+string(c)+"a", esc("(", c), shown('a'))
	}
}

// P11.1: one from 128 to 159 is as 27 and the one 64 below, whatever is begun:
// what the two tell is told at once, in order.
func TestTwo(t *testing.T) {
	for name, s := range begun() {
		for c := rune(128); c <= 159; c++ {
			p, two := behind(s), behind(s)
			told, want := somes(p.Put(c)), putAll(two, []rune{27, c - 64})
			if !slices.Equal(told, want) || p.Idle() != two.Idle() {
				t.Fatalf("%s, then %d: %q; want %q", name, c, told, want)
			}
			for _, s := range tails() {
				if l, want := putAll(p.Copy(), []rune(s)), putAll(two.Copy(), []rune(s)); !slices.Equal(l, want) {
					t.Fatalf("%s, then %d, then %q: %q; want %q", name, c, s, l, want)
				}
			}
		}
	}
	for c := rune(128); c <= 159; c++ {
		if !strings.ContainsRune("[]PX^_", c-64) {
			parses(t, string(c), esc("", c-64))
			tells(t, behind("\x1b]t"), string(c), true, osc("t"), esc("", c-64))
			tells(t, behind("\x1b[1"), string(c), true, esc("", c-64))
		}
	}
	parses(t, "\u009d0;t\u009cm", osc("0;t"), esc("", '\\'), shown('m'))
	parses(t, "\x1b]a\u009db\a", osc("a"), osc("b"))
	parses(t, "\x1b]a\u009b1m", osc("a"), csi(0, "", 'm', 1))
	parses(t, "\x1b]a\u0090b\a", osc("a"))
}

// P11.1, P11.2: each code point, whatever is begun, and all that may come behind
// it, against the words.
func TestEach(t *testing.T) {
	for name, s := range begun() {
		w := &words{}
		want := w.all([]rune(s))
		if l := somes(Parse([]rune(s))); !slices.Equal(l, want) {
			t.Fatalf("%s: %q; want %q", name, l, want)
		}
		stands(t, name, behind(s), w)
		for _, c := range edges() {
			p, w := behind(s), w.copy()
			if l, want := somes(p.Put(c)), w.put(c); !slices.Equal(l, want) {
				t.Fatalf("%s, then %d: %q; want %q", name, c, l, want)
			}
			stands(t, fmt.Sprintf("%s, then %d", name, c), p, w)
		}
	}
}

// anyPoints are code points that often make sequences, whole and cut, among any
// numbers.
func anyPoints(r *rand.Rand, many int) []rune {
	pieces := []string{"\x1b", "\x1b[", "\x1b[?", "\x1b]", "\x1bP", "\u009b", "\u009d", "m", "h", "~", "@", "1", "25", "99999", ";", ";;", "7;8;9;10;11;12;13;14;15;16;17", ":", "<", "?", " ", "(", "/!", "\a", "\n", "\x18", "\x1a", "\x7f", "a", "text of a string that is not a short one", "é", "\u00a0", "\x1b\\", "\u009c"}
	var l []rune
	for len(l) < many {
		switch n := r.Intn(30); n {
		case 0:
			l = append(l, rune(r.Uint32()))
		case 1:
			l = append(l, edges()[r.Intn(len(edges()))])
		case 2, 3:
			l = append(l, rune(r.Intn(128)))
		default:
			l = append(l, []rune(pieces[r.Intn(len(pieces))])...)
		}
	}
	return l
}

// P11.1, P11.3: any code points, at once and one by one, against the words.
func TestWords(t *testing.T) {
	r := rand.New(rand.NewSource(1))
	for range 3000 {
		l := anyPoints(r, r.Intn(150))
		holds(t, l)
	}
	holds(t, anyPoints(r, 200000))
}

// holds holds what is told of code points to the words.
func holds(t *testing.T, l []rune) {
	t.Helper()
	w, p := &words{}, New()
	var all []string
	for i, c := range l {
		told, want := somes(p.Put(c)), w.put(c)
		if !slices.Equal(told, want) || p.Idle() != (w.what == 0) {
			t.Fatalf("Put of %d, the last one of %d: %q, idle %v; want %q", c, l[max(0, i-100):i+1], told, p.Idle(), want)
		}
		all = append(all, want...)
	}
	if told := somes(Parse(l)); !slices.Equal(told, all) {
		t.Fatalf("Parse of %d: %q; want %q", l, told, all)
	}
}

// FuzzParse: any code points, each of three bytes, against the words.
func FuzzParse(f *testing.F) {
	add := func(s string) {
		var b []byte
		for _, c := range s {
			b = append(b, byte(c>>16), byte(c>>8), byte(c))
		}
		f.Add(b)
	}
	for _, s := range begun() {
		add(s)
		for _, tail := range tails() {
			add(s + tail)
		}
	}
	f.Fuzz(func(t *testing.T, b []byte) {
		var l []rune
		for ; len(b) >= 3; b = b[3:] {
			l = append(l, rune(b[0])<<16|rune(b[1])<<8|rune(b[2]))
		}
		holds(t, l)
		checkLimits(t, l)
	})
}

// checkLimits holds that lists of actions are not longer than their limits.
func checkLimits(t *testing.T, l []rune) {
	t.Helper()
	for _, a := range Parse(l) {
		if len(a.Inter) > 2 || len(a.Params) > 16 || len(a.Text) > 64 {
			t.Fatalf("too long: %s", some(a))
		}
		for _, n := range a.Params {
			if n < 0 || n > 9999 {
				t.Fatalf("no parameter: %s", some(a))
			}
		}
	}
}

// P11.3: behind 24 a parser is idle, whatever was begun, and tells what comes as
// a new one does; behind 26 too.
func TestCancel(t *testing.T) {
	r := rand.New(rand.NewSource(2))
	l := slices.Collect(func(yield func(string) bool) {
		for _, s := range begun() {
			if !yield(s) {
				return
			}
		}
		for range 300 {
			if !yield(string(anyPoints(r, r.Intn(100)))) {
				return
			}
		}
	})
	for _, s := range l {
		for _, c := range []rune{24, 26} {
			p := behind(s)
			tells(t, p, string(c), true, done(c))
			stands(t, fmt.Sprintf("%q, then %d", s, c), p, &words{})
			more := anyPoints(r, 40)
			if told, want := putAll(p, more), somes(Parse(more)); !slices.Equal(told, want) {
				t.Fatalf("%q, then %d, then %d: %q; want %q", s, c, more, told, want)
			}
		}
	}
}

// P11.3: no list is longer than its limit, whatever comes.
func TestLimits(t *testing.T) {
	r := rand.New(rand.NewSource(3))
	for range 200 {
		checkLimits(t, anyPoints(r, 300))
	}
	for _, s := range []string{"\x1b", "\x1b[", "\x1b]"} {
		for c := rune(0); c <= 160; c++ {
			for _, end := range "mx\a" {
				checkLimits(t, append([]rune(s+strings.Repeat(string(c), 200)), end))
			}
		}
	}
}

// P11.2: a parser is idle when nothing is begun, and then alone; asking changes
// nothing.
func TestIdle(t *testing.T) {
	for name, s := range begun() {
		p := behind(s)
		for range 3 {
			if p.Idle() != strings.HasPrefix(name, "nothing") || p.Copy().Idle() != p.Idle() {
				t.Errorf("%s: idle %v", name, p.Idle())
			}
		}
	}
	p := New()
	idle := ""
	for _, c := range "a\x1b(Bb\x1b[1:2 mc\x1b]t\ad\x1bPt\ae\u009bm\x1b[\x7f\né\x1b   x" {
		p.Put(c)
		idle += map[bool]string{true: "i", false: "-"}[p.Idle()]
	}
	if idle != "i--ii------ii---ii---ii-i----i----i" {
		t.Errorf("idle behind each code point: %s", idle)
	}
}

// P11.2: a copy stands as the parser that it was made of, and each goes its own
// way, whatever is begun; one that is copied as a value too.
func TestCopy(t *testing.T) {
	ends := []string{"m", ";5H", "9m", " q", "(x", "tail\a", "\x18", "", "é", "\x1b[4m", "?l", ":m"}
	for name, s := range begun() {
		for _, first := range ends {
			for _, second := range ends {
				p := behind(s)
				c, value := p.Copy(), *p
				if c == p || c.Idle() != p.Idle() {
					t.Fatalf("%s: the copy is none", name)
				}
				for _, x := range []struct {
					p *Parser
					s string
				}{{p, first}, {c, second}, {&value, first}} {
					w := &words{}
					w.all([]rune(s))
					if l, want := putAll(x.p, []rune(x.s)), w.all([]rune(x.s)); !slices.Equal(l, want) {
						t.Fatalf("%s, then %q and %q: %q; want %q", name, first, second, l, want)
					}
					stands(t, name+" and "+x.s, x.p, w)
				}
			}
		}
	}
}

// P11.2: parsers and their copies, each put to as it comes, against the words.
func TestCopies(t *testing.T) {
	r := rand.New(rand.NewSource(4))
	type pair struct {
		p *Parser
		w *words
	}
	all := []pair{{New(), &words{}}}
	for range 30000 {
		x := all[r.Intn(len(all))]
		if r.Intn(10) == 0 {
			other := pair{x.p.Copy(), x.w.copy()}
			if len(all) < 8 {
				all = append(all, other)
			} else {
				all[r.Intn(len(all))] = other
			}
			continue
		}
		for _, c := range anyPoints(r, 1) {
			if l, want := somes(x.p.Put(c)), x.w.put(c); !slices.Equal(l, want) {
				t.Fatalf("Put of %d: %q; want %q", c, l, want)
			}
		}
		for _, x := range all {
			if x.p.Idle() != (x.w.what == 0) {
				t.Fatalf("idle %v", x.p.Idle())
			}
		}
	}
}

// P11.2: a nil parser tells nothing, is idle, and has no copy, ever.
func TestNilParser(t *testing.T) {
	var none *Parser
	for _, c := range append(edges(), []rune("\x1b[1m\x1b]t\a\x18")...) {
		if l := none.Put(c); len(l) > 0 || !none.Idle() || none.Copy() != nil {
			t.Fatalf("Put of %d to a nil parser: %v", c, l)
		}
	}
}

// P11.2: one that New did not make is as New's, and each of New's is one of its
// own.
func TestNotMade(t *testing.T) {
	var zero Parser
	for _, p := range []*Parser{&zero, new(Parser), {}, New(), New(), new(Parser).Copy(), New().Copy()} {
		stands(t, "none of New's", p, &words{})
		if c := p.Copy(); c == nil || c == p || !c.Idle() {
			t.Fatal("no copy")
		}
		tells(t, p, "a\n\x1b[?1;2", false, shown('a'), done(10))
		c := p.Copy()
		tells(t, p, "h", true, csi('?', "", 'h', 1, 2))
		tells(t, c, "3h", true, csi('?', "", 'h', 1, 23))
	}
	a, b := New(), New()
	tells(t, a, "\x1b[1", false)
	tells(t, b, "m", true, shown('m'))
	tells(t, a, "m", true, csi(0, "", 'm', 1))
	for _, c := range edges() {
		w := &words{}
		if l, want := somes(new(Parser).Put(c)), w.put(c); !slices.Equal(l, want) {
			t.Fatalf("Put of %d to one that New did not make: %q; want %q", c, l, want)
		}
	}
}

// Rules: what is handed in stays as it was, the room behind it too; changed
// behind the call, it changes nothing that was told.
func TestArgumentsStay(t *testing.T) {
	room := []rune("-a\x1b[1;2m\x1b]text\a\u0084\x1b[+++")
	room[1] = -5
	was := slices.Clone(room)
	l := Parse(room[1:17])
	want := []string{shown(65533), csi(0, "", 'm', 1, 2), osc("text"), esc("", 'D')}
	if !slices.Equal(room, was) {
		t.Fatalf("what was handed in is %d", room)
	}
	clear(room)
	if told := somes(l); !slices.Equal(told, want) {
		t.Errorf("what was told has changed: %q; want %q", told, want)
	}
}

// overwrite changes all that actions have, the room behind their lists too.
func overwrite(l []api.Action) {
	for _, a := range l {
		clear(a.Params[:cap(a.Params)])
		clear(a.Text[:cap(a.Text)])
	}
	clear(l[:cap(l)])
}

// Rules: what is told is new each time: written over, it changes nothing that is
// told later, and no two lists share anything.
func TestAnswersAreNew(t *testing.T) {
	const s = "a\x1b[1;2;3m\x1b[;;m\x1b(B\x1b]text\a\x1b]other\x1b\\\u009b4m\x1b]c\u0084"
	want := somes(Parse([]rune(s)))
	l, twin := Parse([]rune(s)), Parse([]rune(s))
	overwrite(l)
	if told := somes(twin); !slices.Equal(told, want) {
		t.Errorf("two answers share something: %q", told)
	}
	if told := somes(Parse([]rune(s))); !slices.Equal(told, want) {
		t.Errorf("told later: %q", told)
	}
	for i := range twin {
		overwrite(twin[i : i+1 : i+1])
		if told := somes(twin[i+1:]); !slices.Equal(told, want[i+1:]) {
			t.Fatalf("lists of one answer share something: %q", told)
		}
	}
	p := New()
	var held [][]api.Action
	var told []string
	for _, c := range s {
		l := p.Put(c)
		c := p.Copy()
		overwrite(c.Put('m'))
		overwrite(c.Put('\a'))
		told = append(told, somes(l)...)
		held = append(held, l)
		if len(held) > 3 {
			overwrite(held[len(held)-3])
		}
		_ = append(l, api.Action{})
	}
	if !slices.Equal(told, want) {
		t.Errorf("told, each written over later: %q; want %q", told, want)
	}
}

// P1: every call ends and none panics, at all arguments.
func TestAnyArguments(t *testing.T) {
	var none *Parser
	one := New()
	r := rand.New(rand.NewSource(5))
	l := append(edges(), anyPoints(r, 5000)...)
	for range 5000 {
		l = append(l, rune(r.Uint32()))
	}
	for _, c := range l {
		for _, p := range []*Parser{none, new(Parser), New(), one} {
			p.Put(c)
			p.Idle()
			p.Copy().Put(c)
		}
	}
	Parse(l)
	for _, s := range []string{"\x1b", "\x1b[", "\x1b]", "\x1bP"} {
		for c := rune(0); c <= 160; c++ {
			Parse(append([]rune(s), slices.Repeat([]rune{c}, 3000)...))
		}
	}
}
