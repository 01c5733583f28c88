package rtt

import (
	"math"
	"math/big"
	"math/rand"
	"slices"
	"testing"

	"oriel/api"
)

const (
	most = 1 << 30     // the greatest Many
	full = 8*60000 + 7 // the greatest Mid, and the greatest Off
)

// none is a meter that has heard none.
var none = api.Meter{}

// manys, sums and samples are numbers at the edges of what may be, of both
// sides, and the least and the greatest int.
func manys() []int {
	return []int{math.MinInt, -most, -2, -1, 0, 1, 2, 1000, most - 1, most, most + 1, math.MaxInt}
}

func sums() []int {
	return []int{math.MinInt, -full, -8, -1, 0, 1, 7, 8, 50, 800, 479999, full - 1, full, full + 1, full + 8, math.MaxInt}
}

func samples() []int {
	return []int{math.MinInt, -60000, -2, -1, 0, 1, 2, 100, 59999, 60000, 60001, 60002, 480000, math.MaxInt}
}

// good are those of samples that may be one, bad the others.
func good() []int { return []int{0, 1, 2, 100, 59999, 60000} }

func bad() []int {
	return slices.DeleteFunc(samples(), func(s int) bool { return slices.Contains(good(), s) })
}

// meters are all of manys and sums, and so of the chapter's edges, together.
func meters() []api.Meter {
	var l []api.Meter
	for _, many := range manys() {
		for _, mid := range sums() {
			for _, off := range sums() {
				l = append(l, api.Meter{Many: many, Mid: mid, Off: off})
			}
		}
	}
	return l
}

// mayInWords tells what the chapter says of a meter.
func mayInWords(m api.Meter) bool {
	switch {
	case m.Many < 0 || m.Many > 1073741824:
		return false
	case m.Mid < 0 || m.Mid > 480007 || m.Off < 0 || m.Off > 480007:
		return false
	case m.Many == 0 && (m.Mid != 0 || m.Off != 0):
		return false
	}
	return true
}

// those are meters that may be, others that may not.
func those() []api.Meter {
	return slices.DeleteFunc(meters(), func(m api.Meter) bool { return !mayInWords(m) })
}

func others() []api.Meter { return slices.DeleteFunc(meters(), mayInWords) }

// behindInWords is a meter behind a sample, by numbers that know no bounds and
// by a division that rounds down whatever the signs.
func behindInWords(m api.Meter, s int) api.Meter {
	if m.Many == 0 {
		return api.Meter{Many: 1, Mid: 8 * s, Off: 2 * s}
	}
	of := func(n int) *big.Int { return big.NewInt(int64(n)) }
	down := func(n *big.Int, by int) *big.Int { return new(big.Int).Div(n, of(by)) }
	d := new(big.Int).Sub(of(s), down(of(m.Mid), 8))
	mid := new(big.Int).Add(of(m.Mid), d)
	off := new(big.Int).Sub(of(m.Off), down(of(m.Off), 4))
	off.Add(off, new(big.Int).Abs(d))
	if off.Cmp(of(full)) > 0 {
		off = of(full)
	}
	many := new(big.Int).Add(of(m.Many), of(1))
	if many.Cmp(of(most)) > 0 {
		many = of(most)
	}
	return api.Meter{Many: int(many.Int64()), Mid: int(mid.Int64()), Off: int(off.Int64())}
}

// heard is what Hear tells of samples that may be.
func heard(t *testing.T, m api.Meter, l ...int) api.Meter {
	t.Helper()
	got, err := Hear(m, l...)
	if err != api.OK || !May(got) {
		t.Fatalf("Hear of %v, %v: %v, error %d", m, l, got, err)
	}
	return got
}

// hears holds what Hear tells of samples that may be.
func hears(t *testing.T, want, m api.Meter, l ...int) {
	t.Helper()
	if got := heard(t, m, l...); got != want {
		t.Errorf("Hear of %v, %v: %v, want %v", m, l, got, want)
	}
}

// refuses holds that Hear tells ErrArg, and nothing beside it.
func refuses(t *testing.T, m api.Meter, l ...int) {
	t.Helper()
	if got, err := Hear(m, l...); got != none || err != api.ErrArg {
		t.Errorf("Hear of %v, %v: %v, error %d, want ErrArg", m, l, got, err)
	}
}

// waits holds a meter's mean and wait.
func waits(t *testing.T, m api.Meter, mean, wait int) {
	t.Helper()
	if got := Mean(m); got != mean {
		t.Errorf("Mean of %v: %d, want %d", m, got, mean)
	}
	if got := Wait(m); got != wait {
		t.Errorf("Wait of %v: %d, want %d", m, got, wait)
	}
}

// The examples.
func TestExamples(t *testing.T) {
	first := api.Meter{Many: 1, Mid: 800, Off: 200}
	hears(t, first, none, 100)
	waits(t, first, 100, 300)
	hears(t, api.Meter{Many: 2, Mid: 880, Off: 230}, first, 180)
	if got := Wait(none); got != 1000 {
		t.Errorf("Wait of none: %d", got)
	}
	if got := Wait(api.Meter{Many: 1}); got != 50 {
		t.Errorf("Wait of {1, 0, 0}: %d", got)
	}
	refuses(t, none, -1)
	refuses(t, none, 60001)
}

// P7.1: each field at its edges, the others as they may be.
func TestMayEdges(t *testing.T) {
	for _, m := range []api.Meter{
		{}, {Many: 1}, {Many: 1, Mid: 1}, {Many: 1, Off: 1}, {Many: 1, Mid: 480007}, {Many: 1, Off: 480007},
		{Many: 1, Mid: 480007, Off: 480007}, {Many: 1073741823, Mid: 5, Off: 5}, {Many: 1073741824},
		{Many: 1073741824, Mid: 480007, Off: 480007}, {Many: 7, Mid: 0, Off: 3}, {Many: 7, Mid: 3, Off: 0},
	} {
		if !May(m) {
			t.Errorf("%v may not be", m)
		}
	}
	for _, m := range []api.Meter{
		{Many: -1}, {Many: -1, Mid: 8, Off: 8}, {Many: 1073741825}, {Many: 1073741825, Mid: 8, Off: 8},
		{Mid: 1}, {Off: 1}, {Mid: 800, Off: 200}, {Mid: -1}, {Off: -1}, {Mid: 1, Off: -1}, {Mid: 480008},
		{Many: 1, Mid: -1}, {Many: 1, Off: -1}, {Many: 1, Mid: 480008}, {Many: 1, Off: 480008},
		{Many: 1, Mid: 480008, Off: 480008}, {Many: 1, Mid: -1, Off: 480008}, {Many: 1, Mid: 480008, Off: -1},
		{Many: math.MinInt}, {Many: math.MaxInt}, {Many: 1, Mid: math.MinInt}, {Many: 1, Mid: math.MaxInt},
		{Many: 1, Off: math.MinInt}, {Many: 1, Off: math.MaxInt},
	} {
		if May(m) {
			t.Errorf("%v may be", m)
		}
	}
}

// P7.1: all edges of all fields together, by the chapter's words.
func TestMayInWords(t *testing.T) {
	for _, m := range meters() {
		if got, want := May(m), mayInWords(m); got != want {
			t.Errorf("May of %v: %t", m, got)
		}
	}
}

// P7.2: no sample at all: a meter that may be stays as it is, one that may not
// is refused.
func TestHearNoSample(t *testing.T) {
	for _, m := range those() {
		hears(t, m, m)
		hears(t, m, m, []int{}...)
	}
	for _, m := range others() {
		refuses(t, m)
		refuses(t, m, []int{}...)
	}
}

// P7.2: the first sample, of all that may be.
func TestHearFirst(t *testing.T) {
	hears(t, api.Meter{Many: 1}, none, 0)
	hears(t, api.Meter{Many: 1, Mid: 8, Off: 2}, none, 1)
	hears(t, api.Meter{Many: 1, Mid: 480000, Off: 120000}, none, 60000)
	for s := range 60001 {
		hears(t, api.Meter{Many: 1, Mid: 8 * s, Off: 2 * s}, none, s)
	}
}

// P7.2: the samples behind it, reckoned by hand: above the mean, below it, and
// as it is; what the divisions leave; the second one behind a first one of 0.
func TestHearOthers(t *testing.T) {
	for _, x := range []struct {
		m    api.Meter
		s    int
		want api.Meter
	}{
		{api.Meter{Many: 1, Mid: 800, Off: 200}, 180, api.Meter{Many: 2, Mid: 880, Off: 230}},
		{api.Meter{Many: 1, Mid: 800, Off: 200}, 20, api.Meter{Many: 2, Mid: 720, Off: 230}},
		{api.Meter{Many: 1, Mid: 800, Off: 200}, 100, api.Meter{Many: 2, Mid: 800, Off: 150}},
		{api.Meter{Many: 2, Mid: 880, Off: 230}, 0, api.Meter{Many: 3, Mid: 770, Off: 283}},
		{api.Meter{Many: 5, Mid: 807, Off: 203}, 99, api.Meter{Many: 6, Mid: 806, Off: 154}},
		{api.Meter{Many: 5, Mid: 807, Off: 203}, 101, api.Meter{Many: 6, Mid: 808, Off: 154}},
		{api.Meter{Many: 5, Mid: 7, Off: 3}, 0, api.Meter{Many: 6, Mid: 7, Off: 3}},
		{api.Meter{Many: 5, Mid: 8, Off: 4}, 0, api.Meter{Many: 6, Mid: 7, Off: 4}},
		{api.Meter{Many: 5, Mid: 15, Off: 5}, 0, api.Meter{Many: 6, Mid: 14, Off: 5}},
		{api.Meter{Many: 1}, 0, api.Meter{Many: 2}},
		{api.Meter{Many: 1}, 60000, api.Meter{Many: 2, Mid: 60000, Off: 60000}},
		{api.Meter{Many: 1, Mid: 480000, Off: 120000}, 0, api.Meter{Many: 2, Mid: 420000, Off: 150000}},
		{api.Meter{Many: 1, Mid: 480000, Off: 120000}, 60000, api.Meter{Many: 2, Mid: 480000, Off: 90000}},
	} {
		hears(t, x.want, x.m, x.s)
	}
}

// P7.2: all edges of meters behind one sample, by the chapter's words.
func TestHearEdges(t *testing.T) {
	for _, m := range those() {
		for _, s := range good() {
			hears(t, behindInWords(m, s), m, s)
		}
	}
}

// P7.2: any meters and samples, one after the other, by the chapter's words.
func TestHearInWords(t *testing.T) {
	r := rand.New(rand.NewSource(7))
	for range 3000 {
		m := api.Meter{Many: 1 + r.Intn(most), Mid: r.Intn(full + 1), Off: r.Intn(full + 1)}
		if r.Intn(3) == 0 {
			m = none
		}
		l := make([]int, r.Intn(8))
		want := m
		for i := range l {
			l[i] = r.Intn(60001) >> r.Intn(16)
			want = behindInWords(want, l[i])
		}
		hears(t, want, m, l...)
	}
}

// P7.2: a number that is no sample, the first, the last and in the middle, of a
// meter that has heard some and of one that has not: nothing is heard.
func TestHearRefuses(t *testing.T) {
	for _, m := range []api.Meter{none, {Many: 1}, {Many: 9, Mid: 800, Off: 200}, {Many: most, Mid: full, Off: full}} {
		for _, s := range bad() {
			refuses(t, m, s)
			refuses(t, m, s, 1, 2)
			refuses(t, m, 1, s, 2)
			refuses(t, m, 1, 2, s)
			refuses(t, m, s, s)
			refuses(t, m, 0, 60000, 5, 5, 5, 5, s, 5, 5, 5, 5)
		}
		for _, s := range good() {
			heard(t, m, s, 1, 2)
			heard(t, m, 1, s, 2)
			heard(t, m, 1, 2, s)
		}
	}
}

// P7.2: a meter that may not be hears nothing, neither what is a sample nor
// what is none.
func TestHearOfNoMeter(t *testing.T) {
	for _, m := range others() {
		for _, s := range []int{-1, 0, 100, 60000, 60001} {
			refuses(t, m, s)
		}
		refuses(t, m, 1, 2, 3)
	}
}

// P7.2: what Many becomes: one more a sample, and 2^30 at most; what is heard
// behind that tells all the same.
func TestMany(t *testing.T) {
	for _, x := range []struct{ many, samples, want int }{
		{0, 0, 0}, {0, 1, 1}, {0, 2, 2}, {0, 300, 300}, {1, 0, 1}, {1, 1, 2}, {1, 2, 3},
		{most - 2, 1, most - 1}, {most - 1, 0, most - 1}, {most - 1, 1, most}, {most - 1, 2, most},
		{most - 3, 300, most}, {most, 0, most}, {most, 1, most}, {most, 300, most},
	} {
		m := api.Meter{Many: x.many}
		if got := heard(t, m, make([]int, x.samples)...); got.Many != x.want {
			t.Errorf("%d and %d more: %d, want %d", x.many, x.samples, got.Many, x.want)
		}
	}
	hears(t, api.Meter{Many: most, Mid: 880, Off: 230}, api.Meter{Many: most, Mid: 800, Off: 200}, 180)
	refuses(t, api.Meter{Many: most + 1, Mid: 800, Off: 200}, 180)
}

// P7.2: Mid and Off at their greatest, and behind samples that bring them as far
// up as can be: they stay what they may be. No sample brings Off beyond 420006.
func TestGreatest(t *testing.T) {
	top := api.Meter{Many: 3, Mid: full, Off: full}
	hears(t, api.Meter{Many: 4, Mid: full, Off: 360006}, top, 60000)
	hears(t, api.Meter{Many: 4, Mid: 420007, Off: 420006}, top, 0)
	hears(t, api.Meter{Many: 4, Mid: 60000, Off: 420006}, api.Meter{Many: 3, Off: full}, 60000)
	for off := range full + 1 {
		up := heard(t, api.Meter{Many: 3, Off: off}, 60000)
		down := heard(t, api.Meter{Many: 3, Mid: full, Off: off}, 0)
		if want := off - off/4 + 60000; up.Off != want || down.Off != want || want > full {
			t.Fatalf("Off of %d: %d and %d, want %d", off, up.Off, down.Off, want)
		}
	}
	for mid := range full + 1 {
		m := heard(t, api.Meter{Many: 3, Mid: mid, Off: full}, 60000)
		if m.Mid != mid+60000-mid/8 || m.Mid > full {
			t.Fatalf("Mid of %d: %d", mid, m.Mid)
		}
	}
}

// P7.2: what goes beyond the bounds is brought into them, each field by its own.
func TestBrought(t *testing.T) {
	for _, x := range []struct{ m, want api.Meter }{
		{api.Meter{Many: 2, Mid: 5, Off: full + 1}, api.Meter{Many: 2, Mid: 5, Off: full}},
		{api.Meter{Many: 2, Mid: 5, Off: math.MaxInt}, api.Meter{Many: 2, Mid: 5, Off: full}},
		{api.Meter{Many: most + 1, Mid: 5, Off: full}, api.Meter{Many: most, Mid: 5, Off: full}},
		{api.Meter{Many: 2, Mid: full + 1, Off: 3}, api.Meter{Many: 2, Mid: full, Off: 3}},
		{api.Meter{Many: -1, Mid: -1, Off: -1}, none},
	} {
		if got := brought(x.m); got != x.want {
			t.Errorf("%v is brought to %v, want %v", x.m, got, x.want)
		}
	}
}

// P7.3: the mean rounds down; 0 of what may not be.
func TestMean(t *testing.T) {
	for _, x := range []struct{ mid, want int }{
		{0, 0}, {1, 0}, {7, 0}, {8, 1}, {15, 1}, {16, 2}, {800, 100}, {807, 100}, {808, 101},
		{479999, 59999}, {480000, 60000}, {480007, 60000},
	} {
		for _, many := range []int{1, 2, most} {
			for _, off := range []int{0, 1, full} {
				if got := Mean(api.Meter{Many: many, Mid: x.mid, Off: off}); got != x.want {
					t.Errorf("Mean of %d, %d, %d: %d, want %d", many, x.mid, off, got, x.want)
				}
			}
		}
	}
	if got := Mean(none); got != 0 {
		t.Errorf("Mean of none: %d", got)
	}
	for _, m := range others() {
		if got := Mean(m); got != 0 {
			t.Errorf("Mean of %v, which may not be: %d", m, got)
		}
	}
}

// P7.3: waits that come to less than 50, to just that, to just 1000, and to more.
func TestWait(t *testing.T) {
	for _, x := range []struct{ mid, off, want int }{
		{0, 0, 50}, {0, 1, 50}, {0, 49, 50}, {0, 50, 50}, {0, 51, 51}, {7, 49, 50}, {7, 51, 51},
		{8, 0, 50}, {8, 48, 50}, {8, 49, 50}, {8, 50, 51}, {392, 0, 50}, {399, 0, 50}, {400, 0, 50},
		{408, 0, 51}, {400, 1, 51}, {800, 200, 300}, {807, 200, 300}, {808, 200, 301}, {880, 230, 340},
		{0, 999, 999}, {0, 1000, 1000}, {0, 1001, 1000}, {7992, 0, 999}, {7999, 0, 999}, {8000, 0, 1000},
		{8007, 0, 1000}, {8008, 0, 1000}, {4000, 499, 999}, {4000, 500, 1000}, {4007, 500, 1000},
		{4000, 501, 1000}, {480000, 1, 1000}, {1, 480007, 1000}, {480007, 480007, 1000},
	} {
		for _, many := range []int{1, 2, most} {
			waits(t, api.Meter{Many: many, Mid: x.mid, Off: x.off}, x.mid/8, x.want)
		}
	}
}

// P7.3: 1000 of a meter that has heard none, and of what may not be.
func TestWaitOfNone(t *testing.T) {
	waits(t, none, 0, 1000)
	for _, m := range others() {
		waits(t, m, 0, 1000)
	}
}

// P7.3, P7.4: a wait's bounds, and the mean that it is not below, of all edges.
func TestWaitBounds(t *testing.T) {
	for _, m := range meters() {
		mean, wait := Mean(m), Wait(m)
		if wait < 50 || wait > 1000 || mean <= 1000 && wait < mean {
			t.Errorf("%v: the mean %d, the wait %d", m, mean, wait)
		}
	}
	r := rand.New(rand.NewSource(73))
	for range 10000 {
		m := api.Meter{Many: 1 + r.Intn(most), Mid: r.Intn(full+1) >> r.Intn(20), Off: r.Intn(full+1) >> r.Intn(20)}
		waits(t, m, m.Mid/8, min(max(m.Mid/8+m.Off, 50), 1000))
	}
}

// between holds that the mean is between the least and the greatest sample, and
// what hangs on it.
func between(t *testing.T, l []int) {
	t.Helper()
	m := heard(t, none, l...)
	mean, wait := Mean(m), Wait(m)
	if mean < slices.Min(l) || mean > slices.Max(l) {
		t.Fatalf("the mean of %v: %d", l, mean)
	}
	if wait < 50 || wait > 1000 || mean <= 1000 && wait < mean {
		t.Fatalf("the wait of %v: %d; the mean %d", l, wait, mean)
	}
}

// P7.4: the mean lies between the least and the greatest sample: of all short
// runs of few samples, and of any long ones.
func TestBetween(t *testing.T) {
	few := []int{0, 1, 2, 7, 8, 9, 59999, 60000}
	for _, a := range few {
		for _, b := range few {
			for _, c := range few {
				between(t, []int{a})
				between(t, []int{a, b})
				between(t, []int{a, b, c})
				between(t, []int{a, a, a, a, b, b, b, b, b, c})
			}
		}
	}
	r := rand.New(rand.NewSource(74))
	for range 2000 {
		least := r.Intn(60001)
		width := 1 + r.Intn(60001-least)>>r.Intn(16)
		l := make([]int, 1+r.Intn(200))
		for i := range l {
			l[i] = least + r.Intn(width)
		}
		between(t, l)
	}
}

// P7.4: samples that are all alike: the mean is as they are, from the first on.
func TestAlike(t *testing.T) {
	for _, s := range []int{0, 1, 49, 50, 100, 999, 1000, 1001, 60000} {
		m := none
		for range 100 {
			m = heard(t, m, s)
			if Mean(m) != s {
				t.Fatalf("the mean of %d each time: %d", s, Mean(m))
			}
		}
	}
}

// P7.4: a long run of a sample brings the mean to it, within what division
// leaves, from any meter.
func TestComes(t *testing.T) {
	for _, m := range those() {
		if m.Many == 0 {
			continue
		}
		for _, s := range []int{0, 100, 60000} {
			if got := Mean(heard(t, m, slices.Repeat([]int{s}, 200)...)); got != s {
				t.Errorf("%v behind 200 of %d: the mean is %d", m, s, got)
			}
		}
	}
}

// P7.4: what is heard in two parts is as what is heard at once, wherever it is
// parted, and one by one.
func TestParts(t *testing.T) {
	r := rand.New(rand.NewSource(75))
	for _, m := range []api.Meter{none, {Many: 1}, {Many: 9, Mid: 807, Off: 203}, {Many: most - 5, Mid: full, Off: full}, {Many: most}} {
		l := make([]int, 40)
		for i := range l {
			l[i] = r.Intn(60001) >> r.Intn(16)
		}
		whole := heard(t, m, l...)
		single := m
		for at := range len(l) + 1 {
			hears(t, whole, heard(t, m, l[:at]...), l[at:]...)
			hears(t, single, m, l[:at]...)
			if at < len(l) {
				single = heard(t, single, l[at])
			}
		}
	}
}

// P7.2: samples in another order make another meter: they are heard one after
// the other.
func TestOrder(t *testing.T) {
	hears(t, api.Meter{Many: 2, Mid: 880, Off: 230}, none, 100, 180)
	hears(t, api.Meter{Many: 2, Mid: 1360, Off: 350}, none, 180, 100)
}

// P1: every call ends and none panics, at all edges together; with an error
// nothing beside it is told.
func TestAnyArguments(t *testing.T) {
	for _, m := range meters() {
		for _, s := range samples() {
			got, err := Hear(m, s)
			if mayInWords(m) && slices.Contains(good(), s) {
				if err != api.OK || !mayInWords(got) {
					t.Errorf("Hear of %v, %d: %v, error %d", m, s, got, err)
				}
			} else if got != none || err != api.ErrArg {
				t.Errorf("Hear of %v, %d: %v, error %d", m, s, got, err)
			}
		}
	}
	r := rand.New(rand.NewSource(71))
	for range 20000 {
		number := func() int { return int(r.Uint64()) >> r.Intn(64) }
		m := api.Meter{Many: number(), Mid: number(), Off: number()}
		if May(m) != mayInWords(m) {
			t.Fatalf("May of %v: %t", m, May(m))
		}
		if got, err := Hear(m, number(), number()); err != api.OK && got != none {
			t.Fatalf("Hear of %v: %v beside error %d", m, got, err)
		}
		if mean, wait := Mean(m), Wait(m); mean < 0 || mean > 60000 || wait < 50 || wait > 1000 {
			t.Fatalf("%v: the mean %d, the wait %d", m, mean, wait)
		}
	}
}

// Rules: what is handed in stays as it was, the room behind it too; where an
// error is told likewise. The same is told each time.
func TestArgumentsStay(t *testing.T) {
	for _, wrong := range []int{3, -1, 60001} {
		room := []int{9, 8, 100, 180, wrong, 0, 7, 6, 5}
		l := room[2:6]
		m := api.Meter{Many: 4, Mid: 800, Off: 200}
		want := slices.Clone(room)
		first, err := Hear(m, l...)
		if !slices.Equal(room, want) || m != (api.Meter{Many: 4, Mid: 800, Off: 200}) {
			t.Errorf("Hear changed what was handed in: %v, %v", room, m)
		}
		for range 3 {
			May(m)
			Mean(m)
			Wait(m)
			if got, e := Hear(m, l...); got != first || e != err {
				t.Errorf("Hear of %v, %v: %v, error %d; ahead %v, error %d", m, l, got, e, first, err)
			}
		}
		if !slices.Equal(room, want) {
			t.Errorf("Hear changed what was handed in: %v", room)
		}
	}
}
