package num_test

import (
	"math"
	"math/big"
	"testing"

	"cloakroom/num"
)

// edges are numbers at which halves, carries and signs change.
func edges() []uint64 {
	return []uint64{
		0, 1, 2, 3, 7, 10, 1000,
		1<<31 - 1, 1 << 31, 1<<31 + 1,
		1<<32 - 1, 1 << 32, 1<<32 + 1,
		1<<33 - 1, 1 << 48, 0xFFFF_FFFE_0000_0001, 0x1234_5678_9ABC_DEF0,
		1<<63 - 1, 1 << 63, 1<<63 + 1,
		math.MaxUint64 - 1<<32, math.MaxUint64 - 1, math.MaxUint64,
	}
}

// mixer draws the same numbers in every run.
type mixer struct{ state uint64 }

func (m *mixer) next() uint64 {
	m.state += 0x9E3779B97F4A7C15
	z := m.state
	z = (z ^ z>>30) * 0xBF58476D1CE4E5B9
	z = (z ^ z>>27) * 0x94D049BB133111EB
	return z ^ z>>31
}

// some draws a number of any width, so that small ones are not rare.
func (m *mixer) some() uint64 { return m.next() >> (m.next() % 64) }

func bigProduct(a, b uint64) *big.Int {
	return new(big.Int).Mul(new(big.Int).SetUint64(a), new(big.Int).SetUint64(b))
}

func checkCross(t *testing.T, a, b, c, d uint64) {
	t.Helper()
	want := bigProduct(a, b).Cmp(bigProduct(c, d))
	if got := num.Cross(a, b, c, d); got != want {
		t.Errorf("Cross(%d, %d, %d, %d) = %d, want %d", a, b, c, d, got, want)
	}
}

// P1.1: ordinary products.
func TestCrossOrdinary(t *testing.T) {
	rows := []struct {
		a, b, c, d uint64
		want       int
	}{
		{2, 3, 1, 7, -1},
		{2, 3, 6, 1, 0},
		{2, 4, 1, 7, 1},
		{0, 9, 5, 0, 0},
		{0, math.MaxUint64, 1, 1, -1},
		{1, 1, math.MaxUint64, 0, 1},
		{100, 300, 300, 100, 0},
	}
	for _, r := range rows {
		if got := num.Cross(r.a, r.b, r.c, r.d); got != r.want {
			t.Errorf("Cross(%d, %d, %d, %d) = %d, want %d", r.a, r.b, r.c, r.d, got, r.want)
		}
	}
}

// P1.1: products beyond 64 bits are exact.
func TestCrossBeyond64Bits(t *testing.T) {
	const all = math.MaxUint64
	rows := []struct {
		a, b, c, d uint64
		want       int
	}{
		{1 << 32, 1 << 32, 0, 0, 1},         // lower 64 bits alike
		{1 << 63, 2, 1, 0, 1},               // 2^64
		{1 << 63, 2, 1, all, 1},             // 2^64 and 2^64 - 1
		{all, all, all, all - 1, 1},         // nearly 2^128
		{all, all, all, all, 0},             //
		{all - 1, all - 1, all, all - 2, 1}, // alike but for 1
		{1 << 40, 1 << 40, 1 << 41, 1 << 39, 0},
		{1 << 33, 1 << 33, 1<<33 + 1, 1<<33 - 1, 1},
		{1<<32 + 1, 1<<32 - 1, all, 1, 0},
	}
	for _, r := range rows {
		if got := num.Cross(r.a, r.b, r.c, r.d); got != r.want {
			t.Errorf("Cross(%d, %d, %d, %d) = %d, want %d", r.a, r.b, r.c, r.d, got, r.want)
		}
	}
}

// P1.1: Cross against whole numbers without a bound, on edges and on drawn numbers.
func TestCrossAgainstBig(t *testing.T) {
	l := []uint64{
		0, 1, 1<<32 - 1, 1 << 32, 1<<32 + 1, 0xFFFF_FFFE_0000_0001,
		1<<63 - 1, 1 << 63, math.MaxUint64 - 1, math.MaxUint64,
	}
	for _, a := range l {
		for _, b := range l {
			for _, c := range l {
				for _, d := range l {
					checkCross(t, a, b, c, d)
				}
			}
		}
	}
	m := &mixer{state: 1}
	for range 20000 {
		a, b, c, d := m.some(), m.some(), m.some(), m.some()
		checkCross(t, a, b, c, d)
		checkCross(t, a, b, b, a)
		checkCross(t, a, b, a, b+1)
	}
}

// P1.1: Mask from 0 to 64 bits.
func TestMask(t *testing.T) {
	want := uint64(0)
	for k := 0; k <= 64; k++ {
		if got := num.Mask(k); got != want {
			t.Errorf("Mask(%d) = %x, want %x", k, got, want)
		}
		want = want*2 + 1
	}
	if num.Mask(4) != 15 || num.Mask(64) != math.MaxUint64 || num.Mask(0) != 0 {
		t.Error("Mask(4), Mask(64), Mask(0)")
	}
}

// P1.1: Mask of a k below 0 or above 64 is 0.
func TestMaskWrong(t *testing.T) {
	for _, k := range []int{-1, -2, -63, -64, -65, math.MinInt, 65, 66, 127, 128, 256, 1 << 32, 1<<32 + 4, math.MaxInt} {
		if got := num.Mask(k); got != 0 {
			t.Errorf("Mask(%d) = %x, want 0", k, got)
		}
	}
}

// P1.1: Width counts the bits without leading zeros.
func TestWidth(t *testing.T) {
	if got := num.Width(0); got != 0 {
		t.Errorf("Width(0) = %d", got)
	}
	for k := range 64 {
		least, most := uint64(1)<<k, uint64(math.MaxUint64)>>(63-k)
		for _, n := range []uint64{least, most, least | 1} {
			if got := num.Width(n); got != k+1 {
				t.Errorf("Width(%x) = %d, want %d", n, got, k+1)
			}
		}
	}
	for k := 0; k <= 64; k++ {
		if got := num.Width(num.Mask(k)); got != k {
			t.Errorf("Width(Mask(%d)) = %d", k, got)
		}
	}
}

func bigScale(x uint64, n int) int {
	return int(new(big.Int).Rsh(bigProduct(x, uint64(n)), 64).Int64())
}

// P1.2: Scale of ordinary numbers and at its bounds.
func TestScale(t *testing.T) {
	const all = math.MaxUint64
	rows := []struct {
		x       uint64
		n, want int
	}{
		{1 << 63, 10, 5},
		{1<<63 - 1, 10, 4},
		{0, 10, 0},
		{all, 10, 9},
		{all, 1, 0},
		{1 << 63, 1, 0},
		{1 << 62, 4, 1},
		{1<<62 - 1, 4, 0},
		{all, 1 << 31, 1<<31 - 1},
		{1 << 63, 1 << 31, 1 << 30},
		{1 << 33, 1 << 31, 1},
		{1<<33 - 1, 1 << 31, 0},
		{all, 1<<31 - 1, 1<<31 - 2},
	}
	for _, r := range rows {
		if got := num.Scale(r.x, r.n); got != r.want {
			t.Errorf("Scale(%d, %d) = %d, want %d", r.x, r.n, got, r.want)
		}
	}
}

// P1.2: Scale against whole numbers without a bound.
func TestScaleAgainstBig(t *testing.T) {
	check := func(x uint64, n int) {
		t.Helper()
		if got, want := num.Scale(x, n), bigScale(x, n); got != want {
			t.Errorf("Scale(%d, %d) = %d, want %d", x, n, got, want)
		}
	}
	for _, x := range edges() {
		for _, n := range []int{1, 2, 3, 10, 64, 65535, 65536, 1<<31 - 1, 1 << 31} {
			check(x, n)
		}
	}
	m := &mixer{state: 2}
	for range 20000 {
		check(m.some(), 1+int(m.some()%(1<<31)))
	}
}

// P1.2: Scale of an n outside of 1 to 2^31 is 0.
func TestScaleWrong(t *testing.T) {
	for _, n := range []int{0, -1, -10, -1 << 31, math.MinInt, 1<<31 + 1, 1 << 32, 1<<32 + 10, 1 << 62, math.MaxInt} {
		for _, x := range []uint64{0, 1, 1 << 63, math.MaxUint64} {
			if got := num.Scale(x, n); got != 0 {
				t.Errorf("Scale(%d, %d) = %d, want 0", x, n, got)
			}
		}
	}
}

// P1.2: Round of ordinary, negative and extreme numbers.
func TestRound(t *testing.T) {
	rows := []struct{ n, m, want int }{
		{7, 5, 2}, {5, 5, 0}, {0, 5, 0}, {4, 5, 4}, {6, 5, 1},
		{-1, 5, 4}, {-4, 5, 1}, {-5, 5, 0}, {-6, 5, 4}, {-10, 5, 0},
		{3, 1, 0}, {-3, 1, 0}, {0, 1, 0},
		{-1, math.MaxInt, math.MaxInt - 1},
		{math.MaxInt, math.MaxInt, 0},
		{math.MaxInt - 1, math.MaxInt, math.MaxInt - 1},
		{math.MinInt, 1, 0},
		{math.MinInt, 2, 0},
		{math.MinInt, 3, 1},
		{math.MinInt, math.MaxInt, math.MaxInt - 1},
		{math.MaxInt, 2, 1},
	}
	for _, r := range rows {
		if got := num.Round(r.n, r.m); got != r.want {
			t.Errorf("Round(%d, %d) = %d, want %d", r.n, r.m, got, r.want)
		}
	}
}

// P1.2: Round against the remainder of Euclid.
func TestRoundAgainstBig(t *testing.T) {
	m := &mixer{state: 3}
	for range 20000 {
		n, by := int(m.next())>>(m.next()%64), 1+int(m.some()>>1)%math.MaxInt
		want := int(new(big.Int).Mod(big.NewInt(int64(n)), big.NewInt(int64(by))).Int64())
		if got := num.Round(n, by); got != want {
			t.Errorf("Round(%d, %d) = %d, want %d", n, by, got, want)
		}
	}
}

// P1.2: Round of an m below 1 is 0.
func TestRoundWrong(t *testing.T) {
	for _, m := range []int{0, -1, -2, -5, math.MinInt} {
		for _, n := range []int{0, 1, 7, -1, -7, math.MaxInt, math.MinInt} {
			if got := num.Round(n, m); got != 0 {
				t.Errorf("Round(%d, %d) = %d, want 0", n, m, got)
			}
		}
	}
}

// P1.2: Ahead counts forward and wraps around at 2^32.
func TestAhead(t *testing.T) {
	const last = 1<<32 - 1
	rows := []struct {
		from, to uint32
		want     int
	}{
		{3, 10, 7}, {10, 3, last - 6}, {0, 0, 0}, {last, last, 0},
		{last, 0, 1}, {last, 1, 2}, {0, last, last}, {1, 0, last},
		{0, 1 << 31, 1 << 31}, {1 << 31, 0, 1 << 31},
		{1<<31 - 1, 1 << 31, 1}, {1 << 31, 1<<31 - 1, last},
	}
	for _, r := range rows {
		if got := num.Ahead(r.from, r.to); got != r.want {
			t.Errorf("Ahead(%d, %d) = %d, want %d", r.from, r.to, got, r.want)
		}
	}
	m := &mixer{state: 4}
	for range 20000 {
		from, to := uint32(m.next()), uint32(m.next())
		if got, want := num.Ahead(from, to), num.Round(int(to)-int(from), 1<<32); got != want {
			t.Errorf("Ahead(%d, %d) = %d, want %d", from, to, got, want)
		}
	}
}

// P1.3: exchanging the two products negates the result of Cross.
func TestCrossExchanged(t *testing.T) {
	check := func(a, b, c, d uint64) {
		t.Helper()
		if x, y := num.Cross(a, b, c, d), num.Cross(c, d, a, b); x != -y {
			t.Errorf("Cross(%d, %d, %d, %d) = %d, exchanged %d", a, b, c, d, x, y)
		}
	}
	l := edges()
	for i, a := range l {
		for j, b := range l {
			for k := range l {
				check(a, b, l[k], l[(i+j+k)%len(l)])
			}
		}
	}
	m := &mixer{state: 5}
	for range 20000 {
		check(m.some(), m.some(), m.some(), m.some())
	}
}

// P1.3: Scale does not decrease when x increases.
func TestScaleDoesNotDecrease(t *testing.T) {
	check := func(x, y uint64, n int) {
		t.Helper()
		x, y = min(x, y), max(x, y)
		if num.Scale(x, n) > num.Scale(y, n) {
			t.Errorf("Scale(%d, %d) > Scale(%d, %d)", x, n, y, n)
		}
	}
	sizes := []int{math.MinInt, -1, 0, 1, 2, 3, 7, 1000, 1<<31 - 1, 1 << 31, 1<<31 + 1, math.MaxInt}
	for _, n := range sizes {
		for _, x := range edges() {
			for _, y := range edges() {
				check(x, y, n)
			}
			check(x, max(x, x+1), n)
		}
	}
	m := &mixer{state: 6}
	for range 20000 {
		x, n := m.some(), 1+int(m.some()%(1<<31))
		check(x, m.some(), n)
		check(x, max(x, x+1), n)
		// The places where the result steps up.
		step := uint64(math.MaxUint64)/uint64(n)*(m.next()%uint64(n)) + 1
		check(step-1, step, n)
	}
}
