package num

import (
	"math"
	"math/big"
	"math/rand"
	"slices"
	"testing"

	"bailey/api"
)

const (
	zeroBits      = uint64(0)
	minusZeroBits = uint64(1) << 63
	oneBits       = uint64(0x3FF0000000000000)
	twoBits       = uint64(0x4000000000000000)
	plusInfBits   = uint64(0x7FF0000000000000)
	minusInfBits  = uint64(0xFFF0000000000000)
	leastBits     = uint64(1)
	lastSubBits   = uint64(0x000FFFFFFFFFFFFF) // the greatest below the normal ones
	firstNormBits = uint64(0x0010000000000000)
	greatestBits  = uint64(0x7FEFFFFFFFFFFFFF)
	noNumberBits  = uint64(0x7FF8000000000001)
)

// inOrder: samples of all kinds, each ahead of the next one (P1.3), but for what is no number.
func inOrder() []uint64 {
	above := []uint64{leastBits, 2, lastSubBits, firstNormBits, oneBits - 1, oneBits, oneBits + 1, twoBits, greatestBits - 1, greatestBits, plusInfBits}
	var l []uint64
	for _, a := range slices.Backward(above) {
		l = append(l, a|minusZeroBits)
	}
	l = append(l, minusZeroBits, zeroBits)
	return append(l, above...)
}

// noNumbers: what is no number, of both signs: each fraction of one bit, and some of more.
func noNumbers() []uint64 {
	l := []uint64{noNumberBits, math.MaxUint64, 0x7FFFFFFFFFFFFFFF, 0x7FF8000000000002, 0xFFF8000000000001, 0x7FF5555555555555}
	for i := range 52 {
		l = append(l, plusInfBits|1<<i, minusInfBits|1<<i)
	}
	return l
}

// someBits: bits from a fixed beginning, near one another often enough that sums matter.
func someBits(n int) []uint64 {
	r := rand.New(rand.NewSource(1))
	var l []uint64
	for i := range n {
		a := r.Uint64()
		switch i % 4 {
		case 1: // exponents near that of 1
			a = a&^(0x7FF<<52) | uint64(1023-30+r.Intn(60))<<52
		case 2: // below and just above the least normal one
			a = a&^(0x7FF<<52) | uint64(r.Intn(60))<<52
		case 3: // just below infinity
			a = a&^(0x7FF<<52) | uint64(0x7FE-r.Intn(60))<<52
		}
		l = append(l, a)
	}
	return l
}

// bitsNone: whether bits are no number's, told without any float.
func bitsNone(a uint64) bool { return a<<1 > plusInfBits<<1 }

func TestCanonLeavesNumbers(t *testing.T) { // P1.1
	for _, a := range inOrder() {
		if c := Canon(a); c != a {
			t.Errorf("Canon(%#x) = %#x", a, c)
		}
	}
}

func TestCanonOfNoNumber(t *testing.T) { // P1.1
	for _, a := range noNumbers() {
		if c := Canon(a); c != noNumberBits {
			t.Errorf("Canon(%#x) = %#x", a, c)
		}
	}
}

func TestCanonOfAnyBits(t *testing.T) { // P1.1
	for _, a := range someBits(4000) {
		want := a
		if bitsNone(a) {
			want = noNumberBits
		}
		if c := Canon(a); c != want {
			t.Errorf("Canon(%#x) = %#x, not %#x", a, c, want)
		}
	}
}

func TestKind(t *testing.T) { // P1.1
	special := map[uint64]int{zeroBits: 1, minusZeroBits: 2, plusInfBits: 3, minusInfBits: 4}
	for _, a := range inOrder() {
		if k := Kind(a); k != special[a] {
			t.Errorf("Kind(%#x) = %d, not %d", a, k, special[a])
		}
	}
	for _, a := range noNumbers() {
		if k := Kind(a); k != 5 {
			t.Errorf("Kind(%#x) = %d, not 5", a, k)
		}
	}
	for _, a := range someBits(4000) {
		want := 0
		if bitsNone(a) {
			want = 5
		}
		if k := Kind(a); k != want {
			t.Errorf("Kind(%#x) = %d, not %d", a, k, want)
		}
	}
}

func TestDoOrdinary(t *testing.T) { // P1.2
	b := math.Float64bits
	for _, c := range []struct {
		op      int
		x, y, z float64
	}{
		{api.NumSet, 1, 2.5, 2.5},
		{api.NumAdd, 1.5, 2.25, 3.75},
		{api.NumAdd, 3, -3, 0},
		{api.NumSub, 1, 3, -2},
		{api.NumSub, 3, 1, 2},
		{api.NumMul, -3, 0.5, -1.5},
		{api.NumDiv, 1, 4, 0.25},
		{api.NumDiv, 4, 1, 4},
		{api.NumLess, 1, 2, 1},
		{api.NumLess, 2, 1, 0},
		{api.NumLess, 2, 2, 0},
	} {
		if z := Do(c.op, b(c.x), b(c.y)); z != b(c.z) {
			t.Errorf("Do(%d, %v, %v) = %#x, not %#x", c.op, c.x, c.y, z, b(c.z))
		}
	}
}

func TestDoEdges(t *testing.T) { // P1.2, and the chapter's examples
	const sign = minusZeroBits
	for _, c := range []struct {
		op      int
		a, b, z uint64
	}{
		{api.NumDiv, zeroBits, zeroBits, noNumberBits},
		{api.NumDiv, minusZeroBits, zeroBits, noNumberBits},
		{api.NumDiv, oneBits, minusZeroBits, minusInfBits},
		{api.NumDiv, oneBits, zeroBits, plusInfBits},
		{api.NumDiv, oneBits | sign, minusZeroBits, plusInfBits},
		{api.NumDiv, oneBits, minusInfBits, minusZeroBits},
		{api.NumDiv, plusInfBits, plusInfBits, noNumberBits},
		{api.NumDiv, plusInfBits, zeroBits, plusInfBits},
		{api.NumMul, plusInfBits, zeroBits, noNumberBits},
		{api.NumMul, minusInfBits, minusInfBits, plusInfBits},
		{api.NumMul, oneBits | sign, zeroBits, minusZeroBits},
		{api.NumMul, minusZeroBits, minusZeroBits, zeroBits},
		{api.NumAdd, minusZeroBits, minusZeroBits, minusZeroBits},
		{api.NumAdd, minusZeroBits, zeroBits, zeroBits},
		{api.NumAdd, plusInfBits, minusInfBits, noNumberBits},
		{api.NumAdd, plusInfBits, greatestBits | sign, plusInfBits},
		{api.NumSub, plusInfBits, plusInfBits, noNumberBits},
		{api.NumSub, plusInfBits, minusInfBits, plusInfBits},
		{api.NumSub, minusZeroBits, zeroBits, minusZeroBits},
		{api.NumSub, zeroBits, zeroBits, zeroBits},
		{api.NumSub, firstNormBits, lastSubBits, leastBits},
		{api.NumSet, noNumberBits, minusZeroBits, minusZeroBits},
		{api.NumSet, oneBits, 0xFFF0000000000001, noNumberBits},
		{api.NumLess, minusZeroBits, zeroBits, oneBits},
		{api.NumLess, zeroBits, minusZeroBits, zeroBits},
		{api.NumLess, plusInfBits, math.MaxUint64, oneBits},
		{api.NumLess, noNumberBits, math.MaxUint64, zeroBits},
	} {
		if z := Do(c.op, c.a, c.b); z != c.z {
			t.Errorf("Do(%d, %#x, %#x) = %#x, not %#x", c.op, c.a, c.b, z, c.z)
		}
	}
}

func TestDoRoundsToNearestTiesToEven(t *testing.T) { // P1.2
	const half = uint64(0x3FE0000000000000)
	const ulpHalf = uint64(1023-53) << 52    // 2^-53: half of what lies between 1 and the next
	const two53 = uint64(1023+53) << 52      // 2^53
	const topHalf = uint64(1023+970) << 52   // half of what would lie behind the greatest
	const onePointFive = 0x3FF8000000000000  // 1.5
	const twoPointFive = 0x4004000000000000  // 2.5
	const threeQuarters = 0x3FE8000000000000 // 0.75
	const quarter = 0x3FD0000000000000       // 0.25
	for _, c := range []struct {
		op      int
		a, b, z uint64
	}{
		{api.NumAdd, oneBits, ulpHalf, oneBits},
		{api.NumAdd, oneBits, ulpHalf + 1, oneBits + 1},
		{api.NumAdd, oneBits, ulpHalf - 1, oneBits},
		{api.NumAdd, oneBits + 1, ulpHalf, oneBits + 2},
		{api.NumAdd, two53, oneBits, two53},
		{api.NumAdd, two53 + 1, oneBits, two53 + 2},
		{api.NumAdd, greatestBits, topHalf, plusInfBits},
		{api.NumAdd, greatestBits, topHalf - 1, greatestBits},
		{api.NumSub, greatestBits | minusZeroBits, topHalf, minusInfBits},
		{api.NumSub, oneBits + 1, ulpHalf, oneBits},
		{api.NumMul, leastBits, half, zeroBits},
		{api.NumMul, leastBits | minusZeroBits, half, minusZeroBits},
		{api.NumMul, leastBits, threeQuarters, leastBits},
		{api.NumMul, leastBits, quarter, zeroBits},
		{api.NumMul, leastBits, onePointFive, 2},
		{api.NumMul, leastBits, twoPointFive, 2},
		{api.NumMul, greatestBits, twoBits, plusInfBits},
		{api.NumDiv, leastBits, twoBits, zeroBits},
		{api.NumDiv, 3, twoBits, 2},
		{api.NumDiv, 5, twoBits, 2},
		{api.NumDiv, greatestBits, half, plusInfBits},
		{api.NumDiv, oneBits, 0x4008000000000000, 0x3FD5555555555555},
		{api.NumDiv, twoBits, 0x4008000000000000, 0x3FE5555555555555},
	} {
		if z := Do(c.op, c.a, c.b); z != c.z {
			t.Errorf("Do(%d, %#x, %#x) = %#x, not %#x", c.op, c.a, c.b, z, c.z)
		}
	}
}

// exact: what an operation gives by fractions of whole numbers, rounded once. Of zeros and what isn't finite it tells nothing.
func exact(op int, a, b uint64) (uint64, bool) {
	x := new(big.Rat).SetFloat64(math.Float64frombits(a))
	y := new(big.Rat).SetFloat64(math.Float64frombits(b))
	if x == nil || y == nil || op == api.NumDiv && y.Sign() == 0 {
		return 0, false
	}
	z := new(big.Rat)
	switch op {
	case api.NumAdd:
		z.Add(x, y)
	case api.NumSub:
		z.Sub(x, y)
	case api.NumMul:
		z.Mul(x, y)
	case api.NumDiv:
		z.Quo(x, y)
	}
	f, _ := z.Float64()
	return math.Float64bits(f), z.Sign() != 0
}

func TestDoAgainstFractions(t *testing.T) { // P1.2
	l := append(someBits(2000), inOrder()...)
	told := 0
	for i, a := range l {
		for _, b := range []uint64{l[(i+1)%len(l)], l[(i+4)%len(l)], l[len(l)-1-i]} {
			for op := api.NumAdd; op <= api.NumDiv; op++ {
				want, ok := exact(op, a, b)
				if !ok {
					continue
				}
				told++
				if z := Do(op, a, b); z != want {
					t.Errorf("Do(%d, %#x, %#x) = %#x, not %#x", op, a, b, z, want)
				}
			}
		}
	}
	if told < 10000 {
		t.Error("too few were held against fractions:", told)
	}
}

func TestDoOfNoNumber(t *testing.T) { // P1.2
	for _, none := range noNumbers() {
		for _, a := range append(inOrder(), math.MaxUint64) {
			for op := api.NumAdd; op <= api.NumDiv; op++ {
				if z := Do(op, none, a); z != noNumberBits {
					t.Errorf("Do(%d, %#x, %#x) = %#x", op, none, a, z)
				}
				if z := Do(op, a, none); z != noNumberBits {
					t.Errorf("Do(%d, %#x, %#x) = %#x", op, a, none, z)
				}
			}
		}
		if z := Do(api.NumSet, oneBits, none); z != noNumberBits {
			t.Errorf("Do(NumSet, 1, %#x) = %#x", none, z)
		}
	}
}

func TestDoOfOtherOps(t *testing.T) { // P1.2, P1
	for _, op := range []int{math.MinInt, -2, -1, 0, api.NumLess + 1, 8, 256 + api.NumAdd, 1<<32 + api.NumAdd, math.MaxInt} {
		for _, a := range append(inOrder(), noNumbers()...) {
			if z := Do(op, a, oneBits); z != Canon(a) {
				t.Errorf("Do(%d, %#x, 1) = %#x", op, a, z)
			}
		}
	}
}

func TestLess(t *testing.T) { // P1.3
	l := inOrder()
	for i, a := range l {
		for k, b := range l {
			if Less(a, b) != (i < k) {
				t.Errorf("Less(%#x, %#x) = %v", a, b, i >= k)
			}
			want := zeroBits
			if i < k {
				want = oneBits
			}
			if z := Do(api.NumLess, a, b); z != want {
				t.Errorf("Do(NumLess, %#x, %#x) = %#x", a, b, z)
			}
		}
	}
}

func TestLessOfNoNumber(t *testing.T) { // P1.3
	for _, none := range noNumbers() {
		for _, a := range inOrder() {
			if !Less(a, none) || Less(none, a) {
				t.Errorf("%#x isn't behind %#x", none, a)
			}
		}
		for _, other := range noNumbers() {
			if Less(none, other) {
				t.Errorf("%#x stands ahead of %#x", none, other)
			}
		}
	}
}

func TestKeyValues(t *testing.T) { // P1.3
	for _, c := range []struct{ a, key uint64 }{
		{zeroBits, 1 << 63},
		{minusZeroBits, 1<<63 - 1},
		{oneBits, 0xBFF0000000000000},
		{oneBits | minusZeroBits, 0x400FFFFFFFFFFFFF},
		{leastBits, 1<<63 + 1},
		{leastBits | minusZeroBits, 1<<63 - 2},
		{greatestBits, 0xFFEFFFFFFFFFFFFF},
		{plusInfBits, 0xFFF0000000000000},
		{minusInfBits, 0x000FFFFFFFFFFFFF},
		{noNumberBits, 0xFFF8000000000001},
	} {
		if k := Key(c.a); k != c.key {
			t.Errorf("Key(%#x) = %#x, not %#x", c.a, k, c.key)
		}
	}
	for _, none := range noNumbers() {
		if k := Key(none); k != 0xFFF8000000000001 {
			t.Errorf("Key(%#x) = %#x", none, k)
		}
	}
}

func TestKeyIsThePlace(t *testing.T) { // P1.3
	l := slices.Concat(inOrder(), noNumbers(), someBits(400))
	for _, a := range l {
		for _, b := range l {
			if (Key(a) < Key(b)) != Less(a, b) {
				t.Errorf("Key and Less differ at %#x, %#x", a, b)
			}
			if (Key(a) == Key(b)) != (Canon(a) == Canon(b)) {
				t.Errorf("Key and Canon differ at %#x, %#x", a, b)
			}
		}
	}
}

func TestSameAnswerAgain(t *testing.T) { // P2
	l := slices.Concat(inOrder(), noNumbers())
	ask := func() []uint64 {
		var out []uint64
		for i, a := range l {
			b := l[len(l)-1-i]
			out = append(out, Canon(a), uint64(Kind(a)), Key(a))
			for op := range 9 {
				out = append(out, Do(op, a, b))
			}
		}
		return out
	}
	if first := ask(); !slices.Equal(first, ask()) {
		t.Error("asked again, something answered otherwise")
	}
}
