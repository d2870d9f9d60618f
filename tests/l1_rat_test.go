package tests

import (
	"math"
	"math/big"
	"testing"

	"loop.example/s01205/impl"
)

func rat(num, den int) impl.Rat { return impl.Rat{Num: num, Den: den} }

// okRat is the document's word OK, written by another way than the program's.
func okRat(r impl.Rat) bool {
	if r.Den < 1 || r.Den > impl.MaxPart || r.Num < -impl.MaxPart || r.Num > impl.MaxPart {
		return false
	}
	exact := big.NewRat(int64(r.Num), int64(r.Den))
	return exact.Num().Int64() == int64(r.Num) && exact.Denom().Int64() == int64(r.Den)
}

func bigOf(r impl.Rat) *big.Rat { return big.NewRat(int64(r.Num), int64(r.Den)) }

// asRat is the OK Rat of an exact number, Rat{} if there's none.
func asRat(exact *big.Rat) impl.Rat {
	limit := big.NewInt(impl.MaxPart)
	if exact.Num().CmpAbs(limit) > 0 || exact.Denom().Cmp(limit) > 0 {
		return impl.Rat{}
	}
	return rat(int(exact.Num().Int64()), int(exact.Denom().Int64()))
}

// edgeParts are parts near the edges of 1.1, some with many divisors, some prime.
var edgeParts = []int{1, 2, 3, 4, 5, 6, 7, 10, 12, 97, 360, 999, 1000, 1001, 1024, 65536, 65537, 499979, 499999, 500000, 500001, 720720, 999979, 999983, 999998, 999999, 1000000}

func edgeRats() []impl.Rat {
	rats := []impl.Rat{rat(0, 1)}
	for _, num := range edgeParts {
		for _, den := range edgeParts {
			for _, r := range []impl.Rat{rat(num, den), rat(-num, den)} {
				if okRat(r) {
					rats = append(rats, r)
				}
			}
		}
	}
	return rats
}

// noRats are of each kind that isn't OK.
var noRats = []impl.Rat{
	{}, {Num: 1, Den: 0}, {Num: -1, Den: 0},
	{Num: 1, Den: -2}, {Num: -1, Den: -2}, {Num: 0, Den: -1}, {Num: 1, Den: math.MinInt},
	{Num: 2, Den: 4}, {Num: -2, Den: 4}, {Num: 0, Den: 2}, {Num: 3, Den: 3}, {Num: 1000000, Den: 1000000}, {Num: -999999, Den: 3},
	{Num: 1000001, Den: 1}, {Num: -1000001, Den: 1}, {Num: 1, Den: 1000001}, {Num: 0, Den: 1000001},
	{Num: math.MaxInt, Den: 1}, {Num: math.MinInt, Den: 1}, {Num: 1, Den: math.MaxInt},
	{Num: math.MinInt, Den: math.MinInt}, {Num: math.MaxInt, Den: math.MaxInt}, {Num: math.MinInt, Den: math.MaxInt},
}

func TestMakeRat(t *testing.T) {
	cases := []struct {
		num, den int
		want     impl.Rat
	}{
		{6, 4, rat(3, 2)}, {-6, 4, rat(-3, 2)}, {6, -4, rat(-3, 2)}, {-6, -4, rat(3, 2)},
		{1, 1, rat(1, 1)}, {7, 1, rat(7, 1)}, {12, 4, rat(3, 1)}, {4, 12, rat(1, 3)}, {-1, -1, rat(1, 1)},
		{0, 1, rat(0, 1)}, {0, -1, rat(0, 1)}, {0, 1000000, rat(0, 1)}, {0, -1000000, rat(0, 1)}, {0, 12, rat(0, 1)},
		{0, 0, impl.Rat{}}, {5, 0, impl.Rat{}}, {-5, 0, impl.Rat{}}, {math.MinInt, 0, impl.Rat{}}, {1000000, 0, impl.Rat{}},
		{1000000, 1, rat(1000000, 1)}, {-1000000, 1, rat(-1000000, 1)}, {1000000, -1, rat(-1000000, 1)}, {-1000000, -1, rat(1000000, 1)},
		{1, 1000000, rat(1, 1000000)}, {1, -1000000, rat(-1, 1000000)}, {-1, -1000000, rat(1, 1000000)},
		{1000000, 1000000, rat(1, 1)}, {1000000, -1000000, rat(-1, 1)}, {-1000000, -1000000, rat(1, 1)},
		{999999, 1000000, rat(999999, 1000000)}, {-1000000, 999999, rat(-1000000, 999999)}, {1000000, 64, rat(15625, 1)},
	}
	for _, c := range cases {
		if got := impl.MakeRat(c.num, c.den); got != c.want {
			t.Errorf("MakeRat(%d, %d) = %v, want %v", c.num, c.den, got, c.want)
		}
	}
}

func TestMakeRatBeyondTheEdges(t *testing.T) {
	beyond := []int{1000001, -1000001, 2000000, -2000000, math.MaxInt, math.MinInt, math.MaxInt32, math.MinInt32, math.MinInt + 1, 1 << 62}
	for _, far := range beyond {
		for _, near := range []int{0, 1, -1, 2, 1000000, -1000000, far, 1000001, math.MinInt, math.MaxInt} {
			if got := impl.MakeRat(far, near); got != (impl.Rat{}) {
				t.Errorf("MakeRat(%d, %d) = %v", far, near, got)
			}
			if got := impl.MakeRat(near, far); got != (impl.Rat{}) {
				t.Errorf("MakeRat(%d, %d) = %v", near, far, got)
			}
		}
	}
}

func TestMakeRatIsExact(t *testing.T) {
	parts := append([]int{0}, edgeParts...)
	for i := -40; i <= 40; i++ {
		parts = append(parts, i)
	}
	for _, num := range parts {
		for _, den := range parts {
			if den == 0 {
				continue
			}
			for _, sign := range []int{1, -1} {
				got := impl.MakeRat(num, sign*den)
				if !okRat(got) || bigOf(got).Cmp(big.NewRat(int64(num), int64(sign*den))) != 0 {
					t.Fatalf("MakeRat(%d, %d) = %v", num, sign*den, got)
				}
			}
		}
	}
}

func TestAddRat(t *testing.T) {
	cases := []struct{ a, b, want impl.Rat }{
		{rat(1, 2), rat(1, 3), rat(5, 6)},
		{rat(1, 6), rat(1, 3), rat(1, 2)},
		{rat(1, 2), rat(-1, 2), rat(0, 1)},
		{rat(-999999, 1000000), rat(999999, 1000000), rat(0, 1)},
		{rat(1000000, 1), rat(-1000000, 1), rat(0, 1)},
		{rat(0, 1), rat(0, 1), rat(0, 1)},
		{rat(0, 1), rat(-1000000, 999999), rat(-1000000, 999999)},
		{rat(999999, 1), rat(1, 1), rat(1000000, 1)},
		{rat(1000000, 1), rat(1, 1), impl.Rat{}},
		{rat(-1000000, 1), rat(-1, 1), impl.Rat{}},
		{rat(-1000000, 1), rat(-1000000, 1), impl.Rat{}},
		{rat(1000000, 1), rat(-1, 1), rat(999999, 1)},
		// The plain sums have parts too large, but not without common divisors.
		{rat(1, 1000000), rat(1, 1000000), rat(1, 500000)},
		{rat(500001, 1000000), rat(499999, 1000000), rat(1, 1)},
		{rat(1, 1000000), rat(1, 500000), rat(3, 1000000)},
		{rat(1000000, 3), rat(-999997, 3), rat(1, 1)},
		{rat(1000000, 999999), rat(-1, 999999), rat(1, 1)},
		// These are too large even so.
		{rat(1, 999983), rat(1, 2), impl.Rat{}},
		{rat(1, 1000000), rat(1, 999999), impl.Rat{}},
		{rat(1, 1000000), rat(-1, 999999), impl.Rat{}},
		{rat(1000000, 999999), rat(999999, 1000000), impl.Rat{}},
		{rat(1000000, 3), rat(1, 3), impl.Rat{}},
		{rat(1000000, 1), rat(1, 2), impl.Rat{}},
	}
	for _, c := range cases {
		if got := impl.AddRat(c.a, c.b); got != c.want {
			t.Errorf("AddRat(%v, %v) = %v, want %v", c.a, c.b, got, c.want)
		}
		if got := impl.AddRat(c.b, c.a); got != c.want {
			t.Errorf("AddRat(%v, %v) = %v, want %v", c.b, c.a, got, c.want)
		}
	}
}

func TestCompareRat(t *testing.T) {
	cases := []struct {
		a, b impl.Rat
		want int
	}{
		{rat(1, 3), rat(1, 2), -1}, {rat(-1, 3), rat(-1, 2), 1}, {rat(3, 2), rat(3, 2), 0},
		{rat(0, 1), rat(0, 1), 0}, {rat(0, 1), rat(1, 1000000), -1}, {rat(0, 1), rat(-1, 1000000), 1},
		{rat(-1, 2), rat(1, 2), -1},
		{rat(999999, 1000000), rat(999998, 999999), 1},
		{rat(-999999, 1000000), rat(-999998, 999999), -1},
		{rat(1000000, 999999), rat(999999, 999998), -1},
		{rat(1000000, 1), rat(1000000, 1), 0}, {rat(1000000, 1), rat(-1000000, 1), 1},
	}
	for _, c := range cases {
		if got := impl.CompareRat(c.a, c.b); got != c.want {
			t.Errorf("CompareRat(%v, %v) = %d, want %d", c.a, c.b, got, c.want)
		}
		if got := impl.CompareRat(c.b, c.a); got != -c.want {
			t.Errorf("CompareRat(%v, %v) = %d, want %d", c.b, c.a, got, -c.want)
		}
	}
}

func TestAddRatAndCompareRatAreExact(t *testing.T) {
	rats := edgeRats()
	sums := 0
	sum := new(big.Rat)
	for _, a := range rats {
		for _, b := range rats {
			bigA, bigB := bigOf(a), bigOf(b)
			want := asRat(sum.Add(bigA, bigB))
			if want != (impl.Rat{}) {
				sums++
			}
			if got := impl.AddRat(a, b); got != want {
				t.Fatalf("AddRat(%v, %v) = %v, want %v", a, b, got, want)
			}
			if got := impl.CompareRat(a, b); got != bigA.Cmp(bigB) {
				t.Fatalf("CompareRat(%v, %v) = %d", a, b, got)
			}
		}
	}
	if sums == 0 || sums == len(rats)*len(rats) {
		t.Errorf("the parts show one kind of sum only: %d of %d", sums, len(rats)*len(rats))
	}
}

func TestRatsThatAreNotOK(t *testing.T) {
	others := append([]impl.Rat{rat(0, 1), rat(1, 2), rat(-1000000, 1), rat(1, 1000000)}, noRats...)
	for _, no := range noRats {
		if okRat(no) {
			t.Fatalf("%v is OK", no)
		}
		for _, other := range others {
			if got := impl.AddRat(no, other); got != (impl.Rat{}) {
				t.Errorf("AddRat(%v, %v) = %v", no, other, got)
			}
			if got := impl.AddRat(other, no); got != (impl.Rat{}) {
				t.Errorf("AddRat(%v, %v) = %v", other, no, got)
			}
			if got := impl.CompareRat(no, other); got != -2 {
				t.Errorf("CompareRat(%v, %v) = %d", no, other, got)
			}
			if got := impl.CompareRat(other, no); got != -2 {
				t.Errorf("CompareRat(%v, %v) = %d", other, no, got)
			}
		}
	}
}

func TestConstantsOfCovers(t *testing.T) {
	if impl.MaxVars != 6 || impl.MaxAtoms != 7 || impl.MaxPart != 1000000 {
		t.Error(impl.MaxVars, impl.MaxAtoms, impl.MaxPart)
	}
}
