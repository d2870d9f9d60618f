package impl

import "slices"

const (
	MaxVars  = 6
	MaxAtoms = 7
	MaxPart  = 1000000
)

type Rat struct {
	Num int
	Den int
}

type Cover struct {
	OK      bool
	Width   Rat
	Weights []Rat
	Dual    []Rat
}

func MakeRat(num, den int) Rat {
	if den == 0 || !isPart(num) || !isPart(den) {
		return Rat{}
	}
	return ratOf(fractionOf(num, den))
}

func AddRat(a, b Rat) Rat {
	if !isRat(a) || !isRat(b) {
		return Rat{}
	}
	return ratOf(fraction(a).plus(fraction(b)))
}

func CompareRat(a, b Rat) int {
	if !isRat(a) || !isRat(b) {
		return -2
	}
	return fraction(a).minus(fraction(b)).sign()
}

func CoverOf(bag []int, edges [][]int) Cover {
	if !isVariableSet(bag) || !areEdges(edges) || !inEdges(bag, edges) {
		return Cover{}
	}
	weights := ratsOf(leastSolution[fraction](coverProgram(bag, edges)))
	dual := ratsOf(leastSolution[fraction](packingProgram(bag, edges)))
	return Cover{OK: true, Width: sumOf(weights), Weights: weights, Dual: dual}
}

func isPart(n int) bool { return -MaxPart <= n && n <= MaxPart }

func isRat(r Rat) bool {
	return 1 <= r.Den && r.Den <= MaxPart && isPart(r.Num) && commonDivisor(r.Num, r.Den) == 1
}

func sumOf(rats []Rat) Rat {
	sum := Rat{0, 1}
	for _, r := range rats {
		sum = AddRat(sum, r)
	}
	return sum
}

func isVariableSet(list []int) bool {
	for i, v := range list {
		if v < 0 || v >= MaxVars || i > 0 && list[i-1] >= v {
			return false
		}
	}
	return true
}

func areEdges(edges [][]int) bool {
	if len(edges) > MaxAtoms {
		return false
	}
	for _, edge := range edges {
		if !isVariableSet(edge) {
			return false
		}
	}
	return true
}

func inEdges(bag []int, edges [][]int) bool {
	for _, v := range bag {
		if len(edgesWith(v, edges)) == 0 {
			return false
		}
	}
	return true
}

func edgesWith(variable int, edges [][]int) []int {
	var numbers []int
	for i, edge := range edges {
		if slices.Contains(edge, variable) {
			numbers = append(numbers, i)
		}
	}
	return numbers
}

func placesIn(bag, edge []int) []int {
	var places []int
	for i, v := range bag {
		if slices.Contains(edge, v) {
			places = append(places, i)
		}
	}
	return places
}

// A fraction is like an OK Rat, but its parts may pass MaxPart. Sums and
// products of OK Rats have parts far below 64 bits, and those in a tableau are
// smaller still: they are quotients of determinants of at most seven rows
// whose entries are -1, 0 and 1.
type fraction Rat

// fractionOf wants a den that isn't 0.
func fractionOf(num, den int) fraction {
	if den < 0 {
		num, den = -num, -den
	}
	divisor := commonDivisor(num, den)
	return fraction{num / divisor, den / divisor}
}

// commonDivisor ends because the remainders come nearer to 0 at each step.
func commonDivisor(a, b int) int {
	for b != 0 {
		a, b = b, a%b
	}
	return max(a, -a)
}

func (f fraction) whole(n int) fraction { return fraction{n, 1} }

func (f fraction) plus(other fraction) fraction {
	return fractionOf(f.Num*other.Den+other.Num*f.Den, f.Den*other.Den)
}

func (f fraction) minus(other fraction) fraction {
	return fractionOf(f.Num*other.Den-other.Num*f.Den, f.Den*other.Den)
}

func (f fraction) times(other fraction) fraction {
	return fractionOf(f.Num*other.Num, f.Den*other.Den)
}

func (f fraction) over(other fraction) fraction {
	return fractionOf(f.Num*other.Den, f.Den*other.Num)
}

func (f fraction) sign() int {
	return min(max(f.Num, -1), 1)
}

func ratOf(f fraction) Rat {
	if !isPart(f.Num) || !isPart(f.Den) {
		return Rat{}
	}
	return Rat(f)
}

func ratsOf(fractions []fraction) []Rat {
	rats := make([]Rat, 0, len(fractions))
	for _, f := range fractions {
		rats = append(rats, ratOf(f))
	}
	return rats
}

// A program asks for numbers of at least 0, one for each unknown. Each row
// names the unknowns whose sum is bounded by 1: from below, and the sum of all
// is to be least (a cover), or from above, and it is to be greatest (a packing).
type program struct {
	unknowns int
	rows     [][]int
	below    bool
}

func coverProgram(bag []int, edges [][]int) program {
	p := program{unknowns: len(edges), below: true}
	for _, v := range bag {
		p.rows = append(p.rows, edgesWith(v, edges))
	}
	return p
}

func packingProgram(bag []int, edges [][]int) program {
	p := program{unknowns: len(bag)}
	for _, edge := range edges {
		p.rows = append(p.rows, placesIn(bag, edge))
	}
	return p
}

// columns: behind the unknowns each row has a column for what lies between its
// sum and 1; a bound from below isn't met by zeros, so it has one more for
// what is still missing. The last ones, one for each row, are the first basis.
func (p program) columns() int {
	if p.below {
		return p.unknowns + 2*len(p.rows)
	}
	return p.unknowns + len(p.rows)
}

// The widest program is the cover of all variables by all edges; the one with
// most rows is a packing. One line more has the costs, one column the constants.
const (
	maxLines   = MaxAtoms + 1
	maxColumns = MaxAtoms + 2*MaxVars + 1
)

// costs are those of the columns in a sum that is to be least.
type costs [maxColumns]int

func costsFrom(first, end, each int) costs {
	var c costs
	for j := first; j < end; j++ {
		c[j] = each
	}
	return c
}

// aims are made least one after another, each among the solutions that are
// best for those before: the last ones, an unknown each, leave the
// lexicographically least solution.
func (p program) aims() []costs {
	var aims []costs
	if p.below {
		missing := p.columns() - len(p.rows)
		aims = append(aims, costsFrom(missing, p.columns(), 1), costsFrom(0, p.unknowns, 1))
	} else {
		aims = append(aims, costsFrom(0, p.unknowns, -1))
	}
	for j := range p.unknowns {
		aims = append(aims, costsFrom(j, j+1, 1))
	}
	return aims
}

// number is what the solver asks of its numbers. What whole answers doesn't
// hang on the number it is called on.
type number[N any] interface {
	whole(n int) N
	minus(other N) N
	times(other N) N
	over(other N) N
	sign() int
}

type tableau[N number[N]] [maxLines][maxColumns]N

// A simplex stands at one basic solution. Line i of cells is the equation of
// basis[i], its constant at the place columns; the line behind the rows has
// the costs that are left.
type simplex[N number[N]] struct {
	rows, columns int
	cells         tableau[N]
	basis         [maxLines]int
	barred        [maxColumns]bool
}

// leastSolution wants a program that has solutions, with a bounded sum.
func leastSolution[N number[N]](p program) []N {
	s := startOf[N](p)
	for _, aim := range p.aims() {
		s.leastBy(aim)
	}
	return s.values(p.unknowns)
}

func numberOf[N number[N]](n int) N {
	var none N
	return none.whole(n)
}

func startOf[N number[N]](p program) simplex[N] {
	s := simplex[N]{rows: len(p.rows), columns: p.columns()}
	for i := range s.rows + 1 {
		for j := range s.columns + 1 {
			s.cells[i][j] = numberOf[N](0)
		}
	}
	for i, row := range p.rows {
		for _, j := range row {
			s.cells[i][j] = numberOf[N](1)
		}
		if p.below {
			s.cells[i][p.unknowns+i] = numberOf[N](-1)
		}
		s.basis[i] = s.columns - s.rows + i
		s.cells[i][s.basis[i]] = numberOf[N](1)
		s.cells[i][s.columns] = numberOf[N](1)
	}
	return s
}

// leastBy ends because with Bland's rule (of the columns and of the basis,
// always the first that will do) no basis comes twice.
func (s *simplex[N]) leastBy(aim costs) {
	s.price(aim)
	for {
		column := s.entering()
		row := s.leaving(column)
		if row < 0 {
			break
		}
		*s = s.pivoted(row, column)
	}
	s.narrow()
}

// price writes the costs as they are when the basis is put in by its equations.
func (s *simplex[N]) price(aim costs) {
	for j := range s.columns + 1 {
		left := numberOf[N](aim[j])
		for i := range s.rows {
			if each := aim[s.basis[i]]; each != 0 {
				left = left.minus(s.cells[i][j].times(numberOf[N](each)))
			}
		}
		s.cells[s.rows][j] = left
	}
}

func (s *simplex[N]) entering() int {
	for j := range s.columns {
		if !s.barred[j] && s.cells[s.rows][j].sign() < 0 {
			return j
		}
	}
	return -1
}

func (s *simplex[N]) leaving(column int) int {
	best := -1
	if column < 0 {
		return best
	}
	for i := range s.rows {
		if s.cells[i][column].sign() > 0 && (best < 0 || s.leavesBefore(i, best, column)) {
			best = i
		}
	}
	return best
}

// leavesBefore: the row whose basis falls to 0 first, so that none falls below.
func (s *simplex[N]) leavesBefore(i, other, column int) bool {
	until := s.cells[i][s.columns].over(s.cells[i][column])
	otherUntil := s.cells[other][s.columns].over(s.cells[other][column])
	if sign := until.minus(otherUntil).sign(); sign != 0 {
		return sign < 0
	}
	return s.basis[i] < s.basis[other]
}

// pivoted leaves the simplex as it is: the old cells are read while the copy is written.
func (s *simplex[N]) pivoted(row, column int) simplex[N] {
	next := *s
	next.basis[row] = column
	for j := range s.columns + 1 {
		if s.cells[row][j].sign() == 0 {
			continue
		}
		next.cells[row][j] = s.cells[row][j].over(s.cells[row][column])
		for i := range s.rows + 1 {
			if i != row && s.cells[i][column].sign() != 0 {
				next.cells[i][j] = s.cells[i][j].minus(s.cells[i][column].times(next.cells[row][j]))
			}
		}
	}
	return next
}

// narrow bars the columns that would cost something: the best solutions are
// just those in which they are 0, so later aims keep what this one reached.
func (s *simplex[N]) narrow() {
	for j := range s.columns {
		if s.cells[s.rows][j].sign() > 0 {
			s.barred[j] = true
		}
	}
}

func (s *simplex[N]) values(unknowns int) []N {
	values := make([]N, unknowns)
	for j := range values {
		values[j] = numberOf[N](0)
	}
	for i := range s.rows {
		if s.basis[i] < unknowns {
			values[s.basis[i]] = s.cells[i][s.columns]
		}
	}
	return values
}
