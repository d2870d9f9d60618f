package tests

import (
	"slices"

	"loop.example/s01205/impl"
)

// The oracle of joins goes through every choice of values that any table has,
// for every length anew, and asks of each table whether one of its rows agrees.

func domainOf(tables []impl.Table) []int {
	var domain []int
	for _, x := range tables {
		domain = append(domain, slices.Concat(x.Rows...)...)
	}
	slices.Sort(domain)
	return slices.Compact(domain)
}

// agreesPlainly: the row gives those of its variables that are among the given ones the same values.
func agreesPlainly(x impl.Table, row, vars, values []int) bool {
	for i, v := range vars {
		if value, has := valueOf(x.Vars, row, v); has && value != values[i] {
			return false
		}
	}
	return true
}

func holdsPlainly(tables []impl.Table, vars, values []int) bool {
	for _, x := range tables {
		if !slices.ContainsFunc(x.Rows, func(row []int) bool { return agreesPlainly(x, row, vars, values) }) {
			return false
		}
	}
	return true
}

// chosen goes through all lists of the given length of values of the domain, sorted.
func chosen(domain []int, length int, call func(values []int)) {
	if len(domain) == 0 && length > 0 {
		return
	}
	counters(length, 0, len(domain)-1, func(places []int) {
		var values []int
		// counters moves its first place fastest.
		for i := range places {
			values = append(values, domain[places[length-1-i]])
		}
		call(values)
	})
}

// tryAll answers with the prefixes that hold, of each length from 0 on.
func tryAll(tables []impl.Table, order []int) [][][]int {
	domain := domainOf(tables)
	held := make([][][]int, len(order)+1)
	for length := range held {
		chosen(domain, length, func(values []int) {
			if holdsPlainly(tables, order[:length], values) {
				held[length] = append(held[length], values)
			}
		})
	}
	return held
}

// visitsOf counts all prefixes but the empty one.
func visitsOf(held [][][]int) int {
	visits := 0
	for _, prefixes := range held[1:] {
		visits += len(prefixes)
	}
	return visits
}

// tryBag is the table of 5.2 over one bag, and its visits.
func tryBag(tables []impl.Table, bag []int) (impl.Table, int) {
	var parts []impl.Table
	for _, x := range tables {
		var shared []int
		for _, v := range x.Vars {
			if slices.Contains(bag, v) {
				shared = append(shared, v)
			}
		}
		if len(shared) > 0 {
			parts = append(parts, searchProject(x, shared))
		}
	}
	held := tryAll(parts, bag)
	rows := held[len(bag)]
	return table(bag, rows, slices.Repeat([]int{1}, len(rows))...), visitsOf(held)
}

func tryBags(tables []impl.Table, p impl.Plan) ([]impl.Table, int) {
	var joined []impl.Table
	sum := 0
	for _, bag := range p.Bags {
		x, visits := tryBag(tables, bag)
		joined = append(joined, x)
		sum += visits
	}
	return joined, sum
}
