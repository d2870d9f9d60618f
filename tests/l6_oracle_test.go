package tests

import (
	"math/big"
	"slices"

	"loop.example/s01205/impl"
)

// The oracle of answers goes through every choice of values that any table
// has, notes the weight of each table's row, and knows no plan. It reckons
// with numbers of any size and cuts them to 64 bits at the end.

type answer struct{ values, weights []int }

// rowFor finds the row of a table that has the values of a choice.
func rowFor(x impl.Table, values []int) int {
	return slices.IndexFunc(x.Rows, func(row []int) bool {
		for i, v := range x.Vars {
			if row[i] != values[v] {
				return false
			}
		}
		return true
	})
}

func tryAnswers(k int, tables []impl.Table) []answer {
	var found []answer
	chosen(domainOf(tables), k, func(values []int) {
		var weights []int
		for _, x := range tables {
			place := rowFor(x, values)
			if place < 0 {
				return
			}
			weights = append(weights, x.Weights[place])
		}
		found = append(found, answer{values, weights})
	})
	return found
}

func (a answer) at(vars []int) []int {
	list := []int{}
	for _, v := range vars {
		list = append(list, a.values[v])
	}
	return list
}

func tryEnumerate(found []answer, head []int) [][]int {
	var lists [][]int
	for _, a := range found {
		lists = append(lists, a.at(head))
	}
	slices.SortFunc(lists, slices.Compare)
	return slices.CompactFunc(lists, slices.Equal)
}

func tryReduce(found []answer, bags [][]int) []impl.Table {
	var tables []impl.Table
	for _, bag := range bags {
		rows := tryEnumerate(found, bag)
		tables = append(tables, table(bag, rows, slices.Repeat([]int{1}, len(rows))...))
	}
	return tables
}

// wrapped is the number between -2^63 and 2^63 - 1 that differs from n by a multiple of 2^64.
func wrapped(n *big.Int) int {
	rest := new(big.Int).Mod(n, new(big.Int).Lsh(big.NewInt(1), 64))
	if rest.Bit(63) == 1 {
		rest.Sub(rest, new(big.Int).Lsh(big.NewInt(1), 64))
	}
	return int(rest.Int64())
}

func productOf(weights []int) *big.Int {
	product := big.NewInt(1)
	for _, w := range weights {
		product.Mul(product, big.NewInt(int64(w)))
	}
	return product
}

func sumOfWeights(weights []int) *big.Int {
	sum := big.NewInt(0)
	for _, w := range weights {
		sum.Add(sum, big.NewInt(int64(w)))
	}
	return sum
}

// worthOf is what the answers come to that give the list to the head.
func worthOf(found []answer, head, list []int, ring int) int {
	total := new(big.Int)
	first := true
	for _, a := range found {
		if !slices.Equal(a.at(head), list) {
			continue
		}
		sum := sumOfWeights(a.weights)
		switch {
		case ring == impl.RingCount:
			total.Add(total, big.NewInt(1))
		case ring == impl.RingSum:
			total.Add(total, productOf(a.weights))
		case first || sum.Cmp(total) < 0:
			total.Set(sum)
		}
		first = false
	}
	return wrapped(total)
}

func tryAggregate(found []answer, head []int, ring int) ([][]int, []int) {
	lists := tryEnumerate(found, head)
	var worths []int
	for _, list := range lists {
		worths = append(worths, worthOf(found, head, list, ring))
	}
	return lists, worths
}
