package tests

import (
	"fmt"
	"slices"
	"strings"

	"loop.example/s01205/impl"
)

// The oracle of the engine puts every choice of values that the data has into
// the atoms, and looks for the rows. It takes its plans from the oracle of
// plans, by going through all orders, and counts visits by that of joins.

// namesIn are the variables of the atoms by their first places.
func namesIn(q impl.Query) []string {
	var names []string
	for _, atom := range q.Atoms {
		for _, term := range atom.Terms {
			if term.Var != "" && !slices.Contains(names, term.Var) {
				names = append(names, term.Var)
			}
		}
	}
	return names
}

// weightsIn has the weight of each row, by the relation's name and the row.
func weightsIn(d impl.Data) map[string]int {
	weights := map[string]int{}
	for _, rel := range d.Rels {
		for i, row := range rel.Rows {
			weights[fmt.Sprint(rel.Name, row)] = rel.Weights[i]
		}
	}
	return weights
}

func valuesIn(d impl.Data) []int {
	var values []int
	for _, rel := range d.Rels {
		values = append(values, slices.Concat(rel.Rows...)...)
	}
	slices.Sort(values)
	return slices.Compact(values)
}

// tryQuery answers with all choices that make every atom a row.
func tryQuery(d impl.Data, q impl.Query) []answer {
	names, known := namesIn(q), weightsIn(d)
	var found []answer
	chosen(valuesIn(d), len(names), func(values []int) {
		var weights []int
		for _, atom := range q.Atoms {
			weight, there := known[fmt.Sprint(atom.Rel, put(atom, names, values))]
			if !there {
				return
			}
			weights = append(weights, weight)
		}
		found = append(found, answer{values, weights})
	})
	return found
}

func headOf(q impl.Query) []int {
	var head []int
	for _, name := range q.Head {
		head = append(head, slices.Index(namesIn(q), name))
	}
	return head
}

// oracleBest is the first of the orders of least width, and its plan.
func oracleBest(k int, edges [][]int) ([]int, impl.Plan) {
	var best []int
	var plan impl.Plan
	widths := widthsFor(edges)
	for i, order := range allOrders(k) {
		p := oraclePlan(edges, order, widths)
		if i == 0 || bigOf(p.Width).Cmp(bigOf(plan.Width)) < 0 {
			best, plan = order, p
		}
	}
	return best, plan
}

// edgesIn has the variables of each atom, by their numbers.
func edgesIn(q impl.Query) [][]int {
	names := namesIn(q)
	edges := [][]int{}
	for _, atom := range q.Atoms {
		edge := []int{}
		for number, name := range names {
			if slices.Contains(atom.Terms, v(name)) {
				edge = append(edge, number)
			}
		}
		edges = append(edges, edge)
	}
	return edges
}

// An outlook is what the oracle knows of a checked query, whatever its head
// and its ring are.
type outlook struct {
	width  impl.Rat
	visits int
	found  []answer
}

// outlookOf wants data whose values are 0 to 3: then no join has more than
// MaxTable prefixes.
func outlookOf(d impl.Data, q impl.Query) outlook {
	var tables []impl.Table
	for _, atom := range q.Atoms {
		tables = append(tables, searchBound(d, q, atom))
	}
	_, plan := oracleBest(len(namesIn(q)), edgesIn(q))
	_, visits := tryBags(tables, plan)
	return outlook{plan.Width, visits, tryQuery(d, q)}
}

// result is for a limit that is allowed.
func (o outlook) result(q impl.Query, limit int) impl.Result {
	if o.visits > limit {
		return limitResult(0, o.width, o.visits)
	}
	if q.Ring == impl.RingNone {
		return okResult(tryEnumerate(o.found, headOf(q)), o.width, o.visits)
	}
	rows, values := tryAggregate(o.found, headOf(q), q.Ring)
	return okResult(rows, o.width, o.visits, values...)
}

func oracleRun(d impl.Data, q impl.Query, limit int) impl.Result {
	if limit < 0 || limit > 1000000000 {
		return badResult()
	}
	if why, place := oracleCheck(d, q); why != impl.CheckOK {
		return checkResult(why, place)
	}
	return outlookOf(d, q).result(q, limit)
}

func ratText(r impl.Rat) string {
	return strings.TrimSuffix(fmt.Sprintf("%d/%d", r.Num, r.Den), "/1")
}

// oracleFault is the line of the first fault of the texts, empty if there's none.
func oracleFault(data, query string) (impl.Data, impl.Query, string) {
	if len(data) > 60000 {
		return impl.Data{}, impl.Query{}, "data -1\n"
	}
	d, line := oracleParse(data)
	if line != 0 {
		return d, impl.Query{}, fmt.Sprintf("data %d\n", line)
	}
	q, code, offset := oracleQuery(query)
	if code != impl.QueryOK {
		return d, q, fmt.Sprintf("query %d %d\n", code, offset)
	}
	if why, place := oracleCheck(d, q); why != impl.CheckOK {
		return d, q, fmt.Sprintf("check %d %d\n", why, place)
	}
	return d, q, ""
}

func oracleExplain(data, query string) string {
	_, q, fault := oracleFault(data, query)
	if fault != "" {
		return fault
	}
	names := namesIn(q)
	order, plan := oracleBest(len(names), edgesIn(q))
	text := "order"
	for _, variable := range order {
		text += " " + names[variable]
	}
	text += "\n"
	for i, bag := range plan.Bags {
		text += fmt.Sprintf("bag %d :", i)
		for _, variable := range bag {
			text += " " + names[variable]
		}
		text += fmt.Sprintf(" : %d : %s :", plan.Parent[i], ratText(plan.Widths[i]))
		for _, atom := range indexesOf(plan.Home, i) {
			text += fmt.Sprintf(" %d", atom)
		}
		text += "\n"
	}
	return text + "width " + ratText(plan.Width) + "\n"
}

// oracleLines are those of a result, for a query that is checked.
func oracleLines(r impl.Result, ring int) string {
	switch r.Code {
	case impl.RunBad:
		return "bad\n"
	case impl.RunLimit:
		return fmt.Sprintf("limit %d\n", r.Visits)
	}
	text := ""
	for i, row := range r.Rows {
		line := strings.Trim(fmt.Sprint(row), "[]")
		if line == "" {
			line = "."
		}
		if ring != impl.RingNone {
			line += fmt.Sprintf(" = %d", r.Values[i])
		}
		text += line + "\n"
	}
	return text + fmt.Sprintf("width %s visits %d\n", ratText(r.Width), r.Visits)
}

// oracleRunText is for data whose values are 0 to 3, if it has no fault.
func oracleRunText(data, query string, limit int) string {
	d, q, fault := oracleFault(data, query)
	if fault != "" {
		return fault
	}
	return oracleLines(oracleRun(d, q, limit), q.Ring)
}
