package tests

import (
	"slices"
	"testing"
	"unsafe"

	"loop.example/s01205/impl"
)

func v(name string) impl.Term { return impl.Term{Var: name} }

func n(value int) impl.Term { return impl.Term{Val: value} }

func atomOf(rel string, terms ...impl.Term) impl.Atom { return impl.Atom{Rel: rel, Terms: terms} }

func queryOf(name string, head []string, ring int, atoms ...impl.Atom) impl.Query {
	return impl.Query{Name: name, Head: head, Ring: ring, Atoms: atoms}
}

func sameAtom(a, b impl.Atom) bool { return a.Rel == b.Rel && slices.Equal(a.Terms, b.Terms) }

func sameQuery(a, b impl.Query) bool {
	return a.Name == b.Name && slices.Equal(a.Head, b.Head) && a.Ring == b.Ring && slices.EqualFunc(a.Atoms, b.Atoms, sameAtom)
}

func cloneQuery(q impl.Query) impl.Query {
	q.Head = slices.Clone(q.Head)
	q.Atoms = slices.Clone(q.Atoms)
	for i := range q.Atoms {
		q.Atoms[i].Terms = slices.Clone(q.Atoms[i].Terms)
	}
	return q
}

// parsed is the query of a text that must be right.
func parsed(t *testing.T, text string) impl.Query {
	t.Helper()
	q, code, offset := impl.ParseQuery(text)
	if code != impl.QueryOK || offset != 0 {
		t.Fatalf("%q: code %d at %d", text, code, offset)
	}
	return q
}

// spoilQuery fills the lists of a query up to their capacity, each with a mark
// of its own: where two share memory, the later mark shows in the earlier one.
func spoilQuery(t *testing.T, q impl.Query) {
	t.Helper()
	head := q.Head[:cap(q.Head)]
	for i := range head {
		head[i] = "spoiled"
	}
	for i, atom := range q.Atoms {
		for j := range atom.Terms[:cap(atom.Terms)] {
			atom.Terms[:cap(atom.Terms)][j] = impl.Term{Val: -7000 - i}
		}
	}
	for i, atom := range q.Atoms {
		for _, term := range atom.Terms[:cap(atom.Terms)] {
			if term.Val != -7000-i {
				t.Fatalf("the terms of atom %d share memory with those of atom %d", i, -7000-term.Val)
			}
		}
	}
}

func namesOf(q impl.Query) []string {
	names := append([]string{q.Name}, q.Head...)
	for _, atom := range q.Atoms {
		names = append(names, atom.Rel)
		for _, term := range atom.Terms {
			names = append(names, term.Var)
		}
	}
	return names
}

// liesIn answers whether the bytes of name are bytes of text, not only alike.
func liesIn(name, text string) bool {
	if name == "" || text == "" {
		return false
	}
	first, at := uintptr(unsafe.Pointer(unsafe.StringData(text))), uintptr(unsafe.Pointer(unsafe.StringData(name)))
	return first <= at && at < first+uintptr(len(text))
}
