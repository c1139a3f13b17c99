package tests

import (
	"cmp"
	"math"
	"slices"
	"testing"

	"loop.example/dagconsensus/impl"
)

// notRounds has numbers just out of range and far away.
func notRounds() []int {
	return []int{-1, -2, -31, 31, 32, 62, 1000, math.MaxInt, math.MinInt}
}

// notMembers has numbers just out of range, also of that of the largest committee, and far away.
func notMembers(c []int) []int {
	return []int{-1, -2, -7, len(c), len(c) + 1, 7, 8, 1000, math.MaxInt, math.MinInt}
}

func vertexOf(round int, author int, digest int, parents ...int) impl.Vertex {
	return impl.Vertex{Round: round, Author: author, Parents: parents, Digest: digest}
}

func sameVertex(a impl.Vertex, b impl.Vertex) bool {
	return a.Round == b.Round && a.Author == b.Author && a.Digest == b.Digest && slices.Equal(a.Parents, b.Parents)
}

func sameGraph(a []impl.Vertex, b []impl.Vertex) bool {
	return slices.EqualFunc(a, b, sameVertex)
}

func cloneGraph(g []impl.Vertex) []impl.Vertex {
	list := []impl.Vertex{}
	for _, v := range g {
		list = append(list, vertexOf(v.Round, v.Author, v.Digest, slices.Clone(v.Parents)...))
	}
	return list
}

// withVertex inserts a vertex where its round and its author belong, without the program.
func withVertex(g []impl.Vertex, v impl.Vertex) []impl.Vertex {
	list := append(cloneGraph(g), v)
	slices.SortStableFunc(list, func(a impl.Vertex, b impl.Vertex) int {
		return cmp.Or(cmp.Compare(a.Round, b.Round), cmp.Compare(a.Author, b.Author))
	})
	return list
}

func withoutVertex(g []impl.Vertex, i int) []impl.Vertex {
	return slices.Delete(cloneGraph(g), i, i+1)
}

func replacedVertex(g []impl.Vertex, i int, v impl.Vertex) []impl.Vertex {
	list := cloneGraph(g)
	list[i] = v
	return list
}

func otherDigest(v impl.Vertex) impl.Vertex {
	return vertexOf(v.Round, v.Author, (v.Digest+1)%impl.HashSize, slices.Clone(v.Parents)...)
}

// indexOf returns the index of a vertex, or -1, without the program.
func indexOf(g []impl.Vertex, round int, author int) int {
	for i, v := range g {
		if v.Round == round && v.Author == author {
			return i
		}
	}
	return -1
}

func authorsOf(g []impl.Vertex, round int) []int {
	authors := []int{}
	for _, v := range g {
		if v.Round == round {
			authors = append(authors, v.Author)
		}
	}
	return authors
}

func isHeavy(c []int, members []int) bool {
	return 3*sumAt(c, members) > 2*sumOf(c)
}

// pastOf returns the indexes of a vertex and of what it depends on, without the program: going down, each vertex that is wanted asks for its parents.
func pastOf(g []impl.Vertex, last int) []int {
	wanted := make([]bool, len(g))
	wanted[last] = true
	past := []int{}
	for i := last; i >= 0; i-- {
		if !wanted[i] {
			continue
		}
		past = append(past, i)
		for _, author := range g[i].Parents {
			wanted[indexOf(g, g[i].Round-1, author)] = true
		}
	}
	slices.Reverse(past)
	return past
}

func partOf(g []impl.Vertex, indexes []int) []impl.Vertex {
	list := []impl.Vertex{}
	for _, i := range indexes {
		list = append(list, g[i])
	}
	return cloneGraph(list)
}

// heavySets returns the masks of all sets of members that are a quorum and within a mask.
func heavySets(c []int, within int) []int {
	masks := []int{}
	for mask := range 1 << len(c) {
		if mask&^within == 0 && isHeavy(c, subset(len(c), mask)) {
			masks = append(masks, mask)
		}
	}
	return masks
}

// lightestQuorum returns a quorum with the least weight.
func lightestQuorum(c []int) []int {
	lightest := subset(len(c), everybody(c))
	for _, mask := range heavySets(c, everybody(c)) {
		if members := subset(len(c), mask); sumAt(c, members) < sumAt(c, lightest) {
			lightest = members
		}
	}
	return lightest
}

// evenGraph has the same authors in each round, all of which are parents. Its vertices share the memory of their parents.
func evenGraph(authors []int, rounds int) []impl.Vertex {
	g := []impl.Vertex{}
	for round := range rounds {
		for _, author := range authors {
			v := vertexOf(round, author, 31*round+author)
			if round > 0 {
				v.Parents = authors
			}
			g = append(g, v)
		}
	}
	return g
}

func fullGraph(c []int, rounds int) []impl.Vertex {
	return evenGraph(subset(len(c), everybody(c)), rounds)
}

// scatteredGraph has some authors in each round and some parents for each vertex. Only in the last round, the authors may be no quorum.
func scatteredGraph(c []int, rounds int, seed int) []impl.Vertex {
	next := func(many int) int {
		seed = (seed*1103515245 + 12345) % (1 << 31)
		return (seed >> 8) % many
	}
	g, present := []impl.Vertex{}, 0
	for round := range rounds {
		sets := heavySets(c, everybody(c))
		authors := sets[next(len(sets))]
		if round == rounds-1 {
			authors = next(1 << len(c))
		}
		parents := heavySets(c, present)
		for _, author := range subset(len(c), authors) {
			v := vertexOf(round, author, next(impl.HashSize))
			if round > 0 {
				v.Parents = subset(len(c), parents[next(len(parents))])
			}
			g = append(g, v)
		}
		present = authors
	}
	return g
}

// shortGraphs has graphs without vertices and with few rounds, with and without a quorum in the last one.
func shortGraphs(c []int) [][]impl.Vertex {
	list := [][]impl.Vertex{nil, {}}
	for member := range c {
		list = append(list, []impl.Vertex{vertexOf(0, member, 990)})
	}
	for rounds := 1; rounds <= 3; rounds++ {
		list = append(list, fullGraph(c, rounds), evenGraph(lightestQuorum(c), rounds))
	}
	for seed := range 8 {
		list = append(list, scatteredGraph(c, 1+seed/2, 100*seed+len(c)))
	}
	return list
}

// manyGraphs also has graphs with all rounds.
func manyGraphs(c []int) [][]impl.Vertex {
	most := impl.MaxRound + 1
	return append(shortGraphs(c), fullGraph(c, most), evenGraph(lightestQuorum(c), most), scatteredGraph(c, most, 5), scatteredGraph(c, most, 6))
}

// eachGraph calls a function with valid graphs of several committees.
func eachGraph(each func(c []int, g []impl.Vertex)) {
	for _, c := range fewCommittees() {
		for _, g := range manyGraphs(c) {
			each(c, g)
		}
	}
}

// notParents has lists of parents that are wrong for every round from 1 on: too light sets, and lists that would be heavy enough if they were sets of members.
func notParents(c []int) [][]int {
	list, all := [][]int{nil, {}}, subset(len(c), everybody(c))
	for mask := range 1 << len(c) {
		if members := subset(len(c), mask); !isHeavy(c, members) {
			list = append(list, members)
		}
	}
	for i, member := range all {
		list = append(list, slices.Insert(slices.Clone(all), i, member), append(slices.Clone(all), member), slices.Repeat([]int{member}, 200))
	}
	if len(c) > 1 {
		backward := slices.Clone(all)
		slices.Reverse(backward)
		exchanged := slices.Clone(all)
		exchanged[0], exchanged[1] = exchanged[1], exchanged[0]
		list = append(list, backward, exchanged)
	}
	for _, n := range notMembers(c) {
		list = append(list, []int{n}, append(slices.Clone(all), n), slices.Insert(slices.Clone(all), 0, n), replaced(all, len(c)/2, n))
	}
	return list
}

// invalidVertices has vertices with one number or list that is wrong each. The parents of the others are all members.
func invalidVertices(c []int) []impl.Vertex {
	all := subset(len(c), everybody(c))
	list := []impl.Vertex{}
	for _, round := range notRounds() {
		list = append(list, vertexOf(round, 0, 7), vertexOf(round, 0, 7, all...))
	}
	for _, author := range notMembers(c) {
		list = append(list, vertexOf(0, author, 7), vertexOf(1, author, 7, all...), vertexOf(30, author, 7, all...))
	}
	for _, digest := range notDigests() {
		list = append(list, vertexOf(0, 0, digest), vertexOf(1, 0, digest, all...), vertexOf(30, 0, digest, all...))
	}
	for _, parents := range notParents(c) {
		list = append(list, vertexOf(1, 0, 7, parents...), vertexOf(2, 0, 7, parents...), vertexOf(30, 0, 7, parents...))
		if len(parents) > 0 {
			list = append(list, vertexOf(0, 0, 7, parents...))
		}
	}
	return append(list, vertexOf(0, 0, 7, all...), vertexOf(0, 0, 7, lightestQuorum(c)...))
}

// invalidGraphs has lists of valid vertices that are in a wrong order, have a round and an author twice, or lack a parent.
func invalidGraphs(c []int) [][]impl.Vertex {
	list := [][]impl.Vertex{}
	for _, g := range [][]impl.Vertex{fullGraph(c, 1), fullGraph(c, 3), evenGraph(lightestQuorum(c), 3), scatteredGraph(c, 4, 77)} {
		for i, v := range g {
			list = append(list, slices.Insert(cloneGraph(g), i, v), append(cloneGraph(g), v), withVertex(g, otherDigest(v)), append(cloneGraph(g), otherDigest(v)))
			if i > 0 {
				list = append(list, slices.Insert(withoutVertex(g, i), i-1, v), append(withoutVertex(g, 0), g[0]), slices.Insert(withoutVertex(g, i), 0, v))
			}
			if isReferred(g, v) {
				list = append(list, withoutVertex(g, i))
			}
		}
	}
	all := subset(len(c), everybody(c))
	return append(list, []impl.Vertex{vertexOf(1, 0, 7, all...)}, []impl.Vertex{vertexOf(30, 0, 7, all...)}, fullGraph(c, 31)[len(c):], slices.Repeat([]impl.Vertex{vertexOf(0, 0, 7)}, 1000))
}

func isReferred(g []impl.Vertex, parent impl.Vertex) bool {
	return slices.ContainsFunc(g, func(v impl.Vertex) bool {
		return v.Round == parent.Round+1 && slices.Contains(v.Parents, parent.Author)
	})
}

func expectAdded(t *testing.T, c []int, g []impl.Vertex, v impl.Vertex, want []impl.Vertex, code int) {
	t.Helper()
	if x, n := impl.GraphAdd(c, g, v); n != code || !sameGraph(x, want) {
		t.Errorf("in %v, adding %v to %v gives %v, %d and not %v, %d", c, v, g, x, n, want, code)
	}
}

func expectMerged(t *testing.T, c []int, a []impl.Vertex, b []impl.Vertex, want []impl.Vertex) {
	t.Helper()
	if x, ok := impl.GraphMerge(c, a, b); !ok || !sameGraph(x, want) {
		t.Errorf("in %v, merging %v and %v gives %v, %v and not %v", c, a, b, x, ok, want)
	}
}

func expectNotMerged(t *testing.T, c []int, a []impl.Vertex, b []impl.Vertex) {
	t.Helper()
	if x, ok := impl.GraphMerge(c, a, b); ok || len(x) != 0 {
		t.Errorf("in %v, merging %v and %v gives %v, %v", c, a, b, x, ok)
	}
}

// expectNoGraph expects of each function what it returns for an invalid committee or graph.
func expectNoGraph(t *testing.T, c []int, g []impl.Vertex) {
	t.Helper()
	if impl.GraphValid(c, g) {
		t.Errorf("in %v, %v is valid", c, g)
	}
	if n := impl.GraphHeight(c, g); n != -1 {
		t.Errorf("in %v, the height of %v is %d", c, g, n)
	}
	for _, round := range []int{-1, 0, 1, 2, 30, 31} {
		for _, author := range []int{-1, 0, len(c) - 1, len(c), 7} {
			if n := impl.GraphFind(c, g, round, author); n != -1 {
				t.Errorf("in %v, %v has a vertex of %d in round %d at %d", c, g, author, round, n)
			}
			if past := impl.GraphPast(c, g, round, author); len(past) != 0 {
				t.Errorf("in %v, the past of %d in round %d of %v is %v", c, author, round, g, past)
			}
		}
		if authors := impl.GraphAuthors(c, g, round); len(authors) != 0 {
			t.Errorf("in %v, the authors of round %d of %v are %v", c, round, g, authors)
		}
	}
	for _, v := range append([]impl.Vertex{vertexOf(0, 0, 5), vertexOf(-1, 0, 5), {}}, g[:min(len(g), 2)]...) {
		expectAdded(t, c, g, v, nil, impl.AddInvalid)
	}
	for _, other := range [][]impl.Vertex{nil, {}, {vertexOf(0, 0, 5)}, g} {
		expectNotMerged(t, c, g, other)
		expectNotMerged(t, c, other, g)
	}
}

func TestCodes(t *testing.T) {
	codes := []int{impl.AddDone, impl.AddKnown, impl.AddTwice, impl.AddMissing, impl.AddInvalid}
	if !slices.Equal(codes, []int{0, 1, 2, 3, 4}) || impl.MaxRound != 30 {
		t.Errorf("the codes are %v, and the largest round is %d", codes, impl.MaxRound)
	}
}

func TestVertexValid(t *testing.T) {
	for _, x := range []struct {
		c     []int
		v     impl.Vertex
		valid bool
	}{
		{[]int{1, 1, 1, 1}, impl.Vertex{}, true},
		{[]int{1, 1, 1, 1}, vertexOf(0, 3, 990), true},
		{[]int{1, 1, 1, 1}, impl.Vertex{Parents: []int{}}, true},
		{[]int{1, 1, 1, 1}, vertexOf(0, 0, 0, 0), false},
		{[]int{1, 1, 1, 1}, vertexOf(0, 0, 0, 0, 1, 2), false},
		{[]int{1, 1, 1, 1}, vertexOf(1, 0, 0, 0, 1, 2), true},
		{[]int{1, 1, 1, 1}, vertexOf(1, 0, 0, 1, 2, 3), true},
		{[]int{1, 1, 1, 1}, vertexOf(1, 0, 0, 0, 1, 2, 3), true},
		{[]int{1, 1, 1, 1}, vertexOf(1, 0, 0, 0, 1), false},
		{[]int{1, 1, 1, 1}, vertexOf(1, 0, 0), false},
		{[]int{1, 1, 1, 1}, vertexOf(30, 3, 990, 0, 2, 3), true},
		{[]int{1, 1, 1, 1}, vertexOf(31, 3, 990, 0, 2, 3), false},
		{[]int{1, 1, 1, 1}, vertexOf(1, 4, 0, 0, 1, 2), false},
		{[]int{1, 1, 1, 1}, vertexOf(1, 0, 991, 0, 1, 2), false},
		{[]int{1, 1, 1, 1}, vertexOf(1, 0, 0, 0, 1, 4), false},
		{[]int{1, 1, 1, 1}, vertexOf(1, 0, 0, 0, 1, 1), false},
		{[]int{1, 1, 1, 1}, vertexOf(1, 0, 0, 2, 1, 0), false},
		{[]int{9, 5, 3, 1}, vertexOf(1, 0, 0, 0, 2, 3), true},
		{[]int{9, 5, 3, 1}, vertexOf(1, 0, 0, 0, 2), false},
		{[]int{9, 5, 3, 1}, vertexOf(1, 0, 0, 0, 1), true},
		{[]int{9, 5, 3, 1}, vertexOf(1, 0, 0, 1, 2, 3), false},
		{[]int{1, 1, 1}, vertexOf(1, 0, 0, 0, 1), false},
		{[]int{1, 1, 1}, vertexOf(1, 0, 0, 0, 1, 2), true},
		{[]int{7}, vertexOf(0, 0, 0), true},
		{[]int{7}, vertexOf(30, 0, 0, 0), true},
		{[]int{7}, vertexOf(30, 0, 0), false},
		{[]int{3, 1}, vertexOf(1, 1, 0, 0), true},
		{[]int{2, 1}, vertexOf(1, 1, 0, 0), false},
	} {
		if impl.VertexValid(x.c, x.v) != x.valid {
			t.Errorf("in %v, that %v is valid is not %v", x.c, x.v, x.valid)
		}
	}
}

func TestPromise38ParentsAreAQuorum(t *testing.T) {
	for _, c := range fewCommittees() {
		for mask := range 1 << len(c) {
			parents := subset(len(c), mask)
			for _, round := range []int{0, 1, 2, 15, 29, 30} {
				want := isHeavy(c, parents)
				if round == 0 {
					want = mask == 0
				}
				for _, v := range []impl.Vertex{vertexOf(round, 0, 0, parents...), vertexOf(round, len(c)-1, 990, parents...)} {
					if impl.VertexValid(c, v) != want {
						t.Errorf("in %v, that %v is valid is not %v", c, v, want)
					}
				}
			}
		}
	}
}

// The expected quorums are worked out by hand.
func TestParentsOfExactlyAQuorumAndOneLess(t *testing.T) {
	for _, x := range []struct{ c, exact, fewer []int }{
		{[]int{1, 1, 1, 1}, []int{0, 1, 3}, []int{2, 3}},
		{[]int{2, 1, 1, 1}, []int{0, 1, 2}, []int{1, 2, 3}},
		{[]int{1, 2, 3}, []int{1, 2}, []int{0, 2}},
		{[]int{3, 3, 2, 1}, []int{0, 1, 3}, []int{0, 1}},
		{[]int{1, 1, 1, 1, 1, 1}, []int{0, 1, 2, 4, 5}, []int{0, 1, 4, 5}},
		{[]int{1, 2, 3, 4, 5, 6, 7}, []int{0, 4, 5, 6}, []int{4, 5, 6}},
		{[]int{9, 9, 9, 9, 9, 9, 8}, []int{0, 1, 2, 3, 6}, nil},
	} {
		if 3*sumAt(x.c, x.exact) <= 2*sumOf(x.c) || x.fewer != nil && sumAt(x.c, x.fewer) != sumAt(x.c, x.exact)-1 {
			t.Fatalf("of %v, %v are no quorum, or %v lack more than 1", x.c, x.exact, x.fewer)
		}
		g := fullGraph(x.c, 2)
		for author := range x.c {
			v := vertexOf(2, author, 12, x.exact...)
			expectAdded(t, x.c, g, v, withVertex(g, v), impl.AddDone)
			expectAdded(t, x.c, g, vertexOf(2, author, 12, x.fewer...), nil, impl.AddInvalid)
			expectNoGraph(t, x.c, withVertex(g, vertexOf(2, author, 12, x.fewer...)))
		}
	}
}

func TestInvalidVertices(t *testing.T) {
	for _, c := range fewCommittees() {
		graphs := [][]impl.Vertex{nil, fullGraph(c, 2), fullGraph(c, 31)}
		for _, v := range invalidVertices(c) {
			if impl.VertexValid(c, v) {
				t.Errorf("in %v, %v is valid", c, v)
			}
			for _, g := range graphs {
				expectAdded(t, c, g, v, nil, impl.AddInvalid)
				rest := slices.DeleteFunc(cloneGraph(g), func(other impl.Vertex) bool {
					return other.Round == v.Round && other.Author == v.Author || other.Round > v.Round && v.Round >= 0
				})
				if impl.GraphValid(c, withVertex(rest, v)) {
					t.Errorf("in %v, a graph with %v is valid", c, v)
				}
			}
		}
	}
}

func TestGraphsWithInvalidVertices(t *testing.T) {
	for _, c := range [][]int{{1}, {1, 1, 1, 1}, {9, 5, 3, 1}, {9, 9, 9, 9, 9, 9, 9}} {
		for _, v := range invalidVertices(c) {
			for _, g := range [][]impl.Vertex{nil, evenGraph(lightestQuorum(c), 3)} {
				expectNoGraph(t, c, append(cloneGraph(g), v))
				expectNoGraph(t, c, slices.Insert(cloneGraph(g), 0, v))
				expectNoGraph(t, c, withVertex(g, v))
			}
		}
	}
}

// The lists would be graphs of a committee with as many members.
func TestGraphsOfInvalidCommittees(t *testing.T) {
	for _, c := range invalidCommittees() {
		all := []int{}
		for member := range c {
			all = append(all, member)
		}
		for _, g := range [][]impl.Vertex{nil, {}, {vertexOf(0, 0, 5)}, {vertexOf(0, len(c)-1, 5)}, evenGraph(all, 2)[:min(2*len(c), 20)]} {
			expectNoGraph(t, c, g)
		}
		for _, v := range []impl.Vertex{vertexOf(0, 0, 5), vertexOf(0, len(c)-1, 5), vertexOf(1, 0, 5, all...), {}} {
			if impl.VertexValid(c, v) {
				t.Errorf("in %v, %v is valid", c, v)
			}
		}
	}
}

func TestInvalidGraphs(t *testing.T) {
	for _, c := range fewCommittees() {
		for _, g := range invalidGraphs(c) {
			if impl.GraphValid(c, g) {
				t.Errorf("in %v, %v is valid", c, g)
			}
		}
	}
	for _, c := range [][]int{{1}, {1, 2, 3}, {1, 1, 1, 1}, {9, 5, 3, 1}} {
		for _, g := range invalidGraphs(c) {
			expectNoGraph(t, c, g)
		}
	}
}

// Each list has only one flaw, which is told by hand.
func TestFlawsOfGraphs(t *testing.T) {
	c := []int{1, 1, 1, 1}
	a, b, d, e := vertexOf(0, 0, 1), vertexOf(0, 1, 2), vertexOf(0, 2, 3), vertexOf(0, 3, 4)
	x, y, z := vertexOf(1, 0, 5, 0, 1, 2), vertexOf(1, 1, 6, 0, 1, 2), vertexOf(1, 2, 7, 0, 1, 2)
	for _, g := range [][]impl.Vertex{{a}, {e}, {a, e}, {a, b, d}, {a, b, d, x}, {a, b, d, e, x, z}, {a, b, d, z}, {a, b, d, x, y, z}, {a, b, d, x, y, z, vertexOf(2, 3, 0, 0, 1, 2)}} {
		if !impl.GraphValid(c, g) {
			t.Errorf("%v is invalid", g)
		}
	}
	for _, g := range [][]impl.Vertex{
		{b, a}, {a, d, b}, {a, a}, {a, vertexOf(0, 0, 2)}, {a, b, a}, {x}, {a, b, x}, {a, b, e, x}, {b, d, e, x},
		{x, a, b, d}, {a, b, x, d}, {a, b, d, y, x}, {a, b, d, x, x}, {a, b, d, x, vertexOf(1, 0, 6, 0, 1, 2)}, {a, b, d, x, e}, {a, b, d, e, x, vertexOf(1, 0, 5, 0, 1, 3)},
		{a, b, d, vertexOf(2, 0, 5, 0, 1, 2)}, {a, b, d, x, y, vertexOf(2, 0, 5, 0, 1, 2)}, {a, b, d, x, y, z, vertexOf(2, 0, 5, 0, 1, 3)},
		{a, b, d, e, x, y, z, vertexOf(2, 0, 5, 1, 2, 3)}, {a, b, d, vertexOf(1, 0, 5, 0, 1)}, {a, b, d, x, y, vertexOf(1, 4, 5, 0, 1, 2)}, {a, b, d, vertexOf(0, 4, 5)},
	} {
		expectNoGraph(t, c, g)
	}
}

func TestPromise39ParentsAreInTheGraph(t *testing.T) {
	eachGraph(func(c []int, g []impl.Vertex) {
		if !impl.GraphValid(c, g) {
			t.Errorf("in %v, %v is invalid", c, g)
		}
		for i, v := range g {
			for _, author := range v.Parents {
				if n := impl.GraphFind(c, g, v.Round-1, author); n < 0 || n >= i || g[n].Round != v.Round-1 || g[n].Author != author {
					t.Fatalf("in %v, the parent %d of %v is at %d in %v", c, author, v, n, g)
				}
			}
			if impl.GraphValid(c, withoutVertex(g, i)) == isReferred(g, v) {
				t.Fatalf("in %v, %v without %v is valid, or wrongly invalid", c, g, v)
			}
		}
	})
}

func TestPromise40PrefixesAreValid(t *testing.T) {
	eachGraph(func(c []int, g []impl.Vertex) {
		for i := range g {
			if !impl.GraphValid(c, g[:i]) {
				t.Fatalf("in %v, the first %d vertices of %v are invalid", c, i, g)
			}
		}
	})
}

func TestPromise41VerticesAreFound(t *testing.T) {
	eachGraph(func(c []int, g []impl.Vertex) {
		for i, v := range g {
			if n := impl.GraphFind(c, g, v.Round, v.Author); n != i {
				t.Fatalf("in %v, %v is at %d in %v", c, v, n, g)
			}
		}
		for _, round := range append(notRounds(), 0, 1, 2, 3, 4, 29, 30) {
			for author := -1; author <= len(c); author++ {
				if n := impl.GraphFind(c, g, round, author); n != indexOf(g, round, author) {
					t.Fatalf("in %v, the vertex of %d in round %d is at %d in %v", c, author, round, n, g)
				}
			}
		}
		for _, author := range notMembers(c) {
			for _, round := range []int{-1, 0, 1, 30, 31} {
				if n := impl.GraphFind(c, g, round, author); n != -1 {
					t.Fatalf("in %v, %d has a vertex in round %d of %v", c, author, round, g)
				}
			}
		}
	})
}

// In each round, the authors come in another order.
func TestPromise42AddedVertices(t *testing.T) {
	eachGraph(func(c []int, g []impl.Vertex) {
		for _, factor := range []int{2, 4} {
			order := cloneGraph(g)
			slices.SortStableFunc(order, func(a impl.Vertex, b impl.Vertex) int {
				return 100*(a.Round-b.Round) + a.Author*factor%7 - b.Author*factor%7
			})
			built := []impl.Vertex{}
			for _, v := range order {
				want := withVertex(built, v)
				expectAdded(t, c, built, v, want, impl.AddDone)
				built, _ = impl.GraphAdd(c, built, v)
				if len(built) != len(want) || !impl.GraphValid(c, built) {
					t.Fatalf("in %v, adding %v gives %v", c, v, built)
				}
			}
			if !sameGraph(built, g) {
				t.Fatalf("in %v, adding the vertices of %v gives %v", c, g, built)
			}
		}
	})
}

// Vertices of later rounds are there before those of earlier ones.
func TestVerticesAddedToEarlierRounds(t *testing.T) {
	for _, c := range [][]int{{1, 1, 1, 1}, {9, 5, 3, 1}, {1, 2, 3, 4, 5, 6, 7}, {1, 1, 1, 1, 1, 1, 9}} {
		low := evenGraph(lightestQuorum(c), 31)
		g := cloneGraph(low)
		for round := range 31 {
			for author := range c {
				v := vertexOf(round, author, 980)
				if round > 0 {
					v.Parents = subset(len(c), everybody(c))
				}
				if indexOf(low, round, author) >= 0 {
					expectAdded(t, c, g, v, g, impl.AddTwice)
					continue
				}
				expectAdded(t, c, g, v, withVertex(g, v), impl.AddDone)
				g = withVertex(g, v)
			}
		}
		if len(g) != 31*len(c) || !impl.GraphValid(c, g) {
			t.Errorf("in %v, %v is not the full graph", c, g)
		}
	}
}

func TestPromise43AddedAgain(t *testing.T) {
	for _, c := range fewCommittees() {
		all := subset(len(c), everybody(c))
		for _, g := range shortGraphs(c) {
			for round := range 5 {
				for author := range c {
					v := vertexOf(round, author, 17)
					if round > 0 {
						v.Parents = lightestQuorum(c)
					}
					x, code := impl.GraphAdd(c, g, v)
					if code != impl.AddDone {
						continue
					}
					expectAdded(t, c, x, v, x, impl.AddKnown)
					for _, digest := range []int{0, 16, 18, 990} {
						expectAdded(t, c, x, vertexOf(round, author, digest, v.Parents...), x, impl.AddTwice)
					}
					if round > 0 && len(all) > len(v.Parents) {
						expectAdded(t, c, x, vertexOf(round, author, 17, all...), x, impl.AddTwice)
					}
				}
			}
		}
	}
}

// codeOf tells without the program what adding a valid vertex to a valid graph returns.
func codeOf(g []impl.Vertex, v impl.Vertex) int {
	i := indexOf(g, v.Round, v.Author)
	if i >= 0 && sameVertex(g[i], v) {
		return 1
	}
	if i >= 0 {
		return 2
	}
	for _, author := range v.Parents {
		if indexOf(g, v.Round-1, author) < 0 {
			return 3
		}
	}
	return 0
}

func expectCode(t *testing.T, c []int, g []impl.Vertex, v impl.Vertex) int {
	t.Helper()
	code := codeOf(g, v)
	if code == 0 {
		expectAdded(t, c, g, v, withVertex(g, v), code)
	} else {
		expectAdded(t, c, g, v, g, code)
	}
	return code
}

func TestPromise44FirstCodeThatApplies(t *testing.T) {
	counts := [5]int{}
	for _, c := range [][]int{{1}, {1, 9}, {1, 2, 3}, {1, 1, 1, 1}, {9, 5, 3, 1}, {1, 2, 3, 4, 5}, {2, 2, 2, 2, 2, 2, 2}} {
		for _, g := range shortGraphs(c) {
			for author := range c {
				counts[expectCode(t, c, g, vertexOf(0, author, 13))]++
				for _, mask := range heavySets(c, everybody(c)) {
					for round := 1; round <= 5; round++ {
						counts[expectCode(t, c, g, vertexOf(round, author, 13, subset(len(c), mask)...))]++
						if i := indexOf(g, round, author); i >= 0 {
							counts[expectCode(t, c, g, vertexOf(round, author, g[i].Digest, subset(len(c), mask)...))]++
						}
					}
				}
			}
			for _, v := range g {
				counts[expectCode(t, c, g, v)]++
				counts[expectCode(t, c, g, otherDigest(v))]++
			}
		}
	}
	if slices.Contains(counts[:4], 0) {
		t.Errorf("the codes occur %v times", counts)
	}
}

func TestCodesOfAdding(t *testing.T) {
	c := []int{1, 1, 1, 1}
	g := append(evenGraph([]int{0, 1, 2}, 2), vertexOf(2, 0, 9, 0, 1, 2))
	for _, x := range []struct {
		v    impl.Vertex
		code int
	}{
		{vertexOf(0, 1, 1), impl.AddKnown},
		{impl.Vertex{Round: 0, Author: 1, Parents: []int{}, Digest: 1}, impl.AddKnown},
		{vertexOf(0, 1, 2), impl.AddTwice},
		{vertexOf(0, 3, 1), impl.AddDone},
		{vertexOf(1, 2, 33, 0, 1, 2), impl.AddKnown},
		{vertexOf(1, 2, 34, 0, 1, 2), impl.AddTwice},
		{vertexOf(1, 2, 33, 0, 1, 3), impl.AddTwice},
		{vertexOf(1, 2, 33, 0, 1, 2, 3), impl.AddTwice},
		{vertexOf(1, 2, 34, 1, 2, 3), impl.AddTwice},
		{vertexOf(1, 3, 34, 0, 1, 2), impl.AddDone},
		{vertexOf(1, 3, 34, 0, 1, 3), impl.AddMissing},
		{vertexOf(1, 3, 34, 0, 1, 2, 3), impl.AddMissing},
		{vertexOf(2, 0, 9, 0, 1, 2), impl.AddKnown},
		{vertexOf(2, 0, 9, 1, 2, 3), impl.AddTwice},
		{vertexOf(2, 1, 9, 0, 1, 2), impl.AddDone},
		{vertexOf(2, 1, 9, 1, 2, 3), impl.AddMissing},
		{vertexOf(3, 0, 9, 0, 1, 2), impl.AddMissing},
		{vertexOf(4, 0, 9, 0, 1, 2), impl.AddMissing},
		{vertexOf(30, 3, 9, 0, 1, 2), impl.AddMissing},
		{vertexOf(31, 3, 9, 0, 1, 2), impl.AddInvalid},
		{vertexOf(-1, 3, 9, 0, 1, 2), impl.AddInvalid},
		{vertexOf(1, 2, 33, 0, 1), impl.AddInvalid},
		{vertexOf(0, 1, 1, 0, 1, 2), impl.AddInvalid},
		{vertexOf(1, 2, 991, 0, 1, 3), impl.AddInvalid},
	} {
		switch x.code {
		case impl.AddDone:
			expectAdded(t, c, g, x.v, withVertex(g, x.v), x.code)
		case impl.AddInvalid:
			expectAdded(t, c, g, x.v, nil, x.code)
		default:
			expectAdded(t, c, g, x.v, g, x.code)
		}
	}
	expectAdded(t, c, nil, vertexOf(0, 3, 0), []impl.Vertex{vertexOf(0, 3, 0)}, impl.AddDone)
	expectAdded(t, c, nil, vertexOf(1, 3, 0, 0, 1, 2), nil, impl.AddMissing)
}

// The pairs are of any rounds, so that some can be added in one order only.
func TestPromise45OrderOfAdding(t *testing.T) {
	pairs := 0
	for _, c := range [][]int{{1}, {3, 1}, {1, 1, 1, 1}, {9, 5, 3, 1}, {1, 2, 3, 4, 5}} {
		for _, g := range shortGraphs(c) {
			news := []impl.Vertex{}
			for author := range c {
				news = append(news, vertexOf(0, author, 40), vertexOf(0, author, 41))
				for round := 1; round <= 4; round++ {
					news = append(news, vertexOf(round, author, 42, lightestQuorum(c)...), vertexOf(round, author, 42, subset(len(c), everybody(c))...))
				}
			}
			for _, v := range news {
				first, code := impl.GraphAdd(c, g, v)
				if code != impl.AddDone {
					continue
				}
				for _, w := range news {
					both, second := impl.GraphAdd(c, first, w)
					other, before := impl.GraphAdd(c, g, w)
					if second == impl.AddDone && before == impl.AddDone {
						expectAdded(t, c, other, v, both, impl.AddDone)
						pairs++
					}
				}
			}
		}
	}
	if pairs == 0 {
		t.Error("no two vertices were added")
	}
}

// The expected indexes are worked out by hand.
func TestGraphPast(t *testing.T) {
	c := []int{1, 1, 1, 1}
	g := []impl.Vertex{
		vertexOf(0, 0, 1), vertexOf(0, 1, 1), vertexOf(0, 2, 1), vertexOf(0, 3, 1),
		vertexOf(1, 0, 1, 0, 1, 2), vertexOf(1, 1, 1, 0, 1, 2), vertexOf(1, 2, 1, 0, 1, 2), vertexOf(1, 3, 1, 1, 2, 3),
		vertexOf(2, 0, 1, 0, 1, 2), vertexOf(2, 2, 1, 0, 1, 3), vertexOf(2, 3, 1, 1, 2, 3),
		vertexOf(3, 1, 1, 0, 2, 3),
	}
	for _, x := range []struct {
		round, author int
		past          []int
	}{
		{0, 0, []int{0}},
		{0, 3, []int{3}},
		{1, 0, []int{0, 1, 2, 4}},
		{1, 3, []int{1, 2, 3, 7}},
		{2, 0, []int{0, 1, 2, 4, 5, 6, 8}},
		{2, 2, []int{0, 1, 2, 3, 4, 5, 7, 9}},
		{2, 3, []int{0, 1, 2, 3, 5, 6, 7, 10}},
		{3, 1, []int{0, 1, 2, 3, 4, 5, 6, 7, 8, 9, 10, 11}},
		{2, 1, nil},
		{3, 0, nil},
		{4, 1, nil},
		{0, 4, nil},
		{-1, 0, nil},
		{0, -1, nil},
		{0, 7, nil},
		{31, 0, nil},
		{math.MaxInt, 1, nil},
		{math.MinInt, math.MinInt, nil},
		{1, math.MaxInt, nil},
	} {
		if past := impl.GraphPast(c, g, x.round, x.author); !slices.Equal(past, x.past) {
			t.Errorf("the past of %d in round %d is %v, not %v", x.author, x.round, past, x.past)
		}
	}
}

func TestPromise46PastHasParents(t *testing.T) {
	eachGraph(func(c []int, g []impl.Vertex) {
		for i, v := range g {
			past := impl.GraphPast(c, g, v.Round, v.Author)
			if !slices.Equal(past, pastOf(g, i)) || past[len(past)-1] != i {
				t.Fatalf("in %v, the past of %d in %v is %v", c, i, g, past)
			}
			for _, n := range past {
				for _, author := range g[n].Parents {
					if !slices.Contains(past, indexOf(g, g[n].Round-1, author)) {
						t.Fatalf("in %v, the past of %d in %v lacks a parent of %d", c, i, g, n)
					}
				}
			}
		}
	})
}

func TestNoPast(t *testing.T) {
	eachGraph(func(c []int, g []impl.Vertex) {
		for _, round := range append(notRounds(), 0, 1, 2, 3, 4, 29, 30) {
			for _, author := range append(notMembers(c), subset(len(c), everybody(c))...) {
				if indexOf(g, round, author) < 0 && len(impl.GraphPast(c, g, round, author)) != 0 {
					t.Fatalf("in %v, %d in round %d of %v has a past", c, author, round, g)
				}
			}
		}
	})
}

func TestPromise47PastHasOnlyParents(t *testing.T) {
	eachGraph(func(c []int, g []impl.Vertex) {
		for _, v := range g {
			past := impl.GraphPast(c, g, v.Round, v.Author)
			referred := map[[2]int]bool{}
			for _, n := range past {
				for _, author := range g[n].Parents {
					referred[[2]int{g[n].Round - 1, author}] = true
				}
			}
			for _, n := range past[:len(past)-1] {
				if !referred[[2]int{g[n].Round, g[n].Author}] {
					t.Fatalf("in %v, %d is in the past of %v in %v", c, n, v, g)
				}
			}
		}
	})
}

func TestPromise48PastStaysTheSame(t *testing.T) {
	for _, c := range fewCommittees() {
		for _, g := range shortGraphs(c) {
			for author := range c {
				for round := range 4 {
					added := vertexOf(round, author, 8)
					if round > 0 {
						added.Parents = lightestQuorum(c)
					}
					x, code := impl.GraphAdd(c, g, added)
					if code != impl.AddDone {
						continue
					}
					for _, v := range g {
						before := partOf(g, impl.GraphPast(c, g, v.Round, v.Author))
						after := partOf(x, impl.GraphPast(c, x, v.Round, v.Author))
						if len(before) == 0 || !sameGraph(before, after) {
							t.Errorf("in %v, the past of %v is %v and, with %v, %v", c, v, before, added, after)
						}
					}
				}
			}
		}
	}
}

func TestPromise49PastHasQuorums(t *testing.T) {
	eachGraph(func(c []int, g []impl.Vertex) {
		for _, v := range g {
			past := partOf(g, impl.GraphPast(c, g, v.Round, v.Author))
			for round := range v.Round {
				if !isHeavy(c, authorsOf(past, round)) {
					t.Fatalf("in %v, the authors of round %d in the past of %v are %v", c, round, v, authorsOf(past, round))
				}
			}
		}
	})
}

func TestPromise50AuthorsOfRounds(t *testing.T) {
	eachGraph(func(c []int, g []impl.Vertex) {
		for _, round := range append(notRounds(), 0, 1, 2, 3, 4, 15, 29, 30) {
			found := []int{}
			for author := range c {
				if impl.GraphFind(c, g, round, author) >= 0 {
					found = append(found, author)
				}
			}
			if authors := impl.GraphAuthors(c, g, round); !slices.Equal(authors, found) || !slices.Equal(authors, authorsOf(g, round)) {
				t.Fatalf("in %v, the authors of round %d of %v are %v", c, round, g, authors)
			}
		}
	})
}

func TestPromise51Height(t *testing.T) {
	eachGraph(func(c []int, g []impl.Vertex) {
		height := impl.GraphHeight(c, g)
		if height < -1 || height > 30 {
			t.Fatalf("in %v, the height of %v is %d", c, g, height)
		}
		for round := range 31 {
			if isHeavy(c, impl.GraphAuthors(c, g, round)) != (round <= height) {
				t.Fatalf("in %v, the height of %v is %d", c, g, height)
			}
		}
	})
}

// The expected heights are worked out by hand.
func TestGraphHeight(t *testing.T) {
	equal, heavy := []int{1, 1, 1, 1}, []int{9, 5, 3, 1}
	for _, x := range []struct {
		c      []int
		g      []impl.Vertex
		height int
	}{
		{equal, nil, -1},
		{equal, []impl.Vertex{}, -1},
		{equal, []impl.Vertex{vertexOf(0, 3, 0)}, -1},
		{equal, evenGraph([]int{0, 3}, 1), -1},
		{equal, evenGraph([]int{1, 2, 3}, 1), 0},
		{equal, fullGraph(equal, 2)[:5], 0},
		{equal, fullGraph(equal, 2)[:6], 0},
		{equal, fullGraph(equal, 2)[:7], 1},
		{equal, fullGraph(equal, 2), 1},
		{equal, fullGraph(equal, 31)[:30*4], 29},
		{equal, fullGraph(equal, 31)[:30*4+2], 29},
		{equal, fullGraph(equal, 31)[:30*4+3], 30},
		{equal, fullGraph(equal, 31), 30},
		{heavy, evenGraph([]int{1, 2, 3}, 1), -1},
		{heavy, evenGraph([]int{0, 2}, 1), -1},
		{heavy, evenGraph([]int{0, 2, 3}, 1), 0},
		{heavy, evenGraph([]int{0, 1}, 4), 3},
		{heavy, append(evenGraph([]int{0, 1}, 4), vertexOf(4, 0, 0, 0, 1)), 3},
		{heavy, append(evenGraph([]int{0, 1}, 4), vertexOf(4, 0, 0, 0, 1), vertexOf(4, 2, 0, 0, 1)), 3},
		{heavy, append(evenGraph([]int{0, 1}, 4), vertexOf(4, 0, 0, 0, 1), vertexOf(4, 2, 0, 0, 1), vertexOf(4, 3, 0, 0, 1)), 4},
		{[]int{9}, nil, -1},
		{[]int{9}, evenGraph([]int{0}, 1), 0},
		{[]int{9}, evenGraph([]int{0}, 31), 30},
		{[]int{2, 1}, evenGraph([]int{0}, 1), -1},
		{[]int{3, 1}, evenGraph([]int{0}, 1), 0},
	} {
		if n := impl.GraphHeight(x.c, x.g); n != x.height {
			t.Errorf("in %v, the height of %v is %d, not %d", x.c, x.g, n, x.height)
		}
	}
}

// unionOf has the vertices of both lists, and tells whether two of them contradict each other, without the program.
func unionOf(a []impl.Vertex, b []impl.Vertex) ([]impl.Vertex, bool) {
	union := cloneGraph(a)
	for _, v := range b {
		i := indexOf(union, v.Round, v.Author)
		if i >= 0 && !sameVertex(union[i], v) {
			return nil, false
		}
		if i < 0 {
			union = withVertex(union, v)
		}
	}
	return union, true
}

// expectUnion merges two graphs in both orders, and the result with either one again.
func expectUnion(t *testing.T, c []int, a []impl.Vertex, b []impl.Vertex) bool {
	t.Helper()
	union, ok := unionOf(a, b)
	if !ok {
		expectNotMerged(t, c, a, b)
		expectNotMerged(t, c, b, a)
		return false
	}
	expectMerged(t, c, a, b, union)
	expectMerged(t, c, b, a, union)
	expectMerged(t, c, union, a, union)
	expectMerged(t, c, b, union, union)
	if !impl.GraphValid(c, union) {
		t.Errorf("in %v, %v is invalid", c, union)
	}
	return true
}

func TestPromise52MergedGraphsHaveTheVerticesOfBoth(t *testing.T) {
	for _, c := range fewCommittees() {
		g := scatteredGraph(c, 4, 3*len(c))
		for i := range g {
			for j := range g {
				if !expectUnion(t, c, partOf(g, pastOf(g, i)), partOf(g, pastOf(g, j))) {
					t.Fatalf("in %v, parts of %v contradict each other", c, g)
				}
			}
		}
	}
}

func TestPromise53MergingAgainChangesNothing(t *testing.T) {
	eachGraph(func(c []int, g []impl.Vertex) {
		expectMerged(t, c, g, g, g)
		for _, part := range [][]impl.Vertex{nil, {}, g[:len(g)/2], g[:len(g)/3]} {
			expectMerged(t, c, g, part, g)
			expectMerged(t, c, part, g, g)
		}
		for i := 0; i < len(g); i += 1 + len(g)/10 {
			expectMerged(t, c, g, partOf(g, pastOf(g, i)), g)
			expectMerged(t, c, partOf(g, pastOf(g, i)), g, g)
		}
	})
}

func TestPromise54ContradictionsFail(t *testing.T) {
	eachGraph(func(c []int, g []impl.Vertex) {
		for i := 0; i < len(g); i += 1 + len(g)/20 {
			other := replacedVertex(g, i, otherDigest(g[i]))
			expectNotMerged(t, c, g, other)
			expectNotMerged(t, c, other, g)
			part := partOf(other, pastOf(other, i))
			expectNotMerged(t, c, g, part)
			expectNotMerged(t, c, part, g)
			if len(g[i].Parents) < len(c) && g[i].Round > 0 {
				all := authorsOf(g, g[i].Round-1)
				more := replacedVertex(g, i, vertexOf(g[i].Round, g[i].Author, g[i].Digest, all...))
				if (len(all) > len(g[i].Parents)) == expectUnion(t, c, g, more) {
					t.Errorf("in %v, that %v and %v can be merged is wrong", c, g, more)
				}
			}
		}
	})
}

func TestMergingOfAllPairs(t *testing.T) {
	merged, failed := 0, 0
	for _, c := range [][]int{{1}, {1, 9}, {1, 1, 1, 1}, {9, 5, 3, 1}, {1, 2, 3, 4, 5}} {
		for _, a := range shortGraphs(c) {
			for _, b := range append(shortGraphs(c), fullGraph(c, 31)) {
				if expectUnion(t, c, a, b) {
					merged++
				} else {
					failed++
				}
			}
		}
	}
	if merged == 0 || failed == 0 {
		t.Errorf("%d pairs were merged, and %d failed", merged, failed)
	}
}

// The expected graphs are worked out by hand: neither graph is a part of the other one.
func TestGraphMerge(t *testing.T) {
	c := []int{1, 1, 1, 1}
	a, b, d, e := vertexOf(0, 0, 1), vertexOf(0, 1, 2), vertexOf(0, 2, 3), vertexOf(0, 3, 4)
	x, y := vertexOf(1, 0, 5, 0, 1, 2), vertexOf(1, 1, 6, 1, 2, 3)
	expectMerged(t, c, []impl.Vertex{a, b, d, x}, []impl.Vertex{b, d, e, y}, []impl.Vertex{a, b, d, e, x, y})
	expectMerged(t, c, []impl.Vertex{b, d, e, y}, []impl.Vertex{a, b, d, x}, []impl.Vertex{a, b, d, e, x, y})
	expectMerged(t, c, []impl.Vertex{e}, []impl.Vertex{a}, []impl.Vertex{a, e})
	expectMerged(t, c, []impl.Vertex{e}, nil, []impl.Vertex{e})
	expectMerged(t, c, nil, []impl.Vertex{e}, []impl.Vertex{e})
	expectMerged(t, c, nil, nil, nil)
	expectMerged(t, c, []impl.Vertex{{Parents: []int{}}}, []impl.Vertex{{Parents: nil}}, []impl.Vertex{{}})
	expectNotMerged(t, c, []impl.Vertex{a}, []impl.Vertex{vertexOf(0, 0, 2)})
	expectNotMerged(t, c, []impl.Vertex{a, b, d, x}, []impl.Vertex{b, d, e, vertexOf(1, 0, 5, 1, 2, 3)})
	expectNotMerged(t, c, []impl.Vertex{a, b, d, e, x}, []impl.Vertex{a, b, d, e, vertexOf(1, 0, 5, 0, 1, 2, 3)})
	expectNotMerged(t, c, []impl.Vertex{a, b, d, x}, []impl.Vertex{a, b, d, vertexOf(1, 0, 6, 0, 1, 2)})
	expectNotMerged(t, c, []impl.Vertex{a, b, d, x}, []impl.Vertex{b, d, vertexOf(0, 3, 4), vertexOf(1, 0, 5, 1, 2, 3)})
	expectNotMerged(t, c, []impl.Vertex{a, b, d}, []impl.Vertex{b, d, vertexOf(0, 0, 1)})
	expectNotMerged(t, []int{9, 9, 9, 1, 1, 1, 1, 1}, nil, nil)
}

// The same list is a graph of one committee and none of another one, which has other weights or fewer members.
func TestGraphsOfOtherCommittees(t *testing.T) {
	g := evenGraph([]int{0, 1}, 3)
	for _, c := range [][]int{{9, 5, 3, 1}, {1, 1}, {3, 2, 2}, {9, 9, 1, 1, 1, 1, 1}} {
		if !impl.GraphValid(c, g) || impl.GraphHeight(c, g) != 2 {
			t.Errorf("in %v, %v is invalid, or its height is not 2", c, g)
		}
	}
	for _, c := range [][]int{{1, 1, 1}, {1, 1, 1, 1}, {1}, {9}, {9, 1, 5}, {4, 4, 4}, {9, 1, 1, 1, 1, 1, 1}} {
		expectNoGraph(t, c, g)
	}
}

// roomy has hidden vertices, and hidden members after the parents of each vertex, which nobody may change.
func roomy(g []impl.Vertex) []impl.Vertex {
	list := []impl.Vertex{}
	for _, v := range g {
		parents := append(slices.Clone(v.Parents), -7, -7, -7)
		list = append(list, vertexOf(v.Round, v.Author, v.Digest, parents[:len(v.Parents)]...))
	}
	hidden := vertexOf(-7, -7, -7)
	return append(list, hidden, hidden, hidden)[:len(g)]
}

// isUntouched compares a list made by roomy with its origin, and looks at what is hidden.
func isUntouched(list []impl.Vertex, g []impl.Vertex) bool {
	if !sameGraph(list, g) {
		return false
	}
	for _, v := range list {
		if hidden := v.Parents[len(v.Parents) : len(v.Parents)+3]; !slices.Equal(hidden, []int{-7, -7, -7}) {
			return false
		}
	}
	for _, v := range list[len(list) : len(list)+3] {
		if !sameVertex(v, vertexOf(-7, -7, -7)) {
			return false
		}
	}
	return true
}

// spoilGraph changes vertices, their parents, and what lies beyond their lengths.
func spoilGraph(g []impl.Vertex) {
	for i := range g {
		spoil(g[i].Parents)
	}
	g = g[:cap(g)]
	for i := range g {
		g[i] = impl.Vertex{Round: -5, Author: -5, Digest: -5}
	}
}

// expectApart spoils each vertex of a result alone and expects the others to stay the same.
func expectApart(t *testing.T, g []impl.Vertex) {
	t.Helper()
	kept := cloneGraph(g)
	for i := range g {
		spoil(g[i].Parents)
		if !sameGraph(g[i+1:], kept[i+1:]) {
			t.Fatalf("%v shares its parents with a later vertex", kept[i])
		}
	}
	spoilGraph(g)
}

func TestAddedGraphsAreApart(t *testing.T) {
	for _, c := range fewCommittees() {
		members, all := slices.Clone(c), subset(len(c), everybody(c))
		for _, before := range append(shortGraphs(c), fullGraph(c, 31)) {
			news := append(cloneGraph(before[:min(len(before), 20)]), vertexOf(0, 0, 3), vertexOf(1, 0, 3, all...), vertexOf(2, len(c)-1, 3, lightestQuorum(c)...), vertexOf(3, 0, 3, all...), vertexOf(4, 0, 3))
			for _, v := range news {
				g, added := roomy(before), roomy([]impl.Vertex{v})
				x, code := impl.GraphAdd(members, g, added[0])
				again, _ := impl.GraphAdd(members, g, added[0])
				want := cloneGraph(x)
				expectApart(t, x)
				if !isUntouched(g, before) || !isUntouched(added, []impl.Vertex{v}) || !slices.Equal(members, c) {
					t.Fatalf("in %v, adding %v to %v, with code %d, changes an argument, or shares its memory", c, v, before, code)
				}
				if !sameGraph(again, want) {
					t.Fatalf("in %v, two results of adding %v to %v share memory", c, v, before)
				}
			}
		}
	}
}

// The vertices of an even graph share the memory of their parents, and both arguments are the same.
func TestGraphsThatShareMemory(t *testing.T) {
	for _, c := range fewCommittees() {
		for _, rounds := range []int{1, 2, 4, 31} {
			g, kept := fullGraph(c, rounds), cloneGraph(fullGraph(c, rounds))
			x, _ := impl.GraphAdd(c, g, g[len(g)-1])
			expectApart(t, x)
			y, _ := impl.GraphMerge(c, g, g)
			expectApart(t, y)
			if !sameGraph(g, kept) {
				t.Errorf("in %v, %v is changed, or shared with a result", c, kept)
			}
		}
	}
}

func TestMergedGraphsAreApart(t *testing.T) {
	for _, c := range fewCommittees() {
		members := slices.Clone(c)
		for _, first := range shortGraphs(c) {
			for _, second := range [][]impl.Vertex{nil, first, first[:len(first)/2], fullGraph(c, 3), evenGraph(lightestQuorum(c), 2)} {
				a, b := roomy(first), roomy(second)
				x, _ := impl.GraphMerge(members, a, b)
				again, _ := impl.GraphMerge(members, a, b)
				want := cloneGraph(x)
				expectApart(t, x)
				if !isUntouched(a, first) || !isUntouched(b, second) || !slices.Equal(members, c) {
					t.Fatalf("in %v, merging %v and %v changes an argument, or shares its memory", c, first, second)
				}
				if !sameGraph(again, want) {
					t.Fatalf("in %v, two results of merging %v and %v share memory", c, first, second)
				}
			}
		}
	}
}

func TestGraphsAreOnlyRead(t *testing.T) {
	eachGraph(func(c []int, g []impl.Vertex) {
		members, list := slices.Clone(c), roomy(g)
		impl.GraphValid(members, list)
		impl.GraphHeight(members, list)
		for _, round := range []int{-1, 0, 1, 30} {
			impl.GraphFind(members, list, round, 0)
			past, authors := impl.GraphPast(members, list, round, 0), impl.GraphAuthors(members, list, round)
			nextPast, nextAuthors := impl.GraphPast(members, list, round, 0), impl.GraphAuthors(members, list, round)
			spoil(past)
			spoil(authors)
			if i := indexOf(g, round, 0); i >= 0 && !slices.Equal(nextPast, pastOf(g, i)) || !slices.Equal(nextAuthors, authorsOf(g, round)) {
				t.Fatalf("in %v, two results for round %d of %v share memory", c, round, g)
			}
		}
		for _, v := range list {
			impl.VertexValid(members, v)
		}
		if !isUntouched(list, g) || !slices.Equal(members, c) {
			t.Fatalf("in %v, %v is changed", c, g)
		}
	})
}
