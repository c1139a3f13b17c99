package tests

import (
	"cmp"
	"math"
	"slices"
	"testing"

	"loop.example/dagconsensus/impl"
)

func slotOf(v impl.Vertex) impl.Slot {
	return impl.Slot{Round: v.Round, Author: v.Author}
}

// slotsOf reads slots from numbers: 10 times the round, plus the author.
func slotsOf(numbers ...int) []impl.Slot {
	slots := []impl.Slot{}
	for _, n := range numbers {
		slots = append(slots, impl.Slot{Round: n / 10, Author: n % 10})
	}
	return slots
}

// notSlots has slots that cannot have a vertex: with a round or an author that is out of range, or both.
func notSlots(c []int) []impl.Slot {
	slots := []impl.Slot{}
	for _, round := range append(notRounds(), math.MaxInt/2, math.MinInt/2) {
		slots = append(slots, impl.Slot{Round: round}, impl.Slot{Round: round, Author: len(c) - 1}, impl.Slot{Round: round, Author: round})
	}
	for _, author := range notMembers(c) {
		for _, round := range []int{0, 1, 2, 6, 30} {
			slots = append(slots, impl.Slot{Round: round, Author: author})
		}
	}
	return slots
}

// wavesBy returns, for each vertex, the wave that orders it, or 0, without the program. Only the first committed wave that has a vertex in the past of its leader vertex matters: it orders the vertex, or is too far away, and later ones are farther.
func (x led) wavesBy() []int {
	waves, found := make([]int, len(x.g)), make([]bool, len(x.g))
	for _, wave := range x.committedBy() {
		reach := reachOf(x.g, x.leaderBy(wave))
		for i, v := range x.g {
			if found[i] || reach[v.Round]>>v.Author&1 == 0 {
				continue
			}
			found[i] = true
			if v.Round >= 2*wave-7 {
				waves[i] = wave
			}
		}
	}
	return waves
}

// orderedBy puts vertices that have a wave in order, without the program: as a graph is ordered by round and author, sorting by the wave alone leaves it so within a wave.
func orderedBy(g []impl.Vertex, waves []int) []impl.Vertex {
	indexes, list := []int{}, []impl.Vertex{}
	for i := range g {
		if waves[i] > 0 {
			indexes = append(indexes, i)
		}
	}
	slices.SortStableFunc(indexes, func(a int, b int) int {
		return cmp.Compare(waves[a], waves[b])
	})
	for _, i := range indexes {
		list = append(list, g[i])
	}
	return list
}

// vertexAt returns the vertex of a slot, which must be there.
func (x led) vertexAt(t *testing.T, s impl.Slot) impl.Vertex {
	t.Helper()
	i := indexOf(x.g, s.Round, s.Author)
	if i < 0 {
		t.Fatalf("in %v, %v with the leaders %v orders %v, which has no vertex", x.c, x.g, x.leaders, s)
	}
	return x.g[i]
}

func expectSlots(t *testing.T, x led, want []impl.Slot) {
	t.Helper()
	if slots := impl.OrderSlots(x.c, x.g, x.leaders); !slices.Equal(slots, want) {
		t.Fatalf("in %v, %v with the leaders %v orders %v, not %v", x.c, x.g, x.leaders, slots, want)
	}
}

// expectOrder expects the wave of each vertex, or 0, and the order that follows from them.
func expectOrder(t *testing.T, x led, waves []int) {
	t.Helper()
	slots, digests := []impl.Slot{}, []int{}
	for _, v := range orderedBy(x.g, waves) {
		slots, digests = append(slots, slotOf(v)), append(digests, v.Digest)
	}
	expectSlots(t, x, slots)
	if list := impl.OrderDigests(x.c, x.g, x.leaders); !slices.Equal(list, digests) {
		t.Fatalf("in %v, %v with the leaders %v orders the digests %v, not %v", x.c, x.g, x.leaders, list, digests)
	}
}

func expectOrderWave(t *testing.T, x led, s impl.Slot, want int) {
	t.Helper()
	if wave := impl.OrderWave(x.c, x.g, x.leaders, s); wave != want {
		t.Fatalf("in %v, %v with the leaders %v orders %v in wave %d, not %d", x.c, x.g, x.leaders, s, wave, want)
	}
}

func expectOrderWaves(t *testing.T, x led, waves []int) {
	t.Helper()
	for i, v := range x.g {
		expectOrderWave(t, x, slotOf(v), waves[i])
	}
}

// expectNoOrder expects what the functions return for an invalid graph or invalid leaders.
func expectNoOrder(t *testing.T, x led) {
	t.Helper()
	expectSlots(t, x, nil)
	if digests := impl.OrderDigests(x.c, x.g, x.leaders); len(digests) != 0 {
		t.Fatalf("in %v, %v with the leaders %v orders the digests %v", x.c, x.g, x.leaders, digests)
	}
	for _, s := range slotsOf(0, 1, 3, 10, 11, 17, 20, 300, 310) {
		expectOrderWave(t, x, s, -1)
	}
	expectOrderWave(t, x, impl.Slot{Round: -1, Author: -1}, -1)
	for _, v := range x.g[:min(len(x.g), 8)] {
		expectOrderWave(t, x, slotOf(v), -1)
	}
}

// lateLed has three members who go on alone, a fourth one whose vertices nobody else refers to before the round in which they join it, and a fifth one without vertices. Bits of skipped tell the waves that the fifth one leads, so that they are not committed; all others are.
func lateLed(join int, skipped int) led {
	c, g, leaders := []int{9, 9, 9, 1, 1}, []impl.Vertex{}, []int{}
	for round := range impl.MaxRound + 1 {
		for author := range 4 {
			v := vertexOf(round, author, 31*round+author)
			if round > 0 && (author == 3 || round >= join) {
				v.Parents = []int{0, 1, 2, 3}
			} else if round > 0 {
				v.Parents = []int{0, 1, 2}
			}
			g = append(g, v)
		}
	}
	for i := range impl.MaxWave {
		if skipped>>i&1 == 1 {
			leaders = append(leaders, 4)
		} else {
			leaders = append(leaders, i%3)
		}
	}
	return led{c, g, leaders}
}

// lateWaves returns the waves that order the vertices of lateLed, by rules for this graph alone.
func lateWaves(join int, skipped int) []int {
	waves := []int{}
	for round := range impl.MaxRound + 1 {
		for author := range 4 {
			waves = append(waves, lateWave(join, skipped, round, author))
		}
	}
	return waves
}

func lateWave(join int, skipped int, round int, author int) int {
	for i := range impl.MaxWave {
		first := 2*i + 1
		reached := first > round || first == round && author == i%3
		if skipped>>i&1 == 1 || !reached || author == 3 && first < join {
			continue
		}
		if round < first-6 {
			return 0
		}
		return i + 1
	}
	return 0
}

// manyOrders also has graphs in which waves are skipped and vertices come late.
func manyOrders() []led {
	list := manyLed()
	for join := 1; join <= 31; join++ {
		for i, skipped := range []int{0, 0x7, 0x3f, 0x1ef, 0x3bde, 0x3fff, 0x7fff} {
			list = append(list, lateLed(join, skipped))
			if (join+i)%3 == 0 {
				x := lateLed(join, skipped)
				list = append(list, led{x.c, x.g[:4*join-3], x.leaders[:(join+i)%16]})
			}
		}
	}
	return list
}

func TestPromise84OrderedVerticesAreInTheGraphOnce(t *testing.T) {
	for _, x := range manyOrders() {
		slots := impl.OrderSlots(x.c, x.g, x.leaders)
		seen := map[impl.Slot]bool{}
		for _, s := range slots {
			if indexOf(x.g, s.Round, s.Author) < 0 || seen[s] {
				t.Fatalf("in %v, %v with the leaders %v orders %v with %v, which is not there or is there twice", x.c, x.g, x.leaders, slots, s)
			}
			seen[s] = true
		}
	}
}

func TestPromise85LeaderVerticesAreOrderedByWave(t *testing.T) {
	several := 0
	for _, x := range manyOrders() {
		want := []impl.Slot{}
		for _, wave := range impl.CommitWaves(x.c, x.g, x.leaders) {
			want = append(want, impl.Slot{Round: 2*wave - 1, Author: x.leaders[wave-1]})
		}
		slots := impl.OrderSlots(x.c, x.g, x.leaders)
		leaders := slices.DeleteFunc(slices.Clone(slots), func(s impl.Slot) bool {
			return !slices.Contains(want, s)
		})
		if !slices.Equal(leaders, want) {
			t.Fatalf("in %v, %v with the leaders %v orders %v, though the leader vertices are %v", x.c, x.g, x.leaders, slots, want)
		}
		if len(want) > 1 {
			several++
		}
	}
	if several == 0 {
		t.Error("no graph has several committed waves")
	}
}

// partedLed has graphs, with leaders, of which many parts can be looked at.
func partedLed() []led {
	list := fewerLed()
	for _, join := range []int{1, 5, 8, 14, 31} {
		for _, skipped := range []int{0, 0x7, 0x3d, 0x3bde} {
			list = append(list, lateLed(join, skipped))
		}
	}
	return list
}

func TestPromise86PartsAgree(t *testing.T) {
	expectAgreement(t, partedLed(), impl.OrderSlots)
}

func TestPromise87PartsOrderAPrefix(t *testing.T) {
	shorter, left := 0, 0
	for _, x := range partedLed() {
		whole := impl.OrderSlots(x.c, x.g, x.leaders)
		for _, part := range manyParts(x.g) {
			slots := impl.OrderSlots(x.c, part, x.leaders)
			if !isPrefix(slots, whole) {
				t.Fatalf("in %v with the leaders %v, %v orders %v, but its part %v orders %v", x.c, x.leaders, x.g, whole, part, slots)
			}
			if len(slots) < len(whole) {
				shorter++
				left += led{x.c, part, x.leaders}.leftBehind(slots)
			}
		}
	}
	if shorter == 0 || left == 0 {
		t.Errorf("%d parts order fewer vertices, and %d vertices are left behind in them", shorter, left)
	}
}

// leftBehind counts the vertices that are in the past of the last committed leader vertex and not ordered.
func (x led) leftBehind(slots []impl.Slot) int {
	waves := x.committedBy()
	if len(waves) == 0 {
		return 0
	}
	count := 0
	for _, v := range closureOf(x.g, x.leaderBy(waves[len(waves)-1])) {
		if !slices.Contains(slots, slotOf(v)) {
			count++
		}
	}
	return count
}

// eachPart calls a function with every part of a graph that is closed under parents: going through the graph, each vertex is left out or, if all its parents are there, taken.
func eachPart(g []impl.Vertex, each func(part []impl.Vertex)) {
	var walk func(i int, present [31]int, part []impl.Vertex)
	walk = func(i int, present [31]int, part []impl.Vertex) {
		if i == len(g) {
			each(part)
			return
		}
		walk(i+1, present, part)
		v := g[i]
		for _, author := range v.Parents {
			if present[v.Round-1]>>author&1 == 0 {
				return
			}
		}
		present[v.Round] |= 1 << v.Author
		walk(i+1, present, append(part[:len(part):len(part)], v))
	}
	walk(0, [31]int{}, nil)
}

// lightLed has a light last member without whom the others go on. It refers to its own vertices, and from some round on they do, too, as a seed tells. It leads the first waves, which are skipped as long as nobody else votes, and some later ones.
func lightLed(c []int, rounds int, number int) led {
	seed := 1000*number + sumOf(c)
	next := func(many int) int {
		seed = (seed*1103515245 + 12345) % (1 << 31)
		return (seed >> 8) % many
	}
	g, leaders, light := []impl.Vertex{}, []int{}, len(c)-1
	for round := range rounds {
		for author := range c {
			v := vertexOf(round, author, 31*round+author)
			if round > 0 && next(2) == 0 && (author == light || round > number%10) {
				v.Parents = subset(len(c), everybody(c))
			} else if round > 0 {
				v.Parents = othersOf(c, light)
			}
			g = append(g, v)
		}
	}
	for wave := 1; 2*wave < rounds; wave++ {
		if wave <= number%5 || next(3) == 0 {
			leaders = append(leaders, light)
		} else {
			leaders = append(leaders, next(light))
		}
	}
	return led{c, g, leaders}
}

// All parts of some graphs are tried. That each order is a prefix of that of the whole means that of two of them, one is a prefix of the other (P86).
func TestPromise87EachPart(t *testing.T) {
	parts, left, apart := 0, 0, 0
	for _, c := range [][]int{{5, 1}, {4, 4, 1}, {2, 2, 1}, {9, 9, 9, 1}} {
		for number := range 20 {
			x := lightLed(c, 15-len(c), number)
			whole, lengths := impl.OrderSlots(x.c, x.g, x.leaders), map[int]bool{}
			eachPart(x.g, func(part []impl.Vertex) {
				slots := impl.OrderSlots(x.c, part, x.leaders)
				if !isPrefix(slots, whole) {
					t.Fatalf("in %v with the leaders %v, %v orders %v, but its part %v orders %v", x.c, x.leaders, x.g, whole, part, slots)
				}
				lengths[len(slots)] = true
				parts++
			})
			left += x.leftBehind(whole)
			apart += len(lengths) - 1
		}
	}
	if parts < 100000 || left < 50 || apart < 200 {
		t.Errorf("there are %d parts with orders of %d more lengths, and %d vertices are left behind", parts, apart, left)
	}
}

func TestPromise88ParentsAreOrderedFirst(t *testing.T) {
	pairs, without := 0, 0
	for _, x := range manyOrders() {
		slots := impl.OrderSlots(x.c, x.g, x.leaders)
		places := map[impl.Slot]int{}
		for i, s := range slots {
			places[s] = i
		}
		for i, s := range slots {
			for _, author := range x.vertexAt(t, s).Parents {
				place, ordered := places[impl.Slot{Round: s.Round - 1, Author: author}]
				if ordered && place >= i {
					t.Fatalf("in %v, %v with the leaders %v orders %v, %v before its parent %d", x.c, x.g, x.leaders, slots, s, author)
				}
				if ordered {
					pairs++
				} else {
					without++
				}
			}
		}
	}
	if pairs == 0 || without == 0 {
		t.Errorf("%d parents of ordered vertices are ordered, and %d are not", pairs, without)
	}
}

func TestPromise89NothingWithinTheHorizonIsLeft(t *testing.T) {
	exact, left := 0, 0
	for _, x := range manyOrders() {
		slots, ordered := impl.OrderSlots(x.c, x.g, x.leaders), map[impl.Slot]bool{}
		for _, s := range slots {
			ordered[s] = true
		}
		for _, wave := range impl.CommitWaves(x.c, x.g, x.leaders) {
			for _, i := range impl.GraphPast(x.c, x.g, 2*wave-1, x.leaders[wave-1]) {
				v := x.g[i]
				if v.Round >= 2*wave-7 && !ordered[slotOf(v)] {
					t.Fatalf("in %v, %v with the leaders %v orders %v, though the past of wave %d has %v", x.c, x.g, x.leaders, slots, wave, v)
				}
				if v.Round == 2*wave-7 {
					exact++
				} else if v.Round == 2*wave-8 && !ordered[slotOf(v)] {
					left++
				}
			}
		}
	}
	if exact == 0 || left == 0 {
		t.Errorf("%d vertices are exactly at the horizon, and %d are left behind one round before it", exact, left)
	}
}

func TestPromise90DigestsOfTheSlots(t *testing.T) {
	for _, x := range manyOrders() {
		want := []int{}
		for _, s := range impl.OrderSlots(x.c, x.g, x.leaders) {
			want = append(want, x.vertexAt(t, s).Digest)
		}
		if digests := impl.OrderDigests(x.c, x.g, x.leaders); !slices.Equal(digests, want) {
			t.Fatalf("in %v, %v with the leaders %v orders the digests %v, not %v", x.c, x.g, x.leaders, digests, want)
		}
	}
}

// OrderWave is asked for every slot, also those without a vertex.
func TestPromise91OrderWaveTellsWhatIsOrdered(t *testing.T) {
	kinds := [3]int{}
	for n, x := range manyOrders() {
		if n%3 > 0 {
			continue
		}
		slots, waves := impl.OrderSlots(x.c, x.g, x.leaders), impl.CommitWaves(x.c, x.g, x.leaders)
		for round := -1; round <= impl.MaxRound+1; round++ {
			for author := -1; author <= impl.MaxMembers; author++ {
				s := impl.Slot{Round: round, Author: author}
				wave := impl.OrderWave(x.c, x.g, x.leaders, s)
				ordered, there := slices.Contains(slots, s), indexOf(x.g, round, author) >= 0
				switch {
				case ordered && slices.Contains(waves, wave):
					kinds[0]++
				case !ordered && there && wave == 0:
					kinds[1]++
				case !ordered && !there && wave == -1:
					kinds[2]++
				default:
					t.Fatalf("in %v, the waves %v of %v with the leaders %v order %v, but %v in wave %d", x.c, waves, x.g, x.leaders, slots, s, wave)
				}
			}
		}
	}
	if slices.Contains(kinds[:], 0) {
		t.Errorf("%d slots are ordered, %d are not, and %d have no vertex", kinds[0], kinds[1], kinds[2])
	}
}

func TestPromise92WavesNeverDecrease(t *testing.T) {
	back := 0
	for _, x := range manyOrders() {
		slots, last := impl.OrderSlots(x.c, x.g, x.leaders), 0
		for i, s := range slots {
			wave := impl.OrderWave(x.c, x.g, x.leaders, s)
			later := i == 0 || s.Round > slots[i-1].Round || s.Round == slots[i-1].Round && s.Author > slots[i-1].Author
			if wave < last || wave == last && !later {
				t.Fatalf("in %v, %v with the leaders %v orders %v, where %v is of wave %d, after %d", x.c, x.g, x.leaders, slots, s, wave, last)
			}
			if wave > last && !later {
				back++
			}
			last = wave
		}
	}
	if back == 0 {
		t.Error("no wave starts before the end of the previous one")
	}
}

// The round before a leader vertex is ordered by its own wave, as it is after the earlier leader vertices. So no wave orders its leader vertex alone.
func TestPromise93RoundBeforeALeaderIsAQuorum(t *testing.T) {
	for _, x := range manyOrders() {
		slots := impl.OrderSlots(x.c, x.g, x.leaders)
		for _, wave := range impl.CommitWaves(x.c, x.g, x.leaders) {
			authors, own := []int{}, []int{}
			for _, s := range slots {
				if s.Round != 2*wave-2 {
					continue
				}
				authors = append(authors, s.Author)
				if impl.OrderWave(x.c, x.g, x.leaders, s) == wave {
					own = append(own, s.Author)
				}
			}
			slices.Sort(authors)
			if impl.MembersWeight(x.c, authors) < impl.CommitteeQuorum(x.c) || !isHeavy(x.c, own) {
				t.Fatalf("in %v, %v with the leaders %v orders %v, of round %d those of %v, and %v by wave %d", x.c, x.g, x.leaders, slots, 2*wave-2, authors, own, wave)
			}
		}
	}
}

// The smallest waves order a leader vertex and its only parent: the leader vertex before is all that this one depends on.
func TestWavesOfTwoVertices(t *testing.T) {
	for _, c := range [][]int{{1}, {9}, {9, 1}, {9, 1, 1}, {8, 1, 1, 1}} {
		g, want := fullGraph(c, 31), []impl.Slot{}
		for i, v := range g {
			if v.Round > 0 {
				g[i].Parents = []int{0}
			}
		}
		for round := range 30 {
			want = append(want, impl.Slot{Round: round})
		}
		x := led{c, g, make([]int, impl.MaxWave)}
		expectSlots(t, x, want)
		for _, s := range want {
			expectOrderWave(t, x, s, s.Round/2+1)
		}
		expectOrderWave(t, x, impl.Slot{Round: 30}, 0)
	}
}

// The slots of a list are replaced one by one: in the round, in the author, and in both.
func TestPromise94SlotsPrefix(t *testing.T) {
	for _, x := range manySlots() {
		for many := range len(x) + 1 {
			expectPrefix(t, x[:many], x, true)
			expectPrefix(t, x, x[:many], many == len(x))
			expectPrefix(t, slices.Clone(x[:many]), slices.Clone(x[:many]), true)
			for i := range many {
				for _, s := range []impl.Slot{{Round: x[i].Round + 1, Author: x[i].Author}, {Round: x[i].Round, Author: x[i].Author - 1}, {Round: x[i].Author, Author: x[i].Round}, {Round: -1, Author: -1}} {
					y := slices.Clone(x[:many])
					y[i] = s
					expectPrefix(t, y, x, s == x[i])
					expectPrefix(t, x[:many], slices.Concat(y, x[many:]), s == x[i])
				}
			}
		}
		expectPrefix(t, nil, x, true)
		expectPrefix(t, []impl.Slot{}, x, true)
		expectPrefix(t, x, nil, len(x) == 0)
		expectPrefix(t, x, append(slices.Clone(x), impl.Slot{}), true)
		expectPrefix(t, append(slices.Clone(x), impl.Slot{}), x, false)
	}
}

// manySlots has lists of slots, also some that are not the order of any graph.
func manySlots() [][]impl.Slot {
	list := [][]impl.Slot{nil, {}, {{}}, {{}, {}, {}}, {{Round: -1, Author: -1}, {Round: 31, Author: 7}, {Round: math.MaxInt, Author: math.MinInt}}, slotsOf(20, 11, 10, 20, 0)}
	x := lateLed(5, 0x3)
	return append(list, impl.OrderSlots(x.c, x.g, x.leaders), make([]impl.Slot, 300))
}

func expectPrefix(t *testing.T, a []impl.Slot, b []impl.Slot, prefix bool) {
	t.Helper()
	if impl.SlotsPrefix(a, b) != prefix {
		t.Fatalf("that %v is a prefix of %v is not %v", a, b, prefix)
	}
}

func TestPromise94PrefixOfEachOther(t *testing.T) {
	lists := manySlots()
	for code := range 3 * 3 * 3 * 3 {
		for size := range 5 {
			slots := []impl.Slot{}
			for i := range size {
				digit := []int{code % 3, code / 3 % 3, code / 9 % 3, code / 27}[i]
				slots = append(slots, slotsOf(0, 1, 10)[digit])
			}
			lists = append(lists, slots)
		}
	}
	for _, a := range lists {
		for _, b := range lists {
			expectPrefix(t, a, b, isPrefix(a, b))
			if impl.SlotsPrefix(a, b) && impl.SlotsPrefix(b, a) && !slices.Equal(a, b) {
				t.Fatalf("%v and %v are prefixes of each other", a, b)
			}
		}
	}
}

// The expected answers are worked out by hand.
func TestSlotsPrefix(t *testing.T) {
	for _, x := range []struct {
		a, b   []int
		prefix bool
	}{
		{nil, nil, true},
		{nil, []int{12}, true},
		{[]int{12}, nil, false},
		{[]int{12}, []int{12}, true},
		{[]int{12}, []int{22}, false},
		{[]int{12}, []int{13}, false},
		{[]int{12}, []int{21}, false},
		{[]int{12, 20}, []int{12, 20, 21}, true},
		{[]int{12, 20, 21}, []int{12, 20}, false},
		{[]int{12, 20}, []int{12, 30, 20}, false},
		{[]int{20}, []int{12, 20}, false},
		{[]int{20, 12}, []int{12, 20}, false},
		{[]int{12, 12}, []int{12}, false},
		{[]int{12}, []int{12, 12}, true},
	} {
		expectPrefix(t, slotsOf(x.a...), slotsOf(x.b...), x.prefix)
	}
}

// The graphs have vertices of every kind: this is counted.
func TestOrderFromTheFirstReach(t *testing.T) {
	kinds := map[string]int{}
	for n, x := range manyOrders() {
		waves, committed := x.wavesBy(), x.committedBy()
		expectOrder(t, x, waves)
		if n%3 == 1 {
			expectOrderWaves(t, x, waves)
		}
		reaches := [][31]int{}
		for _, wave := range committed {
			reaches = append(reaches, reachOf(x.g, x.leaderBy(wave)))
		}
		for i, v := range x.g {
			for _, kind := range kindsOf(v, waves[i], committed, reaches) {
				kinds[kind]++
			}
		}
	}
	if len(kinds) != 9 {
		t.Errorf("the kinds of vertices are %v", kinds)
	}
}

// kindsOf names what holds for a vertex, with the wave that orders it, or 0, and the pasts of the leader vertices of all committed waves.
func kindsOf(v impl.Vertex, wave int, committed []int, reaches [][31]int) []string {
	in, passed := 0, false
	for i, reach := range reaches {
		if reach[v.Round]>>v.Author&1 == 1 {
			in++
		} else if in == 0 && 2*committed[i]-1 > v.Round {
			passed = true
		}
	}
	kinds := []string{[]string{"in the past of no leader vertex", "of one", "of several"}[min(in, 2)]}
	switch {
	case wave == 0 && in > 1:
		kinds = append(kinds, "left behind by several waves")
	case wave == 0 && in == 1:
		kinds = append(kinds, "left behind by the last wave")
	case wave == 0 && passed:
		kinds = append(kinds, "never reached")
	case wave > 0 && v.Round == 2*wave-7:
		kinds = append(kinds, "ordered at the horizon")
	case wave > 0 && passed:
		kinds = append(kinds, "ordered after later rounds")
	}
	if wave > 0 && !passed && v.Round > 2*wave-7 {
		kinds = append(kinds, "ordered by the first wave after it")
	}
	return kinds
}

// The expected slots are worked out by hand, as 10 times the round plus the author. All weights are 1, so that two votes commit a wave, and each vertex has all vertices but one as parents.
func TestOrderSlots(t *testing.T) {
	c := []int{1, 1, 1, 1}
	full := []int{0, 0, 0, 0}
	for _, x := range []struct {
		g       []impl.Vertex
		leaders []int
		slots   []int
	}{
		// No wave is committed: with one vote, without a second round, without leaders.
		{graphOfRounds(full, full, []int{3, 3, 2, 3}), []int{3}, nil},
		{graphOfRounds(full, full), []int{3}, nil},
		{graphOfRounds(full, full, []int{3, 2, 1, 3}), nil, nil},
		// One wave is: the vertex 0.0 is in the past of no leader vertex. It does not matter who votes.
		{graphOfRounds(full, full, []int{3, 2, 1, 3}), []int{3}, []int{1, 2, 3, 13}},
		{graphOfRounds(full, full, []int{-1, -1, 1, 0}), []int{3}, []int{1, 2, 3, 13}},
		{graphOfRounds(full, []int{0, 2, 1, 3}, full, full), []int{2}, []int{0, 2, 3, 12}},
		// Wave 2 orders what wave 1 has left of the same rounds: its vertices of round 1 are after the leader vertex of that round.
		{graphOfRounds(full, full, []int{2, 3, 3, 3}, []int{3, 3, 3, 3}, []int{3, 3, 3, 3}), []int{3, 1}, []int{1, 2, 3, 13, 10, 11, 12, 20, 21, 22, 31}},
		{graphOfRounds([]int{0, 0, 0, 0}, []int{3, 0, 3, 3}, []int{2, 3, 3, 0}, []int{3, 2, 3, 3}, full), []int{0, 1}, []int{0, 1, 2, 10, 3, 11, 12, 13, 20, 21, 23, 31}},
		// Wave 1 is skipped: its leader vertex is not in the past of that of wave 2.
		{graphOfRounds(full, full, []int{2, 3, 3, 3}, []int{3, 0, 3, 3}, []int{3, 3, 3, 3}), []int{3, 1}, []int{1, 2, 3, 10, 11, 12, 21, 22, 23, 31}},
		// The leader vertex of wave 1, which is skipped, is ordered by wave 3, in the past of which it is, too.
		{graphOfRounds(full, full, []int{3, 3, 3, 2}, []int{3, 0, 0, 3}, []int{3, 0, 0, 0}, []int{3, 3, 3, 3}, []int{3, 3, 3, 3}), []int{3, 0, 0}, []int{1, 2, 3, 10, 11, 12, 20, 21, 22, 30, 13, 23, 31, 32, 33, 40, 41, 42, 50}},
		// The same, but wave 2 is skipped, so that wave 1 is committed, and wave 3 orders the rest.
		{graphOfRounds(full, full, []int{3, 3, 3, 2}, []int{3, 0, 0, 3}, []int{3, 0, 0, 0}, []int{0, 0, 0, 0}, []int{3, 3, 3, 3}), []int{3, 0, 0}, []int{1, 2, 3, 13, 10, 11, 12, 20, 21, 22, 23, 31, 32, 33, 41, 42, 43, 50}},
	} {
		if !impl.GraphValid(c, x.g) {
			t.Fatalf("%v is invalid", x.g)
		}
		expectSlots(t, led{c, x.g, x.leaders}, slotsOf(x.slots...))
	}
}

// The expected slots are worked out by hand: three of four members have vertices, which refer to all, and the fourth one leads the waves that are skipped.
func TestOrderAtTheHorizon(t *testing.T) {
	if impl.Horizon != 6 {
		t.Fatalf("the horizon is %d", impl.Horizon)
	}
	for _, x := range []struct {
		leaders []int
		slots   []int
	}{
		// The leader vertices of waves 1 to 3 are so early that nothing is left behind.
		{[]int{0}, []int{0, 1, 2, 10}},
		{[]int{3, 2}, []int{0, 1, 2, 10, 11, 12, 20, 21, 22, 32}},
		{[]int{3, 3, 0}, []int{0, 1, 2, 10, 11, 12, 20, 21, 22, 30, 31, 32, 40, 41, 42, 50}},
		// That of wave 4 is in round 7: round 1 is ordered, and round 0 is left behind.
		{[]int{3, 3, 3, 0}, []int{10, 11, 12, 20, 21, 22, 30, 31, 32, 40, 41, 42, 50, 51, 52, 60, 61, 62, 70}},
		// Wave 5 has round 0 in its past, too, and leaves it where it is.
		{[]int{3, 3, 3, 0, 1}, []int{10, 11, 12, 20, 21, 22, 30, 31, 32, 40, 41, 42, 50, 51, 52, 60, 61, 62, 70, 71, 72, 80, 81, 82, 91}},
		// What wave 1 has ordered is not left behind; after it, of round 1, only its leader vertex is ordered.
		{[]int{2, 3, 3, 3, 0}, []int{0, 1, 2, 12, 30, 31, 32, 40, 41, 42, 50, 51, 52, 60, 61, 62, 70, 71, 72, 80, 81, 82, 90}},
		{[]int{2, 3, 3, 0}, []int{0, 1, 2, 12, 10, 11, 20, 21, 22, 30, 31, 32, 40, 41, 42, 50, 51, 52, 60, 61, 62, 70}},
		// Round 3 is exactly at the horizon of wave 5, and before that of wave 6.
		{[]int{3, 1, 3, 3, 1}, []int{0, 1, 2, 10, 11, 12, 20, 21, 22, 31, 30, 32, 40, 41, 42, 50, 51, 52, 60, 61, 62, 70, 71, 72, 80, 81, 82, 91}},
		{[]int{3, 1, 3, 3, 3, 1}, []int{0, 1, 2, 10, 11, 12, 20, 21, 22, 31, 50, 51, 52, 60, 61, 62, 70, 71, 72, 80, 81, 82, 90, 91, 92, 100, 101, 102, 111}},
		// The last wave alone, and after the first one.
		{[]int{3, 3, 3, 3, 3, 3, 3, 3, 3, 3, 3, 3, 3, 3, 2}, []int{230, 231, 232, 240, 241, 242, 250, 251, 252, 260, 261, 262, 270, 271, 272, 280, 281, 282, 292}},
		{[]int{0, 3, 3, 3, 3, 3, 3, 3, 3, 3, 3, 3, 3, 3, 2}, []int{0, 1, 2, 10, 230, 231, 232, 240, 241, 242, 250, 251, 252, 260, 261, 262, 270, 271, 272, 280, 281, 282, 292}},
		{[]int{3, 3, 3, 3, 3, 3, 3, 3, 3, 3, 3, 3, 3, 3, 3}, nil},
	} {
		expectSlots(t, led{[]int{1, 1, 1, 1}, evenGraph([]int{0, 1, 2}, 31), x.leaders}, slotsOf(x.slots...))
	}
}

// The vertices of member 3 are late: nobody else refers to them before round 8. The expected answers are worked out by hand.
func TestOrderOfLateVertices(t *testing.T) {
	x := lateLed(8, 0)
	for _, y := range []struct{ slot, wave int }{
		// Wave 5, in round 9, is the first one after round 8; waves 1 to 4 have passed these vertices by.
		{3, 0}, {13, 0}, {23, 0}, {33, 5}, {43, 5}, {73, 5}, {83, 5}, {93, 6}, {103, 6}, {293, 0}, {303, 0},
		{0, 1}, {2, 1}, {10, 1}, {11, 2}, {12, 2}, {30, 3}, {31, 2}, {32, 3}, {82, 5}, {90, 6}, {91, 5}, {92, 6}, {282, 15}, {292, 15}, {290, 0}, {300, 0},
		{4, -1}, {84, -1}, {310, -1},
	} {
		expectOrderWave(t, x, slotsOf(y.slot)[0], y.wave)
	}
	// Wave 5 is skipped, so that wave 6, in round 11, leaves rounds up to 4 behind.
	x = lateLed(8, 1<<4)
	for _, y := range []struct{ slot, wave int }{{33, 0}, {43, 0}, {53, 6}, {83, 6}, {93, 6}, {103, 6}, {113, 7}, {80, 6}, {41, 3}} {
		expectOrderWave(t, x, slotsOf(y.slot)[0], y.wave)
	}
	slots := impl.OrderSlots(x.c, x.g, x.leaders)
	want := slotsOf(70, 53, 63, 71, 72, 73, 80, 81, 82, 83, 90, 91, 92, 93, 100, 101, 102, 103, 112, 110, 111, 113, 120)
	if start := slices.Index(slots, want[0]); start < 0 || !isPrefix(want, slots[start:]) {
		t.Errorf("%v are ordered, which lack %v", slots, want)
	}
}

// Every eleventh choice of skipped waves is tried for some rounds in which the others join the late member; for each such round, all choices among the first seven waves are.
func TestOrderOfSkippedWaves(t *testing.T) {
	for _, join := range []int{1, 6, 9, 14, 31} {
		for skipped := join % 3; skipped < 1<<15; skipped += 11 {
			waves := lateWaves(join, skipped)
			x := lateLed(join, skipped)
			expectOrder(t, x, waves)
			if skipped%64 == 0 {
				expectOrderWaves(t, x, waves)
			}
		}
	}
	for join := 1; join <= 31; join++ {
		for skipped := range 1 << 7 {
			waves := lateWaves(join, skipped|0x7f80)
			x := lateLed(join, skipped)
			expectOrder(t, led{x.c, x.g, x.leaders[:7]}, waves)
		}
	}
}

// The graph ends with each round, and with each vertex of it. Only the second round of a wave commits it.
func TestOrderOfGraphsThatEnd(t *testing.T) {
	for _, c := range fewCommittees() {
		whole := led{c, fullGraph(c, 31), scatteredLeaders(c, impl.MaxWave, 1)}
		for size := range len(whole.g) + 1 {
			x, last := led{c, whole.g[:size], whole.leaders}, 0
			if size > 0 {
				last = x.g[size-1].Round
			}
			waves := make([]int, size)
			for i, v := range x.g {
				wave := v.Round/2 + 1
				if v.Round%2 == 1 && v.Author != x.leaders[wave-1] {
					wave++
				}
				if 2*wave < last || 2*wave == last && x.isDirectBy(wave) {
					waves[i] = wave
				}
			}
			expectOrder(t, x, waves)
		}
	}
}

func TestOrderOfEmptyGraphsAndNoLeaders(t *testing.T) {
	for _, c := range fewCommittees() {
		for _, g := range [][]impl.Vertex{nil, {}} {
			for _, leaders := range [][]int{nil, {}, {0}, scatteredLeaders(c, impl.MaxWave, 3)} {
				expectNoOrder(t, led{c, g, leaders})
			}
		}
		for _, g := range manyGraphs(c) {
			for _, leaders := range [][]int{nil, {}} {
				expectOrder(t, led{c, g, leaders}, make([]int, len(g)))
				expectOrderWaves(t, led{c, g[:min(len(g), 40)], leaders}, make([]int, len(g)))
			}
		}
	}
}

// A slot is invalid also if nothing is ordered, and if its round and author exist, but not together.
func TestOrderWaveOfSlotsWithoutAVertex(t *testing.T) {
	for _, c := range fewCommittees() {
		for _, g := range [][]impl.Vertex{nil, fullGraph(c, 3), fullGraph(c, 31), evenGraph(lightestQuorum(c), 31), scatteredGraph(c, 31, 9)} {
			for _, leaders := range [][]int{nil, {0}, scatteredLeaders(c, impl.MaxWave, 2)} {
				x := led{c, g, leaders}
				for _, s := range notSlots(c) {
					expectOrderWave(t, x, s, -1)
				}
				for round := 0; round < 31; round += 5 {
					for author := range c {
						if indexOf(g, round, author) < 0 {
							expectOrderWave(t, x, impl.Slot{Round: round, Author: author}, -1)
						}
					}
				}
			}
		}
	}
}

func TestOrderOfInvalidLeaders(t *testing.T) {
	for _, x := range invalidlyLed() {
		expectNoOrder(t, x)
	}
}

func TestOrderOfInvalidGraphs(t *testing.T) {
	for _, x := range ledInvalidGraphs() {
		expectNoOrder(t, x)
	}
}

func TestOrderOfInvalidCommittees(t *testing.T) {
	for _, x := range ledByInvalidCommittees() {
		expectNoOrder(t, x)
	}
}

// The same list is a graph of one committee and not of another one; with other weights, the same votes do not commit a wave.
func TestOrderOfOtherCommittees(t *testing.T) {
	g := evenGraph([]int{0, 1}, 3)
	expectSlots(t, led{[]int{9, 5, 3, 1}, g, []int{0}}, slotsOf(0, 1, 10))
	expectSlots(t, led{[]int{9, 5, 3, 1}, g, []int{3}}, nil)
	expectNoOrder(t, led{[]int{1, 1, 1}, g, []int{0}})
	expectNoOrder(t, led{[]int{9}, g, []int{0}})
	voted := votedGraph([]int{1, 1, 1, 1}, 1, 3, 15, 3)
	expectSlots(t, led{[]int{1, 1, 1, 1}, voted, []int{3}}, slotsOf(0, 1, 2, 3, 13))
	expectSlots(t, led{[]int{1, 1, 4, 1}, voted, []int{3}}, nil)
	expectSlots(t, led{[]int{3, 1, 5, 1}, voted, []int{3}}, slotsOf(0, 1, 2, 3, 13))
}

func spoilSlots(slots []impl.Slot) {
	slots = slots[:cap(slots)]
	for i := range slots {
		slots[i] = impl.Slot{Round: -5, Author: -5}
	}
}

func TestOrdersAreApart(t *testing.T) {
	for _, x := range append(manyOrders(), led{[]int{1, 1}, fullGraph([]int{1, 1}, 3), []int{2}}, led{[]int{0}, fullGraph([]int{1}, 3), []int{0}}) {
		c, g, leaders := roomyList(x.c), roomy(x.g), roomyList(x.leaders)
		one, two := impl.OrderSlots(c, g, leaders), impl.OrderSlots(c, g, leaders)
		digests, again := impl.OrderDigests(c, g, leaders), impl.OrderDigests(c, g, leaders)
		kept, keptDigests := slices.Clone(two), slices.Clone(again)
		for _, s := range append(kept[:min(len(kept), 2):min(len(kept), 2)], impl.Slot{Round: 30}, impl.Slot{Round: -1}) {
			impl.OrderWave(c, g, leaders, s)
		}
		if !slices.Equal(one, two) || !slices.Equal(digests, again) {
			t.Fatalf("in %v, two results for %v with the leaders %v are %v, %v and %v, %v", x.c, x.g, x.leaders, one, digests, two, again)
		}
		spoilSlots(one)
		spoil(digests)
		if !slices.Equal(two, kept) || !slices.Equal(again, keptDigests) || !isUntouchedList(c, x.c) || !isUntouched(g, x.g) || !isUntouchedList(leaders, x.leaders) {
			t.Fatalf("in %v, %v with the leaders %v are changed, or share their memory with the order, or two results do", x.c, x.g, x.leaders)
		}
	}
}

func TestSlotsAreUntouched(t *testing.T) {
	hidden := impl.Slot{Round: -7, Author: -7}
	for _, x := range manySlots() {
		for many := range min(len(x), 20) + 1 {
			a, b := append(slices.Clone(x[:many]), hidden, hidden), append(slices.Clone(x), hidden, hidden)
			impl.SlotsPrefix(a[:many], b[:len(x)])
			impl.SlotsPrefix(b[:len(x)], a[:many])
			if !slices.Equal(a, append(slices.Clone(x[:many]), hidden, hidden)) || !slices.Equal(b, append(slices.Clone(x), hidden, hidden)) {
				t.Fatalf("%v or %v are changed", x[:many], x)
			}
		}
	}
}
