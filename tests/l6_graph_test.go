package tests

import (
	"slices"
	"strings"
	"testing"

	"loop.example/stepstone/impl"
)

// graphCase is a program and what is told of it, names with a space between.
type graphCase struct {
	program string
	back    string
	leaf    string
	deep    int
}

func checkNames(t *testing.T, what string, p []impl.Fun, got []string, want string) {
	t.Helper()
	if strings.Join(got, " ") != want {
		t.Errorf("%s of %q is %q, not %q", what, programText(p), got, want)
	}
}

func checkDeep(t *testing.T, p []impl.Fun, want int) {
	t.Helper()
	if got := impl.GraphDeep(p); got != want {
		t.Errorf("GraphDeep of %q is %d, not %d", programText(p), got, want)
	}
}

func checkGraph(t *testing.T, x graphCase) {
	t.Helper()
	p := readProgram(t, x.program)
	if !impl.KeepOk(p) {
		t.Fatalf("%q is no program", x.program)
	}
	checkNames(t, "GraphBack", p, impl.GraphBack(p), x.back)
	checkNames(t, "GraphLeaf", p, impl.GraphLeaf(p), x.leaf)
	checkDeep(t, p, x.deep)
}

func checkGraphOfNone(t *testing.T, p []impl.Fun) {
	t.Helper()
	for _, name := range []string{"", "a", "b", "z", "A", numbered(0), numbered(1), numbered(40)} {
		if got := impl.GraphBy(p, name); len(got) != 0 {
			t.Errorf("GraphBy of %v and %q is %q", p, name, got)
		}
	}
	if got := impl.GraphBack(p); len(got) != 0 {
		t.Errorf("GraphBack of %v is %q", p, got)
	}
	if got := impl.GraphLeaf(p); len(got) != 0 {
		t.Errorf("GraphLeaf of %v is %q", p, got)
	}
	if got := impl.GraphDeep(p); got != -1 {
		t.Errorf("GraphDeep of %v is %d", p, got)
	}
}

func TestGraphOfNoProgram(t *testing.T) {
	for _, p := range notPrograms(t) {
		checkGraphOfNone(t, p)
	}
	for _, text := range []string{
		// What is told of the others is not told either, if one names what none has.
		"fun a\ngo a\nfun b\ncall a\nret\nfun c\nret\nfun d\ngo z\n",
		"fun a\ncall b\nret\nfun b\nret\ngo z\n",
		"fun a\nret\nfun b\nif a\nif b\nif z\nret\n",
	} {
		checkGraphOfNone(t, readProgram(t, text))
	}
	checkGraphOfNone(t, readProgram(t, "fun a\ngo a\nfun b\ncall a\nret\n", "weak a\nret\n"))
	checkGraphOfNone(t, callChain(t, 41))
	checkGraphOfNone(t, chain(t, 80))
}

// callChain is so many functions, each of which calls the next.
func callChain(t *testing.T, count int) []impl.Fun {
	t.Helper()
	var p []impl.Fun
	for n := range count {
		if n == count-1 {
			p = append(p, fun(t, "fun "+numbered(n), "ret"))
		} else {
			p = append(p, fun(t, "fun "+numbered(n), "call "+numbered(n+1), "ret"))
		}
	}
	return p
}

func TestGraphBy(t *testing.T) {
	p := readProgram(t,
		"fun main\ncall two\nif two\ngo two\nfun two\ncall one\nret\nweak b\nif one\nret\nfun one\nret\nfun self\ngo self\n",
		"fun ab\ncall leaf\nend\n",
		"weak zz\nend\ngo leaf\nfun a\nif leaf\nret\nfun aa\ncall leaf\ncall self\nret\nfun leaf\nret\n")
	for name, want := range map[string]string{
		// Of one that a function names twice, and that none else names.
		"two": "main",
		// Of one that two name, by a call and by an if.
		"one": "b two",
		// Of one that names itself, and that another one names.
		"self": "aa self",
		// In the order of their bytes, neither in that of the program nor by how long they are.
		"leaf": "a aa ab zz",
		// Of one that none names.
		"main": "", "b": "", "ab": "", "zz": "", "a": "", "aa": "",
		// Of a name that the program has not, and of what is no name.
		"": "", "c": "", "mai": "", "mainn": "", "lea": "", "leaff": "", "Leaf": "", " leaf": "", "leaf ": "", "leaf\n": "", "abcdefg": "", "\xff": "", "ret": "", "call leaf": "",
	} {
		checkNames(t, "GraphBy "+name, p, impl.GraphBy(p, name), want)
	}
	for _, text := range []string{"fun a\ngo a\n", "weak a\nif a\nret\n", "fun a\ncall a\nend\n", "fun a\ncall a\nif a\ngo a\n", "fun a\nret\ngo a\n"} {
		itself := readProgram(t, text)
		checkNames(t, "GraphBy a", itself, impl.GraphBy(itself, "a"), "a")
		checkNames(t, "GraphBy b", itself, impl.GraphBy(itself, "b"), "")
	}
	// One names itself, and another one names it, behind and ahead.
	both := readProgram(t, "fun b\ngo b\nfun c\ngo b\nfun a\ngo b\n")
	checkNames(t, "GraphBy b", both, impl.GraphBy(both, "b"), "a b c")
	checkNames(t, "GraphBy a", both, impl.GraphBy(both, "a"), "")
	// One that names by way of another one does not name it.
	way := readProgram(t, "fun a\ngo b\nfun b\ngo c\nfun c\nret\n")
	checkNames(t, "GraphBy c", way, impl.GraphBy(way, "c"), "b")
}

func TestGraphBack(t *testing.T) {
	for _, x := range []graphCase{
		// Without a ring.
		{"fun a\nret\n", "", "a", 0},
		{"weak a\nend\n", "", "a", 0},
		{"fun a\ncall b\nret\nfun b\nret\n", "", "b", 1},
		{"fun a\ncall b\ncall c\nret\nfun b\ngo d\nfun c\ngo d\nfun d\nret\n", "", "d", 1},
		{"fun c\ngo b\nfun b\ngo a\nfun a\nret\n", "", "a", 0},
		// One that goes to itself without a call.
		{"fun a\ngo a\n", "a", "", 0},
		{"fun a\nif a\nret\n", "a", "", 0},
		{"fun a\nend\ngo a\n", "a", "", 0},
		{"weak a\nif a\ngo a\n", "a", "", 0},
		{"fun a\ngo b\nfun b\nif b\nret\n", "b", "", 0},
		{"fun a\nret\nfun b\ngo b\n", "b", "a", 0},
		// One that calls itself.
		{"fun a\ncall a\nret\n", "a", "", -1},
		{"fun a\nret\ncall a\nret\n", "a", "", -1},
		{"fun a\ncall b\nret\nweak b\ncall b\nret\n", "b", "", -1},
		{"fun a\nret\nfun b\ncall b\nret\n", "b", "a", 0},
		// Rings of two and of three.
		{"fun a\ngo b\nfun b\ngo a\n", "a b", "", 0},
		{"fun b\nif a\nret\nfun a\nif b\nret\n", "a b", "", 0},
		{"fun a\ncall b\nret\nfun b\ncall a\nret\n", "a b", "", -1},
		{"fun c\ngo a\nfun a\ngo b\nfun b\ngo c\n", "a b c", "", 0},
		{"fun a\ngo c\nfun b\ngo a\nfun c\ngo b\n", "a b c", "", 0},
		{"fun b\ncall c\nret\nfun c\nif a\nret\nfun a\ngo b\n", "a b c", "", -1},
		{"fun a\nret\nfun d\ngo b\nfun b\ngo c\nfun c\ngo d\n", "b c d", "a", 0},
		// One that leads into a ring is not in it, nor is one that a ring leads to.
		{"fun a\ngo b\nfun b\ngo c\nfun c\ngo b\n", "b c", "", 0},
		{"fun a\ngo b\nfun b\ngo c\nfun c\nif d\ngo b\nfun d\nret\n", "b c", "d", 0},
		{"fun c\ncall a\ngo b\nfun b\ngo c\nfun a\nret\n", "b c", "a", 1},
		{"fun a\nif a\ngo b\nfun b\nret\n", "a", "b", 0},
		{"fun a\ngo b\nfun b\ngo b\n", "b", "", 0},
		{"fun x\nret\nfun a\ngo b\nfun b\ngo c\nfun c\ngo d\nfun d\ngo c\n", "c d", "x", 0},
		// One between two rings is in none.
		{"fun a\nif a\ngo b\nfun b\ngo c\nfun c\ngo c\n", "a c", "", 0},
		{"fun d\nif e\ngo b\nfun e\ngo d\nfun b\ngo c\nfun c\ngo a\nfun a\ngo c\n", "a c d e", "", 0},
		// Two rings with one function in both.
		{"fun b\nif a\ngo c\nfun a\ngo b\nfun c\ngo b\n", "a b c", "", 0},
		// A ring inside a ring, by another function.
		{"fun d\ngo b\nfun b\nif b\ngo c\nfun c\nif b\ngo d\n", "b c d", "", 0},
	} {
		checkGraph(t, x)
	}
}

func TestGraphLeaf(t *testing.T) {
	for _, x := range []graphCase{
		{"fun a\nsay\nadd 5\nret\n", "", "a", 0},
		// One that names itself alone is none.
		{"fun a\nret\nfun b\ngo b\nfun c\ncall c\nret\nfun d\nif d\nret\n", "b c d", "a", 0},
		{"fun a\ngo a\nfun b\ngo a\n", "a", "", 0},
		// In the order of their bytes.
		{"fun b\nret\nfun ba\nend\nweak a\nret\nfun z\ngo b\nfun aa\nend\n", "", "a aa b ba", 0},
		// What is behind the end is named too.
		{"fun a\nend\ncall b\nend\nfun b\nret\n", "", "b", 1},
		{"fun a\nret\ngo b\nfun b\nret\nif a\nret\n", "a b", "", 0},
		// Be they reached or not, named or not.
		{"fun m\ngo n\nfun n\nret\nfun o\nret\n", "", "n o", 0},
	} {
		checkGraph(t, x)
	}
}

func TestGraphDeep(t *testing.T) {
	for text, want := range map[string]int{
		// Without a call.
		"fun a\nret\n": 0, "fun a\ngo b\nfun b\nif c\nend\nfun c\nret\n": 0, "fun a\nret\nfun b\ncall a\nret\n": 0,
		// A way of calls.
		"fun a\ncall b\nret\nfun b\nret\n":                                                       1,
		"fun a\ncall b\nret\nfun b\ncall c\nret\nfun c\nret\n":                                   2,
		"fun d\ncall c\nret\nfun a\nret\nfun b\ncall a\nret\nfun c\ncall b\nret\n":               3,
		"fun a\nend\ncall b\nend\nfun b\nret\ncall c\nret\nfun c\nret\n":                         2,
		"fun e\ncall a\nret\nfun d\nret\nfun c\ncall d\nret\nfun b\ncall c\nret\nweak a\ngo b\n": 3,
		// Two calls of one function are not gone along one behind the other.
		"fun a\ncall b\ncall b\ncall b\nret\nfun b\nret\n": 1, "fun a\ncall b\ncall c\nret\nfun b\nret\nfun c\nret\n": 1,
		// Two ways, of which one has more calls, be it the longer or the shorter, ahead or behind.
		"fun a\ncall b\ncall c\nret\nfun b\ncall c\nret\nfun c\nret\n":                                2,
		"fun a\ncall c\ncall b\nret\nfun c\nret\nfun b\ncall c\nret\n":                                2,
		"fun a\ncall d\ngo b\nfun b\ngo c\nfun c\ngo d\nfun d\nret\n":                                 1,
		"fun a\ngo b\nfun b\ngo c\nfun c\ngo d\nfun d\nif a\nret\n":                                   0,
		"fun a\ncall b\ngo c\nfun b\nret\nfun c\ncall d\nret\nfun d\ncall b\nret\n":                   2,
		"fun a\ngo c\nfun b\ncall e\nret\nfun c\nif d\ncall b\nret\nfun d\ncall b\nret\nfun e\nret\n": 2,
		"fun a\ncall b\nif c\nret\nfun b\ngo d\nfun c\ncall e\nret\nfun e\ncall d\nret\nfun d\nret\n": 2,
		// With InsGo and InsIf in it, which are not counted.
		"fun a\ngo b\nfun b\ncall c\nret\nfun c\nif d\nret\nfun d\ncall e\nret\nfun e\nret\n": 2,
		"fun a\ncall b\nret\nfun b\ngo c\nfun c\nret\n":                                       1,
		"fun a\nif b\nret\nfun b\ncall c\nret\nfun c\ngo d\nfun d\nret\n":                     1,
		// A function that both goes to and calls another one.
		"fun a\ncall b\ngo b\nfun b\nret\n": 1, "fun a\nif b\ncall b\nret\nfun b\nret\n": 1, "fun a\nif b\ncall b\ngo b\nfun b\ncall c\ngo c\nfun c\nret\n": 2,
		// A ring without a call has a most, be it reached by a call, be there calls ahead, out of it, or beside it.
		"fun a\ngo a\n": 0, "fun a\ngo b\nfun b\ngo a\n": 0,
		"fun a\ncall b\nret\nfun b\nif c\nret\nfun c\ngo b\n":                                   1,
		"fun a\nif b\nret\nfun b\nif a\ncall c\nret\nfun c\nret\n":                              1,
		"fun a\ncall b\nret\nfun b\ngo c\nfun c\nif b\ncall d\nret\nfun d\ngo d\n":              2,
		"fun a\ncall c\ncall b\nret\nfun b\ncall c\nret\nfun c\ngo d\nfun d\nif c\nret\n":       2,
		"fun c\ngo b\nfun b\ngo a\nfun a\nif b\nif c\ncall d\nret\nfun d\nret\n":                1,
		"fun a\ncall b\nret\nfun b\ncall c\nret\nfun c\nif c\nret\n":                            2,
		"fun a\nif e\ncall b\nret\nfun b\ngo c\nfun c\ngo d\nfun d\ngo b\nfun e\ncall d\nret\n": 1,
		// A ring with a call has none.
		"fun a\ncall a\nret\n": -1, "fun a\ngo b\nfun b\ncall b\nret\n": -1, "fun a\ncall b\nret\nfun b\ngo a\n": -1, "fun a\ngo b\nfun b\ncall a\nret\n": -1,
		"fun a\ncall b\nret\nfun b\nif c\nret\nfun c\nif d\nret\nfun d\ncall c\nret\n": -1,
		"fun a\nret\ncall a\nret\n": -1,
		"fun a\ngo b\nfun b\nif a\ngo c\nfun c\nif d\ncall b\nret\nfun d\ngo a\n":              -1,
		"fun a\ngo b\nfun b\ngo a\ncall a\nret\n":                                              -1,
		"fun e\ncall d\nret\nfun d\ngo c\nfun c\nif b\ngo a\nfun b\nret\nfun a\ncall c\nret\n": -1,
		// Such a ring that is not reached from the first function counts for nothing, even if it leads there.
		"fun a\nret\nfun b\ncall b\nret\n":                                         0,
		"fun a\ncall b\nret\nfun b\nret\nfun c\ncall d\nret\nfun d\ngo c\n":        1,
		"fun a\ncall b\nret\nfun b\nret\nfun c\ncall c\ncall a\ngo b\n":            1,
		"fun a\ngo a\nfun b\ncall c\nret\nfun c\ncall b\ncall a\nret\n":            0,
		"fun a\nret\nfun b\ncall c\nret\nfun c\ncall d\nret\nfun d\ncall a\nret\n": 0,
	} {
		checkDeep(t, readProgram(t, text), want)
	}
}

// Programs of as many functions as there may be.
func TestGraphOfManyFunctions(t *testing.T) {
	for _, count := range []int{1, 2, 6, 39, 40} {
		calls := callChain(t, count)
		checkDeep(t, calls, count-1)
		checkNames(t, "GraphBack", calls, impl.GraphBack(calls), "")
		checkNames(t, "GraphLeaf", calls, impl.GraphLeaf(calls), numbered(count-1))
		ring := chain(t, count)
		checkDeep(t, ring, 0)
		checkNames(t, "GraphBack", ring, impl.GraphBack(ring), namesOf(ring))
		checkNames(t, "GraphLeaf", ring, impl.GraphLeaf(ring), "")
		checkNames(t, "GraphBy", ring, impl.GraphBy(ring, numbered(0)), numbered(count-1))
		// One call makes a ring without a most, wherever it stands.
		for at := range count {
			ring[at].Body = fun(t, "fun x", "call "+numbered((at+1)%count), "ret").Body
			checkDeep(t, ring, -1)
			ring[at].Body = fun(t, "fun x", "go "+numbered((at+1)%count)).Body
		}
		// The first stays ahead, and the others stand the other way round.
		slices.Reverse(calls[1:])
		checkDeep(t, calls, count-1)
	}
	// All name one.
	star := []impl.Fun{fun(t, "fun z", "ret")}
	for n := range 39 {
		star = append(star, fun(t, "fun "+numbered(38-n), "go z"))
	}
	checkNames(t, "GraphBy", star, impl.GraphBy(star, "z"), namesOf(chain(t, 39)))
	checkNames(t, "GraphLeaf", star, impl.GraphLeaf(star), "z")
	checkDeep(t, star, 0)
}

// calledBy is the places of the functions that a function calls.
func calledBy(p []impl.Fun, from int) []int {
	var places []int
	for _, i := range p[from].Body {
		if i.Op == impl.InsCall {
			places = append(places, slices.IndexFunc(p, func(f impl.Fun) bool { return f.Name == i.Name }))
		}
	}
	return places
}

// deepModel is GraphDeep told otherwise: no most, if one that is reached calls one that reaches it; else one more than the deepest of those that are called by what is reached.
func deepModel(p []impl.Fun) int {
	ways := joined(p)
	known := map[int]int{}
	var deepFrom func(from int) int
	deepFrom = func(from int) int {
		if deep, found := known[from]; found {
			return deep
		}
		deep := 0
		for over := range p {
			for _, to := range calledBy(p, over) {
				if ways[from][over] {
					deep = max(deep, 1+deepFrom(to))
				}
			}
		}
		known[from] = deep
		return deep
	}
	for from := range p {
		for _, to := range calledBy(p, from) {
			if ways[0][from] && ways[to][from] {
				return -1
			}
		}
	}
	return deepFrom(0)
}

// checkGraphByModel asks all four against second ways, and that the program calls no deeper than is told; it tells how deep that is.
func checkGraphByModel(t *testing.T, p []impl.Fun, fuel int) int {
	t.Helper()
	ways := joined(p)
	by := map[string][]string{}
	var back, leaf []string
	for from, f := range p {
		// A number is no name, though it stands where a name would.
		names := slices.DeleteFunc(namesIn(programText(p[from:from+1])), func(name string) bool { return !impl.NameOk(name) })
		for _, name := range names {
			by[name] = append(by[name], f.Name)
		}
		if slices.ContainsFunc(names, func(name string) bool {
			return ways[slices.IndexFunc(p, func(g impl.Fun) bool { return g.Name == name })][from]
		}) {
			back = append(back, f.Name)
		}
		if len(names) == 0 {
			leaf = append(leaf, f.Name)
		}
	}
	for _, f := range p {
		slices.Sort(by[f.Name])
		checkNames(t, "GraphBy "+f.Name, p, impl.GraphBy(p, f.Name), strings.Join(by[f.Name], " "))
	}
	slices.Sort(back)
	slices.Sort(leaf)
	checkNames(t, "GraphBack", p, impl.GraphBack(p), strings.Join(back, " "))
	checkNames(t, "GraphLeaf", p, impl.GraphLeaf(p), strings.Join(leaf, " "))
	deep := deepModel(p)
	checkDeep(t, p, deep)
	checkCalls(t, p, deep, fuel)
	return deep
}

// checkCalls runs a program and fails if it calls deeper than that.
func checkCalls(t *testing.T, p []impl.Fun, deep int, fuel int) {
	t.Helper()
	if deep < 0 {
		return
	}
	m := impl.MachRun(p, 0)
	for range fuel {
		m = impl.MachStep(p, m)
		if len(m.Stack) > deep || m.Code == impl.MachDeep && deep <= impl.MachCall {
			t.Fatalf("%q calls deeper than %d: %v", programText(p), deep, m)
		}
	}
}

// eachNaming calls with each program of these names in which each function names each other one, and itself, in one of these ways; a way is words, each of an instruction.
func eachNaming(t *testing.T, names []string, ways [][]string, ahead []impl.Fun, call func([]impl.Fun)) {
	t.Helper()
	if len(ahead) == len(names) {
		call(ahead)
		return
	}
	bodies := [][]string{nil}
	for _, name := range names {
		var longer [][]string
		for _, body := range bodies {
			for _, way := range ways {
				lines := slices.Clone(body)
				for _, word := range way {
					lines = append(lines, word+" "+name)
				}
				longer = append(longer, lines)
			}
		}
		bodies = longer
	}
	for _, body := range bodies {
		f := fun(t, "fun "+names[len(ahead)], append(body, "ret")...)
		eachNaming(t, names, ways, append(slices.Clone(ahead), f), call)
	}
}

func TestGraphOfEachSmallProgram(t *testing.T) {
	two := [][]string{nil, {"go"}, {"if"}, {"call"}, {"if", "call"}, {"call", "go"}, {"call", "call"}}
	for _, x := range []struct {
		names []string
		ways  [][]string
		count int
	}{
		{[]string{"m"}, two, 7},
		{[]string{"m", "a"}, two, 49 * 49},
		{[]string{"m", "z", "a"}, [][]string{nil, {"if"}, {"call"}}, 27 * 27 * 27},
	} {
		count, deeps := 0, map[int]int{}
		eachNaming(t, x.names, x.ways, nil, func(p []impl.Fun) {
			deeps[checkGraphByModel(t, p, 0)]++
			count++
		})
		if count != x.count {
			t.Errorf("%d programs, not %d", count, x.count)
		}
		for deep := -1; deep < len(x.names); deep++ {
			if deeps[deep] < 1 {
				t.Errorf("%d is told of no program of %q", deep, x.names)
			}
		}
	}
}

// thinProgram is a program of so many functions, of which few call, mostly the ones behind them, mixed by a number; the first is named by none but itself.
func thinProgram(t *testing.T, count int, mix uint32) []impl.Fun {
	t.Helper()
	pick := func(n int) int {
		mix = mix*1664525 + 1013904223
		return int(mix>>16) % n
	}
	// The names are not in the order of the places: 41 is a prime.
	name := func(n int) string { return numbered(n * 17 % 41) }
	var p []impl.Fun
	for n := range count {
		lines := []string{"add 1"}
		for range pick(4) {
			switch kind := pick(12); {
			case kind < 6 && n+1 < count:
				lines = append(lines, "call "+name(n+1+pick(count-n-1)))
			case kind < 10:
				lines = append(lines, "if "+name(min(count-1, n/3*3+pick(4))))
			}
		}
		p = append(p, fun(t, "weak "+name(n), append(lines, []string{"ret", "end", "go " + name(min(count-1, n+pick(3)))}[pick(3)])...))
	}
	return p
}

// Greater programs too, with rings and without, call no deeper than is told.
func TestGraphOfGreatPrograms(t *testing.T) {
	deeps := map[int]int{}
	for count := 1; count <= 40; count++ {
		for mix := range 40 {
			deep := checkGraphByModel(t, thinProgram(t, count, uint32(count*1000+mix)), 60)
			deeps[min(deep, 8)]++
		}
		checkGraphByModel(t, mixedProgram(t, count, uint32(count)), 60)
	}
	for deep := -1; deep <= 8; deep++ {
		if deeps[deep] < 5 {
			t.Errorf("the depth %d is told %d times only", deep, deeps[deep])
		}
	}
}

// Each program of three functions, some of whose ifs are gone along, calls no deeper than is told.
func TestGraphDeepBoundsCalls(t *testing.T) {
	eachProgram(t, []string{"m", "z", "a"}, nil, func(p []impl.Fun) {
		for at := range p {
			p[at].Body = append([]impl.Ins{{Op: impl.InsAdd, N: 2 - at}}, p[at].Body...)
		}
		checkCalls(t, p, impl.GraphDeep(p), 20)
	})
	// What is told is met, where one does go along all calls.
	for count := 1; count <= impl.MachCall+1; count++ {
		p := callChain(t, count)
		if m := impl.MachRun(p, count-1); len(m.Stack) != count-1 || impl.GraphDeep(p) != count-1 {
			t.Errorf("%d functions call %d deep, and %d is told", count, len(m.Stack), impl.GraphDeep(p))
		}
	}
}

// Nothing is written into what is handed in, nor behind its ends; no answer shares memory with it, nor with another answer.
func TestGraphLeavesAllAsItWas(t *testing.T) {
	programs := [][]impl.Fun{
		readProgram(t, "fun b\ncall c\nif a\ngo b\nfun c\nret\nweak a\ngo b\n"),
		readProgram(t, "fun a\ncall a\nret\n"),
		readProgram(t, "fun a\ngo z\n"),
		readProgram(t, "fun b\nret\nfun a\nret\n", "fun b\nret\n"),
		nil, chain(t, 40), chain(t, 41), callChain(t, 40), mixedProgram(t, 40, 7),
	}
	for _, program := range programs {
		p, was := roomyUnit(program), roomyUnit(program)
		asks := []func() []string{
			func() []string { return impl.GraphBack(p) },
			func() []string { return impl.GraphLeaf(p) },
		}
		for _, f := range program {
			asks = append(asks, func() []string { return impl.GraphBy(p, f.Name) })
		}
		for number, ask := range asks {
			got, again := ask(), ask()
			want := slices.Clone(again)
			if shareRoom(got, again) {
				t.Errorf("the answer %d of %q shares memory", number, programText(program))
			}
			spoil(got)
			if more := ask(); !slices.Equal(again, want) || !slices.Equal(more, want) {
				t.Errorf("the answer %d of %q is %q, and was %q", number, programText(program), more, want)
			}
		}
		if deep := impl.GraphDeep(p); deep != impl.GraphDeep(p) || !sameRoom(p, was) {
			t.Errorf("%q has been turned into %v", programText(program), p)
		}
	}
}

// Functions that share their instructions are told of as others are.
func TestGraphOfSharedFunctions(t *testing.T) {
	body := fun(t, "fun q", "call g", "call h", "ret").Body
	p := []impl.Fun{{Name: "f", Body: body}, {Name: "h", Body: body[2:]}, {Name: "g", Weak: true, Body: body[1:]}}
	checkNames(t, "GraphBy h", p, impl.GraphBy(p, "h"), "f g")
	checkNames(t, "GraphBack", p, impl.GraphBack(p), "")
	checkNames(t, "GraphLeaf", p, impl.GraphLeaf(p), "h")
	checkDeep(t, p, 2)
	p[2].Body = body
	checkNames(t, "GraphBack", p, impl.GraphBack(p), "g")
	checkDeep(t, p, -1)
}
