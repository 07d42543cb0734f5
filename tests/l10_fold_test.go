package tests

import (
	"slices"
	"strconv"
	"strings"
	"testing"

	"loop.example/stepstone/impl"
)

func checkTwo(t *testing.T, p []impl.Fun, first int, second int, found bool) {
	t.Helper()
	if i, k, ok := impl.FoldTwo(p); i != first || k != second || ok != found {
		t.Errorf("FoldTwo of %q is %d, %d, %v, not %d, %d, %v", programText(p), i, k, ok, first, second, found)
	}
}

func checkFold(t *testing.T, what string, p []impl.Fun, got []impl.Fun, want string) {
	t.Helper()
	if text := programText(got); text != want {
		t.Errorf("%s of %q is %q, not %q", what, programText(p), text, want)
	}
}

// checkOnce fails if a program is not left as it is.
func checkOnce(t *testing.T, p []impl.Fun) {
	t.Helper()
	checkTwo(t, p, 0, 0, false)
	checkFold(t, "FoldOne", p, impl.FoldOne(p), programText(p))
	checkFold(t, "FoldAll", p, impl.FoldAll(p), programText(p))
}

func TestFoldOfNoProgram(t *testing.T) {
	alike := readProgram(t, "fun a\nsay\nret\nfun b\nsay\nret\n", "fun c\nsay\nret\n")
	list := append(notPrograms(t), readProgram(t, "fun a\nsay\nret\n", "fun a\nsay\nret\n"))
	for _, last := range []string{"say", "add 1", "call a", "if a"} {
		list = append(list, []impl.Fun{fun(t, "fun a", last)})
	}
	for _, p := range list {
		for at := range len(alike) + 1 {
			with := slices.Insert(slices.Clone(alike), at, p...)
			if len(p) == 0 {
				with = p
			}
			for _, wrong := range [][]impl.Fun{p, with} {
				if i, k, ok := impl.FoldTwo(wrong); i != 0 || k != 0 || ok {
					t.Errorf("FoldTwo of %v is %d, %d, %v", wrong, i, k, ok)
				}
				if one, all := impl.FoldOne(wrong), impl.FoldAll(wrong); len(one) != 0 || len(all) != 0 {
					t.Errorf("FoldOne and FoldAll of %v are %v and %v", wrong, one, all)
				}
			}
		}
	}
}

func TestFoldWithoutTwoAlike(t *testing.T) {
	for _, text := range []string{
		// A single function.
		"fun a\nret\n", "weak a\ngo a\n", "fun a\nsay\nsay\ncall a\nsay\nsay\ncall a\nret\n",
		"fun a\nret\nfun b\nend\n",
		// Each names itself, or the other one, so they are not the same.
		"fun a\ngo a\nfun b\ngo b\n", "fun a\ngo b\nfun b\ngo a\n", "fun a\ncall b\nif a\nret\nweak b\ncall a\nif b\nret\n",
		"fun a\ngo b\nfun b\ngo c\nfun c\ngo a\n",
		// They differ in a number alone.
		"fun a\nadd 1\nret\nfun b\nadd 2\nret\n", "fun a\nadd 1\nret\nfun b\nadd -1\nret\n", "fun a\nadd 0\nret\nfun b\nadd 1000\nret\n",
		"fun a\nadd 1\nadd 2\nret\nfun b\nadd 12\nret\n",
		// In a name alone.
		"fun a\nsay\ncall c\nret\nfun b\nsay\ncall d\nret\nfun c\nret\nfun d\nend\n", "fun a\ngo aa\nfun aa\ngo aaa\nfun aaa\nret\n",
		// In an Op alone.
		"fun a\nsay\nret\nfun b\nsay\nend\n", "fun a\ncall a\nret\nfun b\nif a\nret\nfun c\ngo a\nret\n", "fun a\nsay\nret\nfun b\nret\nret\n", "fun a\nsay\nret\nfun b\nend\nret\n",
		"fun a\nadd 0\nret\nfun b\nsay\nret\n",
		// In their length alone: behind, ahead, within.
		"fun a\nret\nfun b\nret\nret\n", "fun a\nsay\nsay\nret\nfun b\nsay\nret\n", "fun a\nend\nsay\nend\nfun b\nend\n",
		"fun a\nsay\nsay\nsay\nsay\nsay\nsay\nsay\nsay\nsay\nret\nfun b\nsay\nsay\nsay\nsay\nsay\nsay\nsay\nsay\nret\n",
		// In their order alone.
		"fun a\nsay\nadd 1\nret\nfun b\nadd 1\nsay\nret\n", "fun a\ncall a\nif b\nret\nfun b\nif b\ncall a\nret\n", "fun a\nret\nend\nret\nfun b\nend\nret\nret\n",
		"fun a\ncall a\ncall b\nret\nfun b\ncall b\ncall a\nret\n",
	} {
		checkOnce(t, readProgram(t, text))
	}
	for _, count := range []int{1, 2, 39, 40} {
		checkOnce(t, callChain(t, count))
		if count > 1 {
			checkOnce(t, chain(t, count))
		}
	}
}

func TestFoldTwo(t *testing.T) {
	for _, x := range []struct {
		text          string
		first, second int
	}{
		{"fun a\nret\nfun b\nret\n", 0, 1},
		// The first function is one of the two.
		{"fun a\nsay\nend\nfun b\nret\nfun c\nsay\nend\n", 0, 2},
		{"fun a\ncall a\nret\nfun b\nend\nfun c\nend\ngo c\nweak d\ncall a\nret\n", 0, 3},
		// It is none.
		{"fun a\nret\nfun b\nend\nfun c\nend\n", 1, 2},
		{"fun a\ngo c\nfun b\nsay\nret\nfun c\nret\nfun d\nend\nfun e\nsay\nret\n", 1, 4},
		// Three are alike, and four.
		{"fun a\nret\nfun b\nret\nfun c\nret\n", 0, 1},
		{"fun a\ngo b\nfun b\nret\nfun c\ngo c\nfun d\nret\nfun e\nret\n", 1, 3},
		{"fun a\nend\nfun b\nret\nfun c\nret\nfun d\nret\nfun e\nret\n", 1, 2},
		// Two pairs: within one another, one behind the other, and crossing.
		{"fun a\nret\nfun b\nend\nfun c\nend\nfun d\nret\n", 0, 3},
		{"fun a\nret\nfun b\nret\nfun c\nend\nfun d\nend\n", 0, 1},
		{"fun a\nend\nfun b\nret\nfun c\nend\nfun d\nret\n", 0, 2},
		{"fun z\nsay\nend\nfun d\nret\nfun c\nend\nfun b\nend\nfun a\nret\n", 1, 4},
		// One that is the same as two others: the nearer one.
		{"fun a\nret\nfun b\nend\nfun c\nret\nfun d\nend\nfun e\nret\n", 0, 2},
		// Be it Weak or not.
		{"fun a\nend\nfun b\nsay\nret\nweak c\nsay\nret\n", 1, 2},
		{"fun a\nend\nweak b\nsay\nret\nfun c\nsay\nret\n", 1, 2},
		{"weak a\nend\nweak b\nsay\nret\nweak c\nsay\nret\n", 1, 2},
		// With names: each the same, of themselves too.
		{"fun a\ngo b\nfun b\ngo b\n", 0, 1},
		{"fun a\ngo a\nfun b\ngo a\n", 0, 1},
		{"fun m\ncall a\nend\nfun a\nif b\nadd -7\ncall m\ngo a\nfun b\nif b\nadd -7\ncall m\ngo a\n", 1, 2},
		{"fun a\nsay\nsay\nsay\nsay\nsay\nsay\nsay\nsay\nsay\nret\nfun b\nsay\nsay\nsay\nsay\nsay\nsay\nsay\nsay\nsay\nret\n", 0, 1},
		// That others are the same only when these are one is not looked at.
		{"fun m\nend\nfun a\ngo c\nfun b\ngo d\nfun c\nret\nfun d\nret\n", 3, 4},
	} {
		checkTwo(t, readProgram(t, x.text), x.first, x.second, true)
	}
	// Two of forty, wherever they stand.
	for first := range 40 {
		for second := first + 1; second < 40; second++ {
			p := chain(t, 40)
			p[second].Body = slices.Clone(p[first].Body)
			checkTwo(t, p, first, second, true)
		}
	}
}

func TestFoldOne(t *testing.T) {
	for _, x := range []struct{ text, want string }{
		// The second is named by none.
		{"fun a\nret\nfun b\nret\n", "fun a\nret\n"},
		{"fun a\nsay\nend\nfun b\nret\nfun c\nend\nfun d\nret\n", "fun a\nsay\nend\nfun b\nret\nfun c\nend\n"},
		// By itself.
		{"fun a\ngo b\nfun b\ngo b\n", "fun a\ngo a\n"},
		{"fun m\nend\nfun a\ncall b\nif b\nret\nfun c\nret\nfun b\ncall b\nif b\nret\n", "fun m\nend\nfun a\ncall a\nif a\nret\nfun c\nret\n"},
		// By the first of the two, and so by itself; the first is named by the second.
		{"fun m\nend\nfun a\ncall a\ncall b\nret\nfun b\ncall a\ncall b\nret\n", "fun m\nend\nfun a\ncall a\ncall a\nret\n"},
		{"fun a\ngo a\nfun b\ngo a\n", "fun a\ngo a\n"},
		// By one ahead of it, by one between, and by one behind.
		{"fun m\ncall b\nend\nfun a\nret\nfun b\nret\n", "fun m\ncall a\nend\nfun a\nret\n"},
		{"fun m\nend\nfun a\nret\nfun c\ncall b\nend\nfun b\nret\n", "fun m\nend\nfun a\nret\nfun c\ncall a\nend\n"},
		{"fun m\nend\nfun a\nret\nfun b\nret\nfun c\ngo b\nfun d\nif b\nend\n", "fun m\nend\nfun a\nret\nfun c\ngo a\nfun d\nif a\nend\n"},
		// By several instructions of one function, behind its end too.
		{"fun m\ncall b\ncall a\ncall b\nif b\ngo b\nfun a\nsay\nret\nfun b\nsay\nret\n", "fun m\ncall a\ncall a\ncall a\nif a\ngo a\nfun a\nsay\nret\n"},
		{"fun m\nend\ncall b\nret\nif b\nend\nfun a\nret\nfun b\nret\n", "fun m\nend\ncall a\nret\nif a\nend\nfun a\nret\n"},
		// Names of which that one is a part stay.
		{"fun m\ncall bb\ncall b\ncall ab\nend\nfun a\nret\nfun b\nret\nfun bb\nend\nfun ab\nsay\nend\n", "fun m\ncall bb\ncall a\ncall ab\nend\nfun a\nret\nfun bb\nend\nfun ab\nsay\nend\n"},
		// Names that are words of the text.
		{"fun m\ncall say\nadd 5\nsay\nret\nfun add\nret\nfun say\nret\n", "fun m\ncall add\nadd 5\nsay\nret\nfun add\nret\n"},
		// The first stays as it is, be it Weak and the second not, or the other way round.
		{"fun m\ncall b\nend\nweak a\nret\nfun b\nret\n", "fun m\ncall a\nend\nweak a\nret\n"},
		{"fun m\ncall b\nend\nfun a\nret\nweak b\nret\n", "fun m\ncall a\nend\nfun a\nret\n"},
		// The first function, named by others and by itself.
		{"fun m\ncall b\nret\nfun a\ngo b\nfun b\ncall b\nret\n", "fun m\ncall m\nret\nfun a\ngo m\n"},
		// One step alone: of three two stay, and so do two that are the same only now.
		{"fun m\ncall c\ncall b\nend\nfun a\nret\nfun b\nret\nfun c\nret\n", "fun m\ncall c\ncall a\nend\nfun a\nret\nfun c\nret\n"},
		{"fun m\nend\nfun a\ngo c\nfun b\ngo d\nfun c\nret\nfun d\nret\n", "fun m\nend\nfun a\ngo c\nfun b\ngo c\nfun c\nret\n"},
		{"fun m\nend\nfun a\nret\nfun b\nret\nfun c\nsay\nend\nfun d\nsay\nend\n", "fun m\nend\nfun a\nret\nfun c\nsay\nend\nfun d\nsay\nend\n"},
		// What is not reached is folded too.
		{"fun m\nend\nfun a\ngo b\nfun b\ngo b\n", "fun m\nend\nfun a\ngo a\n"},
	} {
		p := readProgram(t, x.text)
		checkFold(t, "FoldOne", p, impl.FoldOne(p), x.want)
		checkSays(t, p, impl.FoldOne(p), 40)
	}
}

// longProgram makes a program of its text, however many functions it has.
func longProgram(t *testing.T, text string) []impl.Fun {
	t.Helper()
	return readProgram(t, cutFuns(text)...)
}

// cutFuns is the text of each function that there is in a text of some.
func cutFuns(text string) []string {
	var texts []string
	for line := range strings.Lines(text) {
		if strings.HasPrefix(line, "fun ") || strings.HasPrefix(line, "weak ") {
			texts = append(texts, "")
		}
		texts[len(texts)-1] += line
	}
	return texts
}

func TestFoldAll(t *testing.T) {
	for _, x := range []struct{ text, want string }{
		{"fun a\nret\nfun b\nret\n", "fun a\nret\n"},
		// Pairs that have nothing to do with one another.
		{"fun m\ncall b\ncall d\nend\nfun a\nret\nfun c\nsay\nret\nfun b\nret\nfun d\nsay\nret\n", "fun m\ncall a\ncall c\nend\nfun a\nret\nfun c\nsay\nret\n"},
		// All are alike.
		{"fun a\nsay\nret\nweak b\nsay\nret\nfun c\nsay\nret\nfun d\nsay\nret\n", "fun a\nsay\nret\n"},
		{"fun d\ncall b\nret\nfun c\ncall b\nret\nfun b\ncall b\nret\nfun a\ncall b\nret\n", "fun d\ncall d\nret\n"},
		// Two call each other: they are the same only if both call one.
		{"fun m\ncall a\nend\nfun a\ncall b\nret\nfun b\ncall a\nret\n", "fun m\ncall a\nend\nfun a\ncall b\nret\nfun b\ncall a\nret\n"},
		{"fun m\ncall a\nend\nfun a\ncall b\ncall a\nret\nfun b\ncall b\ncall a\nret\n", "fun m\ncall a\nend\nfun a\ncall a\ncall a\nret\n"},
		{"fun m\ncall a\nend\nfun a\ncall b\nret\nfun b\ncall a\nret\nfun c\ncall a\nret\n", "fun m\ncall a\nend\nfun a\ncall b\nret\nfun b\ncall a\nret\n"},
		// A third and a fourth that call the same two.
		{"fun m\ncall c\ncall d\nend\nfun a\ncall b\nret\nfun b\ncall a\nret\nfun c\ncall b\nret\nfun d\ncall a\nret\n", "fun m\ncall a\ncall b\nend\nfun a\ncall b\nret\nfun b\ncall a\nret\n"},
		// Two that are the same only when others are one: behind them, ahead of them, between.
		{"fun m\nend\nfun a\ngo c\nfun b\ngo d\nfun c\nret\nfun d\nret\n", "fun m\nend\nfun a\ngo c\nfun c\nret\n"},
		{"fun m\nend\nfun c\nret\nfun d\nret\nfun a\ngo c\nfun b\ngo d\n", "fun m\nend\nfun c\nret\nfun a\ngo c\n"},
		{"fun m\nend\nfun c\nret\nfun a\ngo c\nfun b\ngo d\nfun d\nret\n", "fun m\nend\nfun c\nret\nfun a\ngo c\n"},
		{"fun m\nend\nfun a\ngo c\nfun c\nret\nfun d\nret\nfun b\ngo d\n", "fun m\nend\nfun a\ngo c\nfun c\nret\n"},
		// In three steps.
		{"fun m\ncall f\nend\nfun a\ngo c\nfun b\ngo d\nfun c\ngo e\nfun d\ngo f\nfun e\nret\nfun f\nret\n", "fun m\ncall e\nend\nfun a\ngo c\nfun c\ngo e\nfun e\nret\n"},
		// Two that were one become a third, which stands ahead of both.
		{"fun m\ncall c\nend\nfun a\ngo e\nfun b\ngo d\nfun c\ngo d\nfun d\nret\nfun e\nret\n", "fun m\ncall a\nend\nfun a\ngo d\nfun d\nret\n"},
		{"fun m\ncall d\ncall c\nend\nfun x\ncall f\nret\nfun a\ncall e\nret\nfun b\ncall e\nret\nfun c\ncall b\nret\nfun d\ncall x\nret\nfun e\nsay\nret\nfun f\nsay\nret\n", "fun m\ncall c\ncall c\nend\nfun x\ncall e\nret\nfun c\ncall x\nret\nfun e\nsay\nret\n"},
		// A third that becomes the same as two only when these are one.
		{"fun m\nend\nfun a\ncall a\nret\nfun b\ncall a\nret\nfun c\ncall b\nret\nfun d\ncall c\nret\n", "fun m\nend\nfun a\ncall a\nret\n"},
		// The first function, of which the beginning is, becomes the same as others only then.
		{"fun m\ncall b\nret\nfun a\nret\nfun b\nret\nfun c\ncall a\nret\nfun d\ngo c\n", "fun m\ncall a\nret\nfun a\nret\nfun d\ngo m\n"},
		{"weak m\nend\nfun a\nend\nfun b\nend\ncall a\nend\n", "weak m\nend\nfun b\nend\ncall m\nend\n"},
		// Rings of which one place names a twin.
		{"fun a\ngo b\nfun b\ngo c\nfun c\ngo b\n", "fun a\ngo b\nfun b\ngo a\n"},
		{"fun a\ngo b\nfun b\ngo a\nfun c\ngo d\nfun d\ngo c\n", "fun a\ngo b\nfun b\ngo a\nfun c\ngo d\nfun d\ngo c\n"},
	} {
		p := longProgram(t, x.text)
		checkFold(t, "FoldAll", p, impl.FoldAll(p), x.want)
		checkFoldByModel(t, p, 200)
	}
}

// Programs of as many functions as there may be.
func TestFoldOfManyFunctions(t *testing.T) {
	for _, count := range []int{2, 3, 39, 40} {
		name := func(n int) string { return numbered(n) }
		var alike, behind, ahead []impl.Fun
		for n := range count {
			alike = append(alike, fun(t, "fun "+name(n), "say", "go "+name(count-1)))
			// Each two are the same only when those of which the one is named by the one are: a step for each.
			behind = append(behind, fun(t, "fun "+name(n), "call "+name(min(n+1, count-1)), "ret"))
			ahead = append(ahead, fun(t, "weak "+name(n), "call "+name(max(n-1, 0)), "ret"))
		}
		checkFold(t, "FoldAll", alike, impl.FoldAll(alike), "fun "+name(0)+"\nsay\ngo "+name(0)+"\n")
		checkFold(t, "FoldAll", behind, impl.FoldAll(behind), "fun "+name(0)+"\ncall "+name(0)+"\nret\n")
		checkFold(t, "FoldAll", ahead, impl.FoldAll(ahead), "weak "+name(0)+"\ncall "+name(0)+"\nret\n")
		checkTwo(t, alike, 0, 1, true)
		checkTwo(t, behind, count-2, count-1, true)
		checkTwo(t, ahead, 0, 1, true)
		for _, p := range [][]impl.Fun{alike, behind, ahead} {
			checkFoldByModel(t, p, 200)
		}
	}
}

func checkFoldName(t *testing.T, f impl.Fun, from string, to string, want impl.Fun) {
	t.Helper()
	if got := impl.FoldName(f, from, to); got.Name != want.Name || got.Weak != want.Weak || !slices.Equal(got.Body, want.Body) {
		t.Errorf("FoldName of %v from %q to %q is %v, not %v", f, from, to, got, want)
	}
}

func TestFoldName(t *testing.T) {
	f := fun(t, "weak a", "call a", "call b", "if b", "say", "if a", "add 7", "go b", "go a", "ret")
	for _, x := range []struct {
		from, to string
		lines    string
	}{
		// In each of the three, also more than once; its own Name stays.
		{"a", "x", "call x,call b,if b,say,if x,add 7,go b,go x,ret"},
		{"b", "x", "call a,call x,if x,say,if a,add 7,go x,go a,ret"},
		{"b", "a", "call a,call a,if a,say,if a,add 7,go a,go a,ret"},
		{"a", "b", "call b,call b,if b,say,if b,add 7,go b,go b,ret"},
		{"a", "abcdef", "call abcdef,call b,if b,say,if abcdef,add 7,go b,go abcdef,ret"},
		{"a", "say", "call say,call b,if b,say,if say,add 7,go b,go say,ret"},
		// Both are one.
		{"a", "a", ""}, {"b", "b", ""}, {"x", "x", ""},
		// The one is in no instruction, or no name.
		{"x", "y", ""}, {"x", "a", ""}, {"ab", "x", ""}, {"aa", "x", ""}, {"say", "x", ""}, {"ret", "x", ""},
		{"", "x", ""}, {"7", "x", ""}, {"A", "x", ""}, {"abcdefg", "x", ""}, {"a ", "x", ""}, {"call a", "x", ""}, {"\xff", "x", ""},
	} {
		want := f
		if x.lines != "" {
			want = fun(t, "weak a", strings.Split(x.lines, ",")...)
		}
		checkFoldName(t, f, x.from, x.to, want)
	}
	for _, lines := range [][]string{{"ret"}, {"say", "add 1", "end"}} {
		checkFoldName(t, fun(t, "fun z", lines...), "z", "y", fun(t, "fun z", lines...))
		checkFoldName(t, fun(t, "fun z", lines...), "", "y", fun(t, "fun z", lines...))
	}
	checkFoldName(t, fun(t, "fun a", "go a"), "a", "b", fun(t, "fun a", "go b"))
	checkFoldName(t, fun(t, "fun a", "call a", "ret"), "a", "b", fun(t, "fun a", "call b", "ret"))
	checkFoldName(t, fun(t, "fun a", "if a", "ret"), "a", "b", fun(t, "fun a", "if b", "ret"))
	ten := []string{"call a", "call a", "call a", "call a", "call a", "if a", "if a", "if a", "if a", "go a"}
	var turned []string
	for _, line := range ten {
		turned = append(turned, strings.TrimSuffix(line, "a")+"abcdef")
	}
	checkFoldName(t, fun(t, "fun f", ten...), "a", "abcdef", fun(t, "fun f", turned...))
}

func TestFoldNameOfNothing(t *testing.T) {
	f := fun(t, "weak a", "call a", "say", "ret")
	// The other one is no name, be the one in the function, or not, or the same.
	for _, to := range []string{"", "abcdefg", "A", "1", "a1", "aB", " ", "a ", " a", "a\n", "\xff", "é", "a b", strings.Repeat("a", 1000)} {
		for _, from := range []string{"a", "x", "", to} {
			checkFoldName(t, f, from, to, impl.Fun{})
		}
	}
	// The function is not ok.
	wrong := []impl.Fun{
		{}, {Name: "a"}, {Body: f.Body}, {Name: "A", Body: f.Body}, {Name: "abcdefg", Weak: true, Body: f.Body},
		fun(t, "fun a", "call a"), fun(t, "fun a", "call a", "if a"), fun(t, "fun a", "call a", "say"),
		fun(t, "fun a", "say", "say", "say", "say", "say", "say", "say", "say", "say", "say", "go a"),
	}
	for _, i := range wrongIns {
		wrong = append(wrong, impl.Fun{Name: "a", Body: []impl.Ins{{Op: impl.InsCall, Name: "a"}, i, {Op: impl.InsRet}}})
	}
	for _, f := range wrong {
		for _, from := range []string{"a", "b", ""} {
			for _, to := range []string{"a", "x", "", "A"} {
				checkFoldName(t, f, from, to, impl.Fun{})
			}
		}
	}
}

// foldTexts is the texts of functions, one by one.
func foldTexts(p []impl.Fun) []string {
	var texts []string
	for at := range p {
		texts = append(texts, programText(p[at:at+1]))
	}
	return texts
}

// twoModel is FoldTwo over texts of functions, each two of which are held against each other.
func twoModel(texts []string) (int, int, bool) {
	for first, one := range texts {
		_, body, _ := strings.Cut(one, "\n")
		for second, other := range texts[first+1:] {
			if _, same, _ := strings.Cut(other, "\n"); same == body {
				return first, first + 1 + second, true
			}
		}
	}
	return 0, 0, false
}

// oneModel is FoldOne over texts of functions.
func oneModel(texts []string) []string {
	first, second, found := twoModel(texts)
	if !found {
		return texts
	}
	var left []string
	for at, text := range texts {
		if at != second {
			head, body, _ := strings.Cut(text, "\n")
			_, stays, _ := strings.Cut(strings.SplitN(texts[first], "\n", 2)[0], " ")
			_, goes, _ := strings.Cut(strings.SplitN(texts[second], "\n", 2)[0], " ")
			left = append(left, head+"\n"+strings.ReplaceAll(body, " "+goes+"\n", " "+stays+"\n"))
		}
	}
	return left
}

// checkFoldByModel asks all against texts, what is told, and that it says the same for each fuel up to that; it tells how many steps FoldAll takes.
func checkFoldByModel(t *testing.T, p []impl.Fun, fuel int) int {
	t.Helper()
	texts := foldTexts(p)
	first, second, found := twoModel(texts)
	checkTwo(t, p, first, second, found)
	checkFold(t, "FoldOne", p, impl.FoldOne(p), strings.Join(oneModel(texts), ""))
	steps := 0
	for found {
		texts = oneModel(texts)
		steps++
		_, _, found = twoModel(texts)
	}
	q := impl.FoldAll(p)
	checkFold(t, "FoldAll", p, q, strings.Join(texts, ""))
	if len(q)+steps != len(p) || !impl.KeepOk(q) || q[0].Name != p[0].Name || q[0].Weak != p[0].Weak {
		t.Errorf("FoldAll of %q is %q", programText(p), programText(q))
	}
	if _, _, twice := impl.FoldTwo(q); twice {
		t.Errorf("two of FoldAll of %q are the same: %q", programText(p), programText(q))
	}
	checkSays(t, p, q, fuel)
	return steps
}

// checkSays fails if two programs do not say, hold and end the same for each fuel up to that.
func checkSays(t *testing.T, p []impl.Fun, q []impl.Fun, most int) {
	t.Helper()
	for fuel := range most + 1 {
		a, b := impl.MachRun(p, fuel), impl.MachRun(q, fuel)
		if !slices.Equal(a.Outs, b.Outs) || a.Acc != b.Acc || a.Code != b.Code || len(a.Stack) != len(b.Stack) || a.Code == impl.MachForm {
			t.Fatalf("%q with the fuel %d is %v, and %q is %v", programText(p), fuel, a, programText(q), b)
		}
		// One that has ended stays as it is.
		if a.Code != impl.MachGoes {
			return
		}
	}
}

// All programs of three functions that name up to two, and of five that name one.
func TestFoldOfEachSmallProgram(t *testing.T) {
	steps := map[int]int{}
	eachProgram(t, []string{"m", "z", "a"}, nil, func(p []impl.Fun) {
		steps[checkFoldByModel(t, p, 12)]++
	})
	names := []string{"m", "z", "a", "c", "b"}
	digits := make([]int, len(names))
	for more := true; more; more = next(digits, len(names)+1) {
		var p []impl.Fun
		for at, digit := range digits {
			line := "say"
			if digit < len(names) {
				line = "call " + names[digit]
			}
			p = append(p, fun(t, "fun "+names[at], line, "ret"))
		}
		steps[checkFoldByModel(t, p, 0)]++
	}
	for count := range 5 {
		if steps[count] < 40 {
			t.Errorf("FoldAll takes %d steps %d times only", count, steps[count])
		}
	}
}

// twinProgram is a program of so many functions, of which many are the same, or are so when others are one, mixed by a number.
func twinProgram(t *testing.T, count int, mix uint32) []impl.Fun {
	t.Helper()
	pick := func(n int) int {
		mix = mix*1664525 + 1013904223
		return int(mix>>16) % n
	}
	name := func(n int) string { return numbered(n * 17 % 41) }
	wide := 1 + pick(2)
	p := []impl.Fun{fun(t, "weak "+name(0), "say", "call "+name(1%count), "call "+name(2%count), []string{"end", "ret", "go " + name(0), "go " + name(0)}[pick(4)])}
	for n := 1; n < count; n++ {
		// One names what is as far from it, or nearly, as with the others, so that twins name twins.
		near := func() string { return name((n + 3 + pick(wide)) % count) }
		lines := [][]string{
			{"say", "ret"}, {"add " + strconv.Itoa(pick(2)), "ret"},
			{"say", "call " + near(), "ret"}, {"add 1", "if " + near(), "ret"},
			{"call " + near(), "go " + near()}, {"say", "go " + near()},
			{"add 1", "call " + near(), "call " + near(), "end"},
		}[min(pick(7), pick(7))]
		p = append(p, fun(t, []string{"fun ", "weak "}[pick(2)]+name(n), lines...))
	}
	return p
}

// Greater programs, with many twins, say the same for each fuel.
func TestFoldOfGreatPrograms(t *testing.T) {
	steps, codes := map[int]int{}, map[int]int{}
	for count := 1; count <= 40; count++ {
		for mix := range 12 {
			p := twinProgram(t, count, uint32(count*1000+mix))
			steps[checkFoldByModel(t, p, 200)/5]++
			codes[impl.MachRun(p, 200).Code]++
		}
		checkFoldByModel(t, mixedProgram(t, count, uint32(count)), 200)
	}
	for part := range 5 {
		if steps[part] < 10 {
			t.Errorf("FoldAll takes %d to %d steps %d times only", part*5, part*5+4, steps[part])
		}
	}
	for code := impl.MachGoes; code <= impl.MachFull; code++ {
		if codes[code] < 5 {
			t.Errorf("the code %d is told %d times only", code, codes[code])
		}
	}
}

// A function named as in text turned by the model is FoldName of it, for each two names.
func TestFoldNameByText(t *testing.T) {
	for mix := range 20 {
		for _, f := range mixedProgram(t, 5, uint32(mix)) {
			for from := range 6 {
				for to := range 6 {
					head, body, _ := strings.Cut(programText([]impl.Fun{f}), "\n")
					want := head + "\n" + strings.ReplaceAll(body, " "+numbered(from)+"\n", " "+numbered(to)+"\n")
					if got := programText([]impl.Fun{impl.FoldName(f, numbered(from), numbered(to))}); got != want {
						t.Errorf("FoldName of %q from %q to %q is %q", head+body, numbered(from), numbered(to), got)
					}
				}
			}
		}
	}
}

// Nothing is written into what is handed in, nor behind its ends; no answer shares memory with it, with another answer, or within itself.
func TestFoldLeavesAllAsItWas(t *testing.T) {
	programs := [][]impl.Fun{
		readProgram(t, "fun m\ncall b\ngo b\nfun a\nsay\nret\nfun b\nsay\nret\n"),
		readProgram(t, "fun m\ncall b\ngo a\nfun a\nsay\nret\nfun b\nret\n"),
		readProgram(t, "fun m\nend\nfun a\ngo c\nfun b\ngo d\nfun c\nret\nfun d\nret\n"),
		readProgram(t, "fun m\nend\n"), readProgram(t, "fun m\ngo z\nfun a\nret\nfun b\nret\n"),
		nil, chain(t, 41), chain(t, 40), twinProgram(t, 40, 3), mixedProgram(t, 40, 7),
	}
	for _, program := range programs {
		p, was := roomyUnit(program), roomyUnit(program)
		impl.FoldTwo(p)
		asks := []func() []impl.Fun{
			func() []impl.Fun { return impl.FoldOne(p) },
			func() []impl.Fun { return impl.FoldAll(p) },
		}
		for at := range p {
			asks = append(asks, func() []impl.Fun { return []impl.Fun{impl.FoldName(p[at], "a", "b")} })
			asks = append(asks, func() []impl.Fun { return []impl.Fun{impl.FoldName(p[at], "", "x")} })
		}
		for number, ask := range asks {
			got, again := ask(), ask()
			if unitsShare([][]impl.Fun{got}, [][]impl.Fun{p}) || unitsShare([][]impl.Fun{got}, [][]impl.Fun{again}) {
				t.Errorf("the answer %d of %q shares memory", number, programText(program))
			}
			checkOwn(t, got)
			want := programText(again)
			spoilUnits([][]impl.Fun{got})
			if more := ask(); programText(again) != want || programText(more) != want || !sameRoom(p, was) {
				t.Errorf("the answer %d of %q is %q, and was %q", number, programText(program), programText(more), want)
			}
		}
	}
}

// Functions that share their instructions are folded as others are.
func TestFoldOfSharedFunctions(t *testing.T) {
	body := fun(t, "fun q", "call g", "call h", "ret").Body
	p := []impl.Fun{{Name: "f", Body: body}, {Name: "h", Body: body[1:]}, {Name: "g", Weak: true, Body: body[1:]}, {Name: "i", Body: body}}
	const one, all = "fun f\ncall g\ncall h\nret\nfun h\ncall h\nret\nweak g\ncall h\nret\n", "fun f\ncall h\ncall h\nret\nfun h\ncall h\nret\n"
	checkTwo(t, p, 0, 3, true)
	checkFold(t, "FoldOne", p, impl.FoldOne(p), one)
	checkFold(t, "FoldAll", p, impl.FoldAll(p), all)
	checkOwn(t, impl.FoldOne(p))
	checkOwn(t, impl.FoldAll(p))
	impl.FoldName(p[0], "h", "x")
	if text := programText(p); text != "fun f\ncall g\ncall h\nret\nfun h\ncall h\nret\nweak g\ncall h\nret\nfun i\ncall g\ncall h\nret\n" {
		t.Errorf("%q", text)
	}
}
