package tests

import (
	"slices"
	"strings"
	"testing"

	"loop.example/stepstone/impl"
)

// readProgram makes a program of the texts of its units, however many functions these are.
func readProgram(t *testing.T, texts ...string) []impl.Fun {
	t.Helper()
	return slices.Concat(readUnits(t, texts...)...)
}

// programText writes functions one by one, as a program may be longer than a unit.
func programText(p []impl.Fun) string {
	var text strings.Builder
	for _, f := range p {
		text.WriteString(impl.UnitText([]impl.Fun{f}))
	}
	return text.String()
}

// namesOf is the names of functions, in order, with a space between.
func namesOf(p []impl.Fun) string {
	var names []string
	for _, f := range p {
		names = append(names, f.Name)
	}
	return strings.Join(names, " ")
}

// numbered is the n'th of many names.
func numbered(n int) string { return "f" + string(rune('a'+n/26)) + string(rune('a'+n%26)) }

// chain is so many functions, each of which goes on at the next, and the last at the first.
func chain(t *testing.T, count int) []impl.Fun {
	t.Helper()
	var p []impl.Fun
	for n := range count {
		p = append(p, fun(t, "fun "+numbered(n), "go "+numbered((n+1)%count)))
	}
	return p
}

// inUnits is functions in units of so many.
func inUnits(p []impl.Fun, size int) [][]impl.Fun { return slices.Collect(slices.Chunk(p, size)) }

func checkNoProgram(t *testing.T, p []impl.Fun) {
	t.Helper()
	if impl.KeepOk(p) {
		t.Errorf("%v is a program", p)
	}
	if got := impl.KeepOnly(p); len(got) != 0 {
		t.Errorf("KeepOnly of %v is %v", p, got)
	}
	names := []string{"", "a", "b", "z"}
	for _, f := range p {
		if !slices.Contains(names, f.Name) {
			names = append(names, f.Name)
		}
	}
	for _, name := range names {
		if got := impl.KeepReach(p, name); len(got) != 0 {
			t.Errorf("KeepReach of %v from %q is %q", p, name, got)
		}
	}
}

func TestKeepBounds(t *testing.T) {
	if impl.KeepMost != 40 {
		t.Error("bounds")
	}
}

func TestKeepOkByCount(t *testing.T) {
	checkNoProgram(t, nil)
	checkNoProgram(t, []impl.Fun{})
	for _, count := range []int{1, 2, 5, 6, 39, 40} {
		if !impl.KeepOk(chain(t, count)) {
			t.Errorf("%d functions are no program", count)
		}
		if got := impl.KeepOnly(chain(t, count)); !impl.UnitSame(got, chain(t, count)) {
			t.Errorf("KeepOnly of %d functions in a ring is %q", count, namesOf(got))
		}
		if got := impl.KeepReach(chain(t, count), numbered(0)); strings.Join(got, " ") != namesOf(chain(t, count)) {
			t.Errorf("KeepReach of %d functions in a ring is %q", count, got)
		}
	}
	for _, count := range []int{41, 42, 80} {
		checkNoProgram(t, chain(t, count))
	}
	checkNoProgram(t, make([]impl.Fun, 40))
	checkNoProgram(t, make([]impl.Fun, 1<<16))
}

func TestKeepOk(t *testing.T) {
	for _, text := range []string{
		"fun a\nret\n",
		"weak a\nret\n",
		"fun a\ngo a\n",
		"weak a\ncall a\nend\n",
		"fun a\nret\nfun b\nret\n",
		"fun a\ncall b\nret\nweak b\nif a\nend\n",
		"fun b\ncall a\nif b\ngo c\nfun c\nret\nweak a\nret\n",
		"fun a\nret\nfun b\ngo a\nfun c\ngo c\n",
		"fun fun\ngo weak\nfun weak\ngo fun\n",
	} {
		if !impl.KeepOk(readProgram(t, text)) {
			t.Errorf("%q is no program", text)
		}
	}
}

func TestKeepOkOfWrongFunctions(t *testing.T) {
	rest := readProgram(t, "fun a\ngo b\n", "weak b\ncall a\nret\n", "fun c\nret\n")
	wrong := []impl.Fun{
		{}, {Name: "z"}, fun(t, "fun z", "say"), fun(t, "fun z", "call a"), fun(t, "fun ", "ret"), fun(t, "fun Z", "ret"), fun(t, "fun abcdefg", "ret"),
		fun(t, "weak z", "say", "say", "say", "say", "say", "say", "say", "say", "say", "say", "ret"),
	}
	for _, i := range wrongIns {
		wrong = append(wrong, impl.Fun{Name: "z", Body: []impl.Ins{i, {Op: impl.InsRet}}})
	}
	for _, f := range wrong {
		checkNoProgram(t, []impl.Fun{f})
		for at := range len(rest) + 1 {
			checkNoProgram(t, slices.Insert(slices.Clone(rest), at, f))
		}
	}
}

func TestKeepOkOfTwoOfOneName(t *testing.T) {
	for _, heads := range [][2]string{{"fun a", "fun a"}, {"fun a", "weak a"}, {"weak a", "fun a"}, {"weak a", "weak a"}} {
		for _, last := range []string{"ret", "end", "go a", "go b"} {
			one, two := fun(t, heads[0], "ret"), fun(t, heads[1], last)
			b, c := fun(t, "fun b", "go a"), fun(t, "weak c", "ret")
			checkNoProgram(t, []impl.Fun{one, two, b})
			checkNoProgram(t, []impl.Fun{b, one, two})
			checkNoProgram(t, []impl.Fun{b, c, one, two})
			checkNoProgram(t, []impl.Fun{one, b, two})
			checkNoProgram(t, []impl.Fun{one, b, c, two})
			checkNoProgram(t, []impl.Fun{c, one, b, two})
		}
	}
	many := chain(t, 40)
	many[39].Name = many[0].Name
	many[38].Body[0].Name = many[0].Name
	checkNoProgram(t, many)
}

func TestKeepOkOfNamesThatNoneHas(t *testing.T) {
	for _, text := range []string{
		"fun a\ngo z\n", "fun a\ncall z\nret\n", "fun a\nif z\nret\n", "weak a\ngo z\n",
		"fun a\ncall a\ncall b\nif z\nend\nfun b\nret\n", "fun a\nend\ngo z\n",
		// Be it of a function that is not reached, or of the last.
		"fun a\nret\nfun b\ngo z\n", "fun a\nret\nfun b\ngo a\nweak c\ncall b\ncall z\nret\n",
		"fun ab\ngo a\n", "fun a\ngo ab\n",
	} {
		checkNoProgram(t, readProgram(t, text))
	}
	many := chain(t, 40)
	many[39].Body[0].Name = "z"
	checkNoProgram(t, many)
}

func checkKeepAll(t *testing.T, units []string, entry string, want string) {
	t.Helper()
	got, ok := impl.KeepAll(readUnits(t, units...), entry)
	if ok != (want != "") || programText(got) != want || !ok && len(got) != 0 {
		t.Errorf("KeepAll of %q from %q is %q, %v, not %q", units, entry, programText(got), ok, want)
	}
}

func TestKeepAll(t *testing.T) {
	const a, b, c = "fun a\nret\n", "fun b\ncall a\nend\n", "weak c\ncall b\ncall a\nret\n"
	for _, x := range []struct {
		units []string
		entry string
		want  string
	}{
		{[]string{a}, "a", a},
		{[]string{a + b + c}, "a", a},
		{[]string{a, b, c}, "b", b + a},
		{[]string{c, b, a}, "b", b + a},
		{[]string{"", c, "", b + a, ""}, "c", c + b + a},
		{[]string{"fun abcdef\nend\n"}, "abcdef", "fun abcdef\nend\n"},
		// One that is reached by itself alone: as the entry it is kept once, and by naming itself it is not kept.
		{[]string{"fun f\ncall f\nret\n" + a}, "f", "fun f\ncall f\nret\n"},
		{[]string{"weak f\ncall f\nif f\ngo f\n", a}, "f", "weak f\ncall f\nif f\ngo f\n"},
		{[]string{"fun f\ncall f\nret\n" + a}, "a", a},
		{[]string{b, "fun f\ngo f\n", a}, "b", b + a},
		{[]string{"fun main\ncall f\nend\nfun f\ncall f\nret\nfun g\ncall g\nret\n"}, "main", "fun main\ncall f\nend\nfun f\ncall f\nret\n"},
		// One that is reached in two ways, by one function, by two, and at two depths.
		{[]string{"fun main\ncall a\nif a\ngo a\n" + a}, "main", "fun main\ncall a\nif a\ngo a\n" + a},
		{[]string{"fun main\ncall x\ncall y\nend\n", a, "fun x\ngo a\n", "fun y\ngo a\n"}, "main", "fun main\ncall x\ncall y\nend\nfun x\ngo a\nfun y\ngo a\n" + a},
		{[]string{"fun main\ncall x\ncall a\nend\n", a, "fun x\ngo a\n"}, "main", "fun main\ncall x\ncall a\nend\nfun x\ngo a\n" + a},
		{[]string{"fun main\ncall a\ncall x\nend\n", a, "fun x\ngo a\n"}, "main", "fun main\ncall a\ncall x\nend\n" + a + "fun x\ngo a\n"},
		// A ring, from each of its places, and from outside.
		{[]string{"fun x\ngo y\n", "fun y\ngo z\n", "fun z\ngo x\n"}, "x", "fun x\ngo y\nfun y\ngo z\nfun z\ngo x\n"},
		{[]string{"fun x\ngo y\n", "fun y\ngo z\n", "fun z\ngo x\n"}, "y", "fun y\ngo z\nfun z\ngo x\nfun x\ngo y\n"},
		{[]string{"fun x\ngo y\n", "fun y\ngo z\n", "fun z\ngo x\n"}, "z", "fun z\ngo x\nfun x\ngo y\nfun y\ngo z\n"},
		{[]string{"fun x\ngo y\n", "fun y\ngo x\n", "fun z\ngo y\n"}, "z", "fun z\ngo y\nfun y\ngo x\nfun x\ngo y\n"},
		{[]string{"fun x\ngo y\n", "fun y\ngo x\n", "fun z\ngo y\n"}, "x", "fun x\ngo y\nfun y\ngo x\n"},
	} {
		checkKeepAll(t, x.units, x.entry, x.want)
	}
}

// The first strong one of a name is kept, else the first weak one; what the others name is not reached by them.
func TestKeepAllOfOneName(t *testing.T) {
	const main = "fun main\ncall f\nend\n"
	for _, x := range []struct {
		units []string
		entry string
		want  string
	}{
		{[]string{main, "weak f\ncall x\nret\n", "fun f\nsay\nret\n"}, "main", main + "fun f\nsay\nret\n"},
		{[]string{main + "weak f\nret\n", "fun f\ncall x\nret\n", "fun x\nret\n"}, "main", main + "fun f\ncall x\nret\nfun x\nret\n"},
		{[]string{main, "fun f\nsay\nret\n", "weak f\nret\n"}, "main", main + "fun f\nsay\nret\n"},
		{[]string{"weak f\nret\n", "weak f\nsay\nret\n", main}, "main", main + "weak f\nret\n"},
		{[]string{main, "weak f\nret\n", "weak f\nsay\nret\n", "fun x\nret\nfun f\nend\n"}, "main", main + "fun f\nend\n"},
		{[]string{main, "fun f\nsay\nret\n", "fun f\nret\n"}, "main", main + "fun f\nsay\nret\n"},
		{[]string{"fun f\nret\n", "fun f\nsay\nret\n", main}, "main", main + "fun f\nret\n"},
		{[]string{"weak f\nend\n", "fun f\nret\n", main, "fun f\nsay\nret\n"}, "main", main + "fun f\nret\n"},
		{[]string{"weak f\ncall x\nret\n", "fun x\nret\n", "fun f\nret\n"}, "f", "fun f\nret\n"},
		{[]string{"fun f\nret\n", "fun f\ncall z\nret\n"}, "f", "fun f\nret\n"},
		{[]string{"weak f\nret\n", "weak f\ncall z\nret\n"}, "f", "weak f\nret\n"},
		// A weak one that names its own name reaches the strong one.
		{[]string{"weak f\ngo f\n", "fun f\nret\n"}, "f", "fun f\nret\n"},
		// Two strong ones that are not reached.
		{[]string{"fun x\nret\n", "fun x\nret\n", "fun f\nret\n"}, "f", "fun f\nret\n"},
	} {
		checkKeepAll(t, x.units, x.entry, x.want)
	}
}

// The order is by what is reached, and in it by FunRefs: neither that of the units, nor of the names, nor down one way ahead of the next.
func TestKeepAllInOrder(t *testing.T) {
	for _, x := range []struct {
		units []string
		want  string
	}{
		{[]string{"fun a\nret\nfun b\nret\nfun c\nret\nfun main\ncall c\ncall a\ncall b\nend\n"}, "main c a b"},
		{[]string{"fun main\ncall c\nif a\ncall c\ngo b\n", "fun a\nret\n", "fun b\nret\n", "fun c\nret\n"}, "main c a b"},
		{[]string{"fun main\ncall a\ncall b\nend\n", "fun a\ncall c\nret\nfun b\ncall d\nret\n", "fun c\nret\nfun d\nret\n"}, "main a b c d"},
		{[]string{"fun main\ncall b\ncall a\nend\n", "fun a\ncall c\nret\nfun b\ncall d\nret\n", "fun c\nret\nfun d\nret\n"}, "main b a d c"},
		{[]string{"fun main\ncall a\ncall b\nend\n", "fun a\ncall d\ncall b\ncall c\nret\nfun b\ncall c\nret\n", "fun c\nret\nfun d\nret\n"}, "main a b d c"},
		{[]string{"fun main\ncall a\ncall b\nend\n", "fun a\ngo x\n", "fun b\ngo y\n", "fun x\ngo u\n", "fun y\ngo v\n", "fun u\nret\n", "fun v\nret\n"}, "main a b x y u v"},
		{[]string{"fun main\ncall a\ncall b\nend\n", "fun a\ngo x\n", "fun x\ngo y\n", "fun y\ngo z\n", "fun b\ngo z\n", "fun z\nret\n"}, "main a b x z y"},
		{[]string{"fun main\ncall z\ncall y\ngo main\n", "fun y\ncall main\ncall x\nret\nfun z\ncall y\ncall w\nret\nfun x\ngo w\nfun w\ngo x\n"}, "main z y w x"},
		{[]string{"fun main\ncall j\ncall i\ncall h\ncall g\ncall f\ncall e\ncall d\ncall c\ncall b\ngo a\n", "fun a\nret\nfun b\nret\nfun c\nret\nfun d\nret\nfun e\nret\n", "fun f\nret\nfun g\nret\nfun h\nret\nfun i\nret\nfun j\nret\n"}, "main j i h g f e d c b a"},
	} {
		got, ok := impl.KeepAll(readUnits(t, x.units...), "main")
		if !ok || namesOf(got) != x.want {
			t.Errorf("KeepAll of %q is %q, %v, not %q", x.units, namesOf(got), ok, x.want)
		}
	}
}

func TestKeepAllOfNone(t *testing.T) {
	for _, x := range []struct {
		units []string
		entry string
	}{
		// The entry is nowhere.
		{nil, "main"},
		{[]string{"", ""}, "main"},
		{[]string{"fun a\nret\n"}, "main"},
		{[]string{"fun a\ngo main\n"}, "main"},
		{[]string{"fun mai\nret\nfun mainn\nret\n"}, "main"},
		// A name that is reached is nowhere: of the entry, behind others, by a weak one, in a ring.
		{[]string{"fun main\ncall z\nend\n"}, "main"},
		{[]string{"fun main\ncall a\nif z\nend\n", "fun a\nret\n"}, "main"},
		{[]string{"fun main\ncall a\nend\n", "fun a\ngo b\n", "fun b\ngo c\n", "fun c\ngo z\n"}, "main"},
		{[]string{"fun main\ncall a\nend\n", "weak a\ngo z\n"}, "main"},
		{[]string{"fun main\ncall a\nend\n", "weak a\nret\n", "fun a\ngo z\n"}, "main"},
		{[]string{"fun main\ncall a\nend\n", "fun a\ngo z\n", "fun a\nret\n"}, "main"},
		{[]string{"fun main\ncall main\nif a\ngo main\n", "fun a\ncall main\ncall a\ncall z\nret\n"}, "main"},
		{[]string{"fun main\nend\ncall z\nend\n"}, "main"},
	} {
		checkKeepAll(t, x.units, x.entry, "")
	}
	// The entry is no name.
	for _, entry := range []string{"", " ", "Main", "main ", " main", "main\n", "abcdefg", "a b", "1", "\xff", "é", strings.Repeat("a", 1000)} {
		checkKeepAll(t, []string{"fun main\nend\n"}, entry, "")
		checkKeepAll(t, nil, entry, "")
	}
}

// What is nowhere and is not reached is not asked for.
func TestKeepAllOfNowhereNotReached(t *testing.T) {
	const main = "fun main\ncall a\nend\n"
	checkKeepAll(t, []string{main, "fun a\nret\n", "fun b\ngo z\n"}, "main", main+"fun a\nret\n")
	checkKeepAll(t, []string{main, "weak a\ngo z\n", "fun a\nret\n"}, "main", main+"fun a\nret\n")
	checkKeepAll(t, []string{main, "fun a\nret\n", "fun a\ngo z\n"}, "main", main+"fun a\nret\n")
	checkKeepAll(t, []string{main, "fun a\nret\n"}, "a", "fun a\nret\n")
	checkKeepAll(t, []string{main, "fun b\nret\n"}, "b", "fun b\nret\n")
	checkKeepAll(t, []string{"weak main\ngo z\n", "fun main\nend\n"}, "main", "fun main\nend\n")
}

func TestKeepAllOfEightAndNineUnits(t *testing.T) {
	all := chain(t, 40)
	units := inUnits(all, 5)
	got, ok := impl.KeepAll(units, numbered(0))
	if !ok || !impl.UnitSame(got, all) || !impl.KeepOk(got) {
		t.Errorf("KeepAll of 8 units of 5 is %q, %v", namesOf(got), ok)
	}
	slices.Reverse(units)
	if got, ok := impl.KeepAll(units, numbered(0)); !ok || !impl.UnitSame(got, all) {
		t.Errorf("KeepAll of 8 units of 5, the last first, is %q, %v", namesOf(got), ok)
	}
	checkKeepAll(t, []string{"fun a\ngo b\n", "", "", "", "", "", "", "fun b\nret\n"}, "a", "fun a\ngo b\nfun b\nret\n")
	checkKeepAll(t, []string{"fun a\ngo b\n", "", "", "", "", "", "", "fun b\nret\n", ""}, "a", "")
	checkKeepAll(t, []string{"fun a\nret\n", "", "", "", "", "", "", "", "fun b\nret\n"}, "a", "")
	checkKeepAll(t, make([]string, 9), "a", "")
	if got, ok := impl.KeepAll(make([][]impl.Fun, 1<<16), "a"); ok || len(got) != 0 {
		t.Errorf("KeepAll of many is %v, %v", got, ok)
	}
}

// A unit that is not ok is refused, be it reached or not, wherever it stands.
func TestKeepAllOfUnitsThatAreNotOk(t *testing.T) {
	fine := readUnits(t, "fun main\ncall q\nend\n", "fun q\nret\nfun z\nret\n")
	for _, wrong := range wrongUnits(t) {
		for at := range 3 {
			units := slices.Insert(slices.Clone(fine), at, wrong)
			for _, entry := range []string{"main", "q", "a", "z"} {
				if got, ok := impl.KeepAll(units, entry); ok || len(got) != 0 {
					t.Errorf("KeepAll of %v from %q is %v, %v", units, entry, got, ok)
				}
			}
		}
	}
}

func TestKeepOnly(t *testing.T) {
	for _, x := range []struct{ program, want string }{
		{"fun a\nret\n", "a"},
		{"fun a\ngo a\n", "a"},
		// All is reached: what is told is in the order in which it is reached, not in that of the program.
		{"fun a\ngo b\nfun b\ngo c\nweak c\nret\n", "a b c"},
		{"fun a\ncall c\ncall b\nret\nfun b\nret\nfun c\nret\n", "a c b"},
		{"fun a\ngo c\nfun b\ngo a\nfun c\ngo b\n", "a c b"},
		// The first is behind others in the order of names.
		{"fun z\ncall a\nret\nfun a\nret\nfun b\nret\n", "z a"},
		{"fun m\ngo z\nfun a\ngo m\nfun z\ncall b\nret\nfun b\nret\n", "m z b"},
		{"weak z\nret\nfun a\ngo z\n", "z"},
		// What reaches the first is not reached by that.
		{"fun a\nret\nfun b\ngo a\nfun c\ngo b\n", "a"},
		{"fun a\ngo b\nfun b\nret\nfun c\ncall a\ncall b\ngo c\n", "a b"},
		{"fun a\nret\nfun b\ngo c\nfun c\ngo b\n", "a"},
		{"fun a\nret\nfun b\ngo b\n", "a"},
		{"weak a\nif d\ncall a\nret\nfun c\nret\nweak d\ngo a\nfun b\nret\n", "a d"},
	} {
		p := readProgram(t, x.program)
		got := impl.KeepOnly(p)
		if namesOf(got) != x.want {
			t.Errorf("KeepOnly of %q is %q, not %q", x.program, namesOf(got), x.want)
		}
		for _, f := range got {
			if !impl.FunSame(f, p[impl.UnitFind(p, f.Name)]) {
				t.Errorf("KeepOnly of %q has turned %v", x.program, f)
			}
		}
	}
}

func checkKeepReach(t *testing.T, p []impl.Fun, name string, want string) {
	t.Helper()
	if got := strings.Join(impl.KeepReach(p, name), " "); got != want {
		t.Errorf("KeepReach of %q from %q is %q, not %q", programText(p), name, got, want)
	}
}

func TestKeepReach(t *testing.T) {
	p := readProgram(t, "fun main\ncall x\ncall y\nend\nfun x\ngo y\nfun y\ngo z\nweak z\ngo x\n", "fun self\ngo self\nfun b\ncall main\nret\nfun leaf\nret\n")
	for name, want := range map[string]string{
		"main": "main x y z",
		// From each place of a ring.
		"x": "x y z", "y": "x y z", "z": "x y z",
		"self": "self", "leaf": "leaf", "b": "b main x y z",
		// Names that the program has not.
		"": "", "a": "", "mai": "", "mainn": "", "Main": "", "w": "", "xy": "", " x": "", "x ": "", "abcdefg": "", "\xff": "", "ret": "",
	} {
		checkKeepReach(t, p, name, want)
	}
	// In the order of their bytes, not in that of the program, nor by how long they are.
	order := readProgram(t, "fun b\ncall ba\ncall z\ncall aa\nret\nfun z\ncall abc\ncall a\nret\nfun aa\nret\nfun abc\nret\nfun ba\ncall ab\nret\n", "fun a\nret\nfun ab\nret\n")
	checkKeepReach(t, order, "b", "a aa ab abc b ba z")
	checkKeepReach(t, order, "z", "a abc z")
	checkKeepReach(t, order, "ba", "ab ba")
}

// namesIn is what a function of that text names, each once, where it is first.
func namesIn(text string) []string {
	var names []string
	for _, line := range strings.Split(text, "\n")[1:] {
		if name, is := namedBy(line); is && !slices.Contains(names, name) {
			names = append(names, name)
		}
	}
	return names
}

// keepModel is what is reached as the document's words say it, over texts of single functions; none, if a name is nowhere.
func keepModel(funs []string, entry string) []string {
	names, kept := []string{entry}, []string(nil)
	for at := 0; at < len(names); at++ {
		place := slices.IndexFunc(funs, func(text string) bool { return strings.HasPrefix(text, "fun "+names[at]+"\n") })
		if place < 0 {
			place = slices.IndexFunc(funs, func(text string) bool { return strings.HasPrefix(text, "weak "+names[at]+"\n") })
		}
		if place < 0 {
			return nil
		}
		kept = append(kept, funs[place])
		for _, name := range namesIn(funs[place]) {
			if !slices.Contains(names, name) {
				names = append(names, name)
			}
		}
	}
	return kept
}

// All lists of up to 5 of these functions, each a unit, keep what the document's words say.
func TestKeepAllOfEachSmallList(t *testing.T) {
	texts := []string{"fun a\ncall c\nif b\nret\n", "weak a\ngo b\n", "fun b\ncall b\ngo a\n", "weak b\nret\n", "fun c\ncall b\ngo d\n", "weak d\nret\n"}
	ends := map[int]int{}
	eachList(texts, 5, nil, func(list []string) {
		for _, entry := range []string{"a", "b", "c"} {
			want := keepModel(list, entry)
			checkKeepAll(t, list, entry, strings.Join(want, ""))
			ends[len(want)]++
		}
	})
	for count := range 5 {
		if ends[count] < 20 {
			t.Errorf("%d functions are kept %d times only", count, ends[count])
		}
	}
}

// eachProgram calls with each program of that many functions in which each names up to two, in either order.
func eachProgram(t *testing.T, names []string, ahead []impl.Fun, call func([]impl.Fun)) {
	t.Helper()
	if len(ahead) == len(names) {
		call(ahead)
		return
	}
	head := "fun " + names[len(ahead)]
	next := []impl.Fun{fun(t, head, "ret")}
	for _, one := range names {
		next = append(next, fun(t, head, "call "+one, "ret"))
		for _, two := range names {
			if two != one {
				next = append(next, fun(t, head, "if "+one, "go "+two))
			}
		}
	}
	for _, f := range next {
		eachProgram(t, names, append(slices.Clone(ahead), f), call)
	}
}

// joined says for each two functions whether the second is reached from the first, by ways over ever more functions.
func joined(p []impl.Fun) [][]bool {
	ways := make([][]bool, len(p))
	for from := range p {
		ways[from] = make([]bool, len(p))
		ways[from][from] = true
		for _, i := range p[from].Body {
			if to := slices.IndexFunc(p, func(f impl.Fun) bool { return f.Name == i.Name }); to >= 0 {
				ways[from][to] = true
			}
		}
	}
	for over := range p {
		for from := range p {
			for to := range p {
				ways[from][to] = ways[from][to] || ways[from][over] && ways[over][to]
			}
		}
	}
	return ways
}

// checkKept asks of what is kept of a program all that is promised of it.
func checkKept(t *testing.T, p []impl.Fun) {
	t.Helper()
	kept := impl.KeepOnly(p)
	if !impl.KeepOk(kept) || kept[0].Name != p[0].Name || len(impl.PickWants(inUnits(kept, 5))) != 0 {
		t.Errorf("KeepOnly of %q is %q", programText(p), programText(kept))
	}
	if again := impl.KeepOnly(kept); !impl.UnitSame(again, kept) {
		t.Errorf("KeepOnly of %q is %q, not that again", programText(kept), programText(again))
	}
	if all, ok := impl.KeepAll(inUnits(p, 5), p[0].Name); !ok || !impl.UnitSame(all, kept) {
		t.Errorf("KeepAll of %q is %q, %v", programText(p), programText(all), ok)
	}
	ways := joined(p)
	for from := range p {
		var want []string
		for to := range p {
			if ways[from][to] {
				want = append(want, p[to].Name)
			}
		}
		slices.Sort(want)
		checkKeepReach(t, p, p[from].Name, strings.Join(want, " "))
		if from == 0 && len(kept) != len(want) {
			t.Errorf("KeepOnly of %q is %q, not of %q", programText(p), programText(kept), want)
		}
	}
}

// In each program of three functions just what is reached is kept, and that is kept again.
func TestKeepOfEachSmallProgram(t *testing.T) {
	for _, names := range [][]string{{"m"}, {"m", "a"}, {"m", "z", "a"}} {
		count := 0
		eachProgram(t, names, nil, func(p []impl.Fun) {
			var texts []string
			for _, f := range p {
				texts = append(texts, programText([]impl.Fun{f}))
			}
			if got, want := programText(impl.KeepOnly(p)), strings.Join(keepModel(texts, "m"), ""); got != want {
				t.Errorf("KeepOnly of %q is %q, not %q", texts, got, want)
			}
			checkKept(t, p)
			count++
		})
		if want := []int{2, 25, 1000}[len(names)-1]; count != want {
			t.Errorf("%d programs, not %d", count, want)
		}
	}
}

// In greater programs too, whose functions name others here and there.
func TestKeepOfGreatPrograms(t *testing.T) {
	for count := 1; count <= 40; count++ {
		for step := 1; step <= 7; step++ {
			var p []impl.Fun
			for n := range count {
				lines := []string{"ret"}
				if n%step == 0 {
					lines = []string{"call " + numbered((n*n+step)%count), "if " + numbered((n+step*3)%count), "go " + numbered(n*7%count)}
				}
				p = append(p, fun(t, "fun "+numbered((n*11+step)%41), lines...))
			}
			// Names are of 41, so that some that are named may be nowhere: these are turned to the first.
			for at := range p {
				for place, i := range p[at].Body {
					if impl.InsRefs(i) && !slices.ContainsFunc(p, func(f impl.Fun) bool { return f.Name == i.Name }) {
						p[at].Body[place].Name = p[0].Name
					}
				}
			}
			if !impl.KeepOk(p) {
				t.Fatalf("%q is no program", programText(p))
			}
			checkKept(t, p)
		}
	}
}

// Nothing is written into what is handed in, nor behind its ends; what is answered shares no memory with it, nor with another answer.
func TestKeepLeavesAllAsItWas(t *testing.T) {
	for _, texts := range [][]string{
		{"fun a\nret\n"},
		{"fun a\ngo a\n", "", "weak a\nret\n"},
		{"fun a\ncall b\ncall c\nret\n", "fun b\ngo c\nweak c\ncall a\nret\n", "fun d\ngo d\n"},
		{"weak b\nret\nfun z\nret\n", "fun a\ncall b\nret\n", "fun b\nsay\ngo a\n"},
		{"fun a\ngo z\n", "fun b\nret\n"},
		{"fun b\nret\n"},
		{"", "", "", "", "", "", "", "", ""},
	} {
		units, was := roomyUnits(readUnits(t, texts...)), roomyUnits(readUnits(t, texts...))
		got, _ := impl.KeepAll(units, "a")
		again, _ := impl.KeepAll(units, "a")
		if unitsShare([][]impl.Fun{got}, units) || unitsShare([][]impl.Fun{got}, [][]impl.Fun{again}) || listsShare(bodiesOf([][]impl.Fun{got})) {
			t.Errorf("%q: the answer shares memory", texts)
		}
		spoilUnits([][]impl.Fun{got})
		if !sameRooms(units, was) {
			t.Errorf("%q has been turned into %v", texts, units)
		}
		checkProgramIsLeft(t, slices.Concat(readUnits(t, texts...)...))
	}
	checkProgramIsLeft(t, chain(t, 40))
	checkProgramIsLeft(t, chain(t, 41))
}

func checkProgramIsLeft(t *testing.T, program []impl.Fun) {
	t.Helper()
	p, was := roomyUnit(program), roomyUnit(program)
	impl.KeepOk(p)
	got, again := impl.KeepOnly(p), impl.KeepOnly(p)
	if unitsShare([][]impl.Fun{got}, [][]impl.Fun{p, again}) || listsShare(bodiesOf([][]impl.Fun{got})) {
		t.Errorf("KeepOnly of %q shares memory", programText(program))
	}
	spoilUnits([][]impl.Fun{got})
	for _, f := range program {
		names, more := impl.KeepReach(p, f.Name), impl.KeepReach(p, f.Name)
		if shareRoom(names, more) {
			t.Errorf("KeepReach of %q shares memory", programText(program))
		}
		spoil(names)
	}
	if !sameRoom(p, was) {
		t.Errorf("%q has been turned into %v", programText(program), p)
	}
}

// Functions that share memory are kept in lists of their own.
func TestKeepOfSharedFunctions(t *testing.T) {
	body := fun(t, "fun q", "call g", "call h", "ret").Body
	p := []impl.Fun{{Name: "f", Body: body}, {Name: "g", Weak: true, Body: body}, {Name: "h", Body: body[2:]}}
	all, ok := impl.KeepAll([][]impl.Fun{p, p[2:], p[1:2]}, "f")
	for _, got := range [][]impl.Fun{impl.KeepOnly(p), all} {
		if !ok || !impl.UnitSame(got, p) {
			t.Fatalf("%v, %v", got, ok)
		}
		if unitsShare([][]impl.Fun{got}, [][]impl.Fun{p}) || listsShare(bodiesOf([][]impl.Fun{got})) {
			t.Error("lists of the answer share memory")
		}
	}
}
