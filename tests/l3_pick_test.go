package tests

import (
	"slices"
	"strings"
	"testing"

	"loop.example/stepstone/impl"
)

// readUnits makes units of their texts.
func readUnits(t *testing.T, texts ...string) [][]impl.Fun {
	t.Helper()
	var units [][]impl.Fun
	for _, text := range texts {
		units = append(units, readUnit(t, text))
	}
	return units
}

// unitsText writes units so that two lists of them can be held against each other.
func unitsText(units [][]impl.Fun) string {
	var texts []string
	for _, u := range units {
		texts = append(texts, impl.UnitText(u))
	}
	return strings.Join(texts, "--\n")
}

// wrongUnits are functions that are no unit, each for another reason.
func wrongUnits(t *testing.T) [][]impl.Fun {
	t.Helper()
	var six []impl.Fun
	for count := range 6 {
		six = append(six, fun(t, "fun "+string(rune('a'+count)), "call z", "ret"))
	}
	return [][]impl.Fun{
		{{}},
		{fun(t, "fun a", "call z", "say")},
		{fun(t, "fun a", "call z", "ret"), fun(t, "fun b")},
		{fun(t, "fun A", "call z", "ret")},
		{fun(t, "fun a", "call z", "ret"), fun(t, "fun a", "ret")},
		{fun(t, "weak a", "call z", "ret"), fun(t, "fun a", "ret")},
		{{Name: "a", Body: []impl.Ins{{Op: impl.InsAdd, N: 1001}, {Op: impl.InsRet}}}},
		six,
	}
}

func TestPickBounds(t *testing.T) {
	if impl.PickFine != 0 || impl.PickTwice != 1 || impl.PickLack != 2 || impl.PickForm != 3 {
		t.Error("codes")
	}
	if impl.PickUnits != 4 || impl.PickShelf != 4 {
		t.Error("bounds")
	}
}

func checkPickAt(t *testing.T, units [][]impl.Fun, name string, unit int, place int, found bool) {
	t.Helper()
	if u, p, ok := impl.PickAt(units, name); u != unit || p != place || ok != found {
		t.Errorf("PickAt of %q is %d, %d, %v, not %d, %d, %v", name, u, p, ok, unit, place, found)
	}
}

func TestPickAt(t *testing.T) {
	const weak, strong, other = "weak f\nret\n", "fun f\nret\n", "fun x\nret\n"
	for _, x := range []struct {
		units       []string
		unit, place int
	}{
		{[]string{strong}, 0, 0},
		{[]string{weak}, 0, 0},
		{[]string{other, weak}, 1, 0},
		{[]string{other, strong}, 1, 0},
		{[]string{other + weak}, 0, 1},
		{[]string{other + strong}, 0, 1},
		{[]string{weak, strong}, 1, 0},
		{[]string{weak, other + strong}, 1, 1},
		{[]string{strong, weak}, 0, 0},
		{[]string{other + strong, weak}, 0, 1},
		{[]string{weak, weak, weak, other + strong}, 3, 1},
		{[]string{weak, other, strong, weak}, 2, 0},
		{[]string{other + weak, weak}, 0, 1},
		{[]string{weak, other + weak, weak}, 0, 0},
		{[]string{"", other, weak, weak}, 2, 0},
		{[]string{strong, strong}, 0, 0},
		{[]string{other + strong, strong, strong}, 0, 1},
		{[]string{weak, other + strong, strong, weak}, 1, 1},
		{[]string{weak, weak, strong, other + strong}, 2, 0},
		{[]string{"fun a\ncall f\nret\nweak b\ngo f\n", "", "weak c\nret\nweak d\nret\nweak e\nret\nweak g\nret\nweak f\nend\n"}, 2, 4},
	} {
		checkPickAt(t, readUnits(t, x.units...), "f", x.unit, x.place, true)
	}
}

func TestPickAtOfNone(t *testing.T) {
	units := readUnits(t, "fun main\ncall f\nend\nweak g\nret\n", "fun h\ngo i\n")
	for _, name := range []string{"", "f", "i", "m", "mainn", "G", "g ", " g", "abcdefg", "\xff", "fun", "weak g"} {
		checkPickAt(t, units, name, 0, 0, false)
	}
	checkPickAt(t, nil, "main", 0, 0, false)
	checkPickAt(t, [][]impl.Fun{}, "", 0, 0, false)
	checkPickAt(t, [][]impl.Fun{nil, {}, nil}, "main", 0, 0, false)
}

// Of what is not ok nothing is told, wherever the wrong unit stands.
func TestPickOfUnitsThatAreNotOk(t *testing.T) {
	fine := readUnits(t, "fun a\ncall q\nret\n", "fun a\ncall z\nret\nweak b\nret\n")
	for _, wrong := range wrongUnits(t) {
		for at := range 3 {
			units := slices.Insert(slices.Clone(fine), at, wrong)
			checkPickNothing(t, units)
		}
		checkPickNothing(t, [][]impl.Fun{wrong})
	}
}

// checkPickNothing asks for the fixed answers of what is not ok.
func checkPickNothing(t *testing.T, units [][]impl.Fun) {
	t.Helper()
	for _, name := range []string{"a", "b", "z", "A", ""} {
		checkPickAt(t, units, name, 0, 0, false)
	}
	if name, ok := impl.PickTwo(units); ok || name != "" {
		t.Errorf("PickTwo of %v is %q, %v", units, name, ok)
	}
	if wants := impl.PickWants(units); len(wants) != 0 {
		t.Errorf("PickWants of %v is %q", units, wants)
	}
}

func TestPickOfEightAndNineUnits(t *testing.T) {
	units := readUnits(t, "weak b\nret\n", "", "", "", "", "fun a\nret\n", "weak a\nret\n", "weak c\nret\nfun a\ncall z\nret\nfun b\nret\n")
	checkPickAt(t, units, "b", 7, 2, true)
	checkPickAt(t, units, "c", 7, 0, true)
	if name, ok := impl.PickTwo(units); !ok || name != "a" {
		t.Errorf("PickTwo of 8 units is %q, %v", name, ok)
	}
	if wants := impl.PickWants(units); !slices.Equal(wants, []string{"z"}) {
		t.Errorf("PickWants of 8 units is %q", wants)
	}
	for _, more := range []string{"", "weak b\nret\n", "fun z\nret\n"} {
		checkPickNothing(t, append(slices.Clone(units), readUnit(t, more)))
	}
	checkPickNothing(t, make([][]impl.Fun, 9))
	checkPickNothing(t, make([][]impl.Fun, 1<<16))
}

func TestPickTwo(t *testing.T) {
	for _, x := range []struct {
		units []string
		want  string
	}{
		{nil, ""},
		{[]string{"", ""}, ""},
		{[]string{"fun a\nret\n"}, ""},
		{[]string{"fun a\nret\n", "fun b\ncall a\nret\n"}, ""},
		{[]string{"fun a\nret\n", "fun a\nret\n"}, "a"},
		{[]string{"fun a\nret\n", "fun a\nsay\nend\n"}, "a"},
		{[]string{"fun a\nsay\nend\n", "fun a\nret\n"}, "a"},
		{[]string{"fun a\nret\nfun b\nret\n", "fun b\nret\n"}, "b"},
		{[]string{"fun b\nret\n", "fun a\nret\nfun b\nret\n"}, "b"},
		{[]string{"fun a\nret\n", "", "fun b\nret\n", "fun c\nret\nfun a\nret\n"}, "a"},
		{[]string{"fun a\nret\n", "fun a\nret\n", "fun a\nret\n"}, "a"},
		// A strong one and weak ones are not two.
		{[]string{"fun a\nret\n", "weak a\nret\n"}, ""},
		{[]string{"weak a\nret\n", "fun a\nret\n"}, ""},
		{[]string{"weak a\nret\n", "weak a\nret\n"}, ""},
		{[]string{"weak a\nret\n", "fun a\nret\n", "weak a\nret\n"}, ""},
		{[]string{"weak a\nret\n", "fun a\nret\n", "fun a\nret\n"}, "a"},
		{[]string{"fun a\nret\n", "weak a\nret\n", "fun a\nret\n"}, "a"},
		// Of two such names the one that is first, whichever is seen a second time first, and whichever is less.
		{[]string{"fun a\nret\nfun b\nret\n", "fun a\nret\nfun b\nret\n"}, "a"},
		{[]string{"fun b\nret\nfun a\nret\n", "fun a\nret\nfun b\nret\n"}, "b"},
		{[]string{"fun a\nret\nfun b\nret\n", "fun b\nret\n", "fun a\nret\n"}, "a"},
		{[]string{"fun b\nret\nfun a\nret\n", "fun a\nret\n", "fun b\nret\n"}, "b"},
		{[]string{"fun b\nret\n", "fun a\nret\n", "fun a\nret\n", "fun b\nret\n"}, "b"},
		{[]string{"fun b\nret\n", "fun a\nret\nfun b\nret\n", "fun a\nret\n"}, "b"},
		{[]string{"fun x\nret\nfun z\nret\n", "fun y\nret\nfun a\nret\n", "fun a\nret\nfun z\nret\n"}, "z"},
		// A name is first where a function has it, be that a weak one.
		{[]string{"weak b\nret\n", "fun a\nret\n", "fun a\nret\nfun b\nret\n", "fun b\nret\n"}, "b"},
		// A name is not had by being named.
		{[]string{"fun a\ncall b\ngo b\n", "fun b\ncall a\ngo a\n"}, ""},
	} {
		if name, ok := impl.PickTwo(readUnits(t, x.units...)); name != x.want || ok != (x.want != "") {
			t.Errorf("PickTwo of %q is %q, %v, not %q", x.units, name, ok, x.want)
		}
	}
}

func TestPickWants(t *testing.T) {
	for _, x := range []struct {
		units []string
		want  string
	}{
		{nil, ""},
		{[]string{""}, ""},
		{[]string{"fun a\nret\n"}, ""},
		{[]string{"fun a\ngo a\n"}, ""},
		{[]string{"fun a\ngo b\n"}, "b"},
		{[]string{"weak a\ngo b\n"}, "b"},
		{[]string{"fun a\ngo b\n", "fun b\nret\n"}, ""},
		{[]string{"fun b\nret\n", "fun a\ngo b\n"}, ""},
		{[]string{"fun a\ngo b\n", "weak b\nret\n"}, ""},
		{[]string{"fun a\ngo b\n", "fun b\ngo a\n"}, ""},
		{[]string{"fun a\ngo b\n", "fun c\ngo b\n"}, "b"},
		{[]string{"fun a\ncall b\nif b\ngo b\nweak d\ngo b\n", "fun c\ngo b\n"}, "b"},
		{[]string{"fun a\ncall z\ncall m\nret\n", "fun q\ncall c\ncall z\nret\n", "fun c\ncall b\nret\n"}, "b m z"},
		{[]string{"fun x\ncall b\ncall ab\ncall aa\nret\n", "fun y\ncall bb\ncall abc\ncall ba\nret\n"}, "aa ab abc b ba bb"},
		// What a weak function names is wanted, though a strong one is taken ahead of it.
		{[]string{"weak a\ngo z\n", "fun a\ngo y\n"}, "y z"},
		{[]string{"fun a\ngo b\n", "", "", "", "", "", "", "fun b\ngo c\n"}, "c"},
	} {
		if got := strings.Join(impl.PickWants(readUnits(t, x.units...)), " "); got != x.want {
			t.Errorf("PickWants of %q is %q, not %q", x.units, got, x.want)
		}
	}
}

func checkPickAll(t *testing.T, units []string, shelf []string, entry string, want []string, code int) {
	t.Helper()
	got, c := impl.PickAll(readUnits(t, units...), readUnits(t, shelf...), entry)
	if c != code || len(got) != len(want) || unitsText(got) != strings.Join(want, "--\n") {
		t.Errorf("PickAll of %q, %q, %q is %q, %d, not %q, %d", units, shelf, entry, unitsText(got), c, want, code)
	}
}

// Units by what they have and name, for the shelf.
const (
	pickMain  = "fun main\ncall f\nend\n"
	pickF     = "fun f\ncall g\nret\n"
	pickG     = "fun g\nsay\nret\n"
	pickX     = "fun x\nret\n"
	pickWeakF = "weak f\nadd 1\nret\n"
	pickWeakG = "weak g\nret\n"
	pickAlone = "fun main\nend\n"
)

func TestPickAllFine(t *testing.T) {
	for _, x := range []struct {
		units, shelf []string
		entry        string
		want         []string
	}{
		// Nothing of the shelf is wanted.
		{[]string{pickAlone}, nil, "main", []string{pickAlone}},
		{[]string{pickAlone}, []string{pickF, pickG, pickX, ""}, "main", []string{pickAlone}},
		{[]string{pickMain, pickF, pickG}, []string{pickX, pickF, pickG, pickMain}, "main", []string{pickMain, pickF, pickG}},
		{[]string{pickMain, pickWeakF}, []string{pickF, pickG}, "main", []string{pickMain, pickWeakF}},
		{[]string{pickAlone, pickX, "", pickG}, []string{pickG}, "g", []string{pickAlone, pickX, "", pickG}},
		// All units are taken, in order, the wanted and the others.
		{[]string{pickX, "", pickG, pickAlone}, nil, "main", []string{pickX, "", pickG, pickAlone}},
		// Just what is wanted is taken, behind all, in the order in which it is wanted.
		{[]string{pickMain}, []string{pickX, pickF, pickG}, "main", []string{pickMain, pickF, pickG}},
		{[]string{pickMain}, []string{pickG, pickX, pickF}, "main", []string{pickMain, pickF, pickG}},
		{[]string{pickMain + pickWeakG}, []string{pickX, pickG, pickF}, "main", []string{pickMain + pickWeakG, pickF}},
		{[]string{pickMain}, []string{pickF + pickWeakG, pickG}, "main", []string{pickMain, pickF + pickWeakG}},
		{[]string{pickMain}, []string{"fun a\ngo b\n", "fun b\nret\n", "fun c\ngo a\n", "fun f\ngo c\n"}, "main", []string{pickMain, "fun f\ngo c\n", "fun c\ngo a\n", "fun a\ngo b\n", "fun b\nret\n"}},
		// The first on the shelf that has any such name, not that of the first name.
		{[]string{"fun main\ncall a\ncall b\nend\n"}, []string{"fun b\nret\n", "fun a\nret\n"}, "main", []string{"fun main\ncall a\ncall b\nend\n", "fun b\nret\n", "fun a\nret\n"}},
		{[]string{"fun main\ncall a\ncall b\nend\n"}, []string{pickX, "fun b\ncall x\nret\n", "fun a\nret\n"}, "main", []string{"fun main\ncall a\ncall b\nend\n", "fun b\ncall x\nret\n", pickX, "fun a\nret\n"}},
		// Of two that have it the first alone, be it weak.
		{[]string{pickMain}, []string{pickWeakF, "fun f\nret\n"}, "main", []string{pickMain, pickWeakF}},
		{[]string{pickMain}, []string{"fun f\nret\n", pickWeakF}, "main", []string{pickMain, "fun f\nret\n"}},
		{[]string{pickMain}, []string{"fun f\nret\n", "fun f\nend\n"}, "main", []string{pickMain, "fun f\nret\n"}},
		// What is taken comes along with what else is in its unit, and wants what that names.
		{[]string{pickMain}, []string{pickX, "fun f\nret\nfun q\ngo x\n"}, "main", []string{pickMain, "fun f\nret\nfun q\ngo x\n", pickX}},
		{[]string{pickMain + "weak q\ngo x\n", "fun q\nret\n"}, []string{pickX, "fun f\nret\n"}, "main", []string{pickMain + "weak q\ngo x\n", "fun q\nret\n", pickX, "fun f\nret\n"}},
		// Units that want one another in a ring.
		{[]string{"fun main\ngo a\n"}, []string{"fun c\ngo a\n", "fun b\ngo c\n", "fun a\ngo b\n"}, "main", []string{"fun main\ngo a\n", "fun a\ngo b\n", "fun b\ngo c\n", "fun c\ngo a\n"}},
		{[]string{"fun main\ngo a\n"}, []string{"fun b\ngo main\n", "fun a\ngo b\n"}, "main", []string{"fun main\ngo a\n", "fun a\ngo b\n", "fun b\ngo main\n"}},
		{[]string{pickAlone}, []string{"fun b\ngo a\n", "fun a\ngo b\n"}, "main", []string{pickAlone}},
		// An entry that only the shelf has, with no units, and beside others.
		{nil, []string{pickF, pickG}, "f", []string{pickF, pickG}},
		{nil, []string{pickG, pickF}, "f", []string{pickF, pickG}},
		{nil, []string{pickG, pickF}, "g", []string{pickG}},
		{[]string{pickX}, []string{pickX, pickAlone}, "main", []string{pickX, pickAlone}},
		{nil, []string{pickWeakF, pickF}, "f", []string{pickWeakF}},
		{[]string{"fun x\ncall a\nret\n"}, []string{"fun a\nret\n", pickAlone}, "main", []string{"fun x\ncall a\nret\n", "fun a\nret\n", pickAlone}},
		{nil, []string{"", pickAlone}, "main", []string{pickAlone}},
		// A weak one in a unit and a strong one that comes along.
		{[]string{pickMain + pickWeakG}, []string{"fun f\nret\nfun g\nend\n"}, "main", []string{pickMain + pickWeakG, "fun f\nret\nfun g\nend\n"}},
		{[]string{pickAlone}, nil, "main", []string{pickAlone}},
		{[]string{pickAlone + "fun abcdef\nret\n"}, nil, "abcdef", []string{pickAlone + "fun abcdef\nret\n"}},
	} {
		checkPickAll(t, x.units, x.shelf, x.entry, x.want, impl.PickFine)
	}
}

// Four units and four of the shelf are taken; none more fits.
func TestPickAllOfEight(t *testing.T) {
	units := []string{"fun main\ngo a\n", "weak a\ngo b\n", "fun a\ngo b\n", "fun c\ngo d\n"}
	shelf := []string{"fun b\ngo e\n", "fun d\ngo g\n", "fun e\nret\n", "fun g\nret\n"}
	checkPickAll(t, units, shelf, "main", slices.Concat(units, shelf), impl.PickFine)
	slices.Reverse(shelf)
	want := slices.Concat(units, []string{"fun d\ngo g\n", "fun g\nret\n", "fun b\ngo e\n", "fun e\nret\n"})
	checkPickAll(t, units, shelf, "main", want, impl.PickFine)
}

func TestPickAllTwice(t *testing.T) {
	for _, x := range []struct{ units, shelf []string }{
		{[]string{pickMain, pickF, pickG, pickG}, nil},
		{[]string{pickG, pickMain, pickF, pickG}, nil},
		{[]string{pickAlone, pickAlone}, nil},
		{[]string{pickAlone, pickX, pickX}, nil},
		// By a unit of the shelf that comes along.
		{[]string{pickMain, pickX}, []string{"fun f\nret\n" + pickX}},
		{[]string{pickMain}, []string{"fun f\ncall g\nret\n" + pickX, "fun g\nret\n" + pickX}},
		{[]string{pickMain}, []string{"fun main\nend\nfun f\nret\n"}},
		// Ahead of what is lacking.
		{[]string{pickMain, pickX, pickX}, nil},
		{[]string{pickX, pickX}, nil},
		{[]string{pickMain, pickX}, []string{"fun f\ncall q\nret\n" + pickX}},
	} {
		checkPickAll(t, x.units, x.shelf, "main", nil, impl.PickTwice)
	}
	// Two on the shelf of which one is taken, or none, are not twice.
	checkPickAll(t, []string{pickAlone}, []string{pickX, pickX}, "main", []string{pickAlone}, impl.PickFine)
	checkPickAll(t, []string{pickAlone}, []string{pickAlone, pickAlone}, "main", []string{pickAlone}, impl.PickFine)
}

func TestPickAllLack(t *testing.T) {
	for _, x := range []struct {
		units, shelf []string
		entry        string
	}{
		{nil, nil, "main"},
		{[]string{"", ""}, []string{""}, "main"},
		{[]string{pickX}, nil, "main"},
		{[]string{pickX}, []string{pickG}, "main"},
		{[]string{pickAlone}, []string{pickX}, "q"},
		{[]string{pickAlone}, nil, "abcdef"},
		{[]string{pickMain}, nil, "main"},
		{[]string{pickMain}, []string{pickX, pickG}, "main"},
		{[]string{pickMain}, []string{pickF}, "main"},
		{[]string{pickMain}, []string{pickF, pickX}, "main"},
		{nil, []string{pickF}, "f"},
		{nil, []string{pickF, pickX}, "f"},
		// What nothing reaches wants too, and so does a weak one that is not taken.
		{[]string{pickAlone + "fun q\ngo r\n"}, nil, "main"},
		{[]string{"weak main\ngo r\n", pickAlone}, nil, "main"},
		// An entry that is only named.
		{[]string{"fun a\ngo main\n"}, nil, "main"},
	} {
		checkPickAll(t, x.units, x.shelf, x.entry, nil, impl.PickLack)
	}
}

func checkPickForm(t *testing.T, units [][]impl.Fun, shelf [][]impl.Fun, entry string) {
	t.Helper()
	if got, code := impl.PickAll(units, shelf, entry); len(got) != 0 || code != impl.PickForm {
		t.Errorf("PickAll of %v, %v, %q is %v, %d", units, shelf, entry, got, code)
	}
}

func TestPickAllForm(t *testing.T) {
	one, other := readUnits(t, pickAlone), readUnits(t, pickX)
	checkPickForm(t, readUnits(t, pickAlone, "", "", "", ""), nil, "main")
	checkPickForm(t, readUnits(t, pickAlone, pickF, pickG, pickX, "fun q\nret\n"), nil, "main")
	checkPickForm(t, make([][]impl.Fun, 1<<16), nil, "main")
	checkPickForm(t, one, make([][]impl.Fun, 5), "main")
	checkPickForm(t, one, readUnits(t, pickF, pickG, pickX, "fun q\nret\n", "fun r\nret\n"), "main")
	checkPickForm(t, nil, make([][]impl.Fun, 8), "main")
	for _, wrong := range wrongUnits(t) {
		checkPickForm(t, [][]impl.Fun{wrong}, nil, "main")
		checkPickForm(t, [][]impl.Fun{one[0], wrong}, other, "main")
		checkPickForm(t, [][]impl.Fun{wrong, one[0]}, other, "main")
		checkPickForm(t, one, [][]impl.Fun{wrong}, "main")
		checkPickForm(t, one, [][]impl.Fun{other[0], wrong}, "main")
		checkPickForm(t, one, [][]impl.Fun{wrong, other[0]}, "main")
	}
	for _, entry := range []string{"", " ", "Main", "main ", " main", "main\n", "abcdefg", "a b", "1", "\xff", "é", strings.Repeat("a", 1000)} {
		checkPickForm(t, one, other, entry)
		checkPickForm(t, nil, nil, entry)
		// Ahead of what is twice, and of what is lacking.
		checkPickForm(t, readUnits(t, pickMain, pickMain), nil, entry)
	}
	checkPickForm(t, readUnits(t, pickAlone, pickAlone, pickMain, "", ""), nil, "main")
	if got, code := impl.PickAll(readUnits(t, pickAlone, "", "", ""), make([][]impl.Fun, 4), "main"); len(got) != 4 || code != impl.PickFine {
		t.Errorf("4 units and 4 on the shelf are %v, %d", got, code)
	}
}

func TestPickSame(t *testing.T) {
	base := []string{"fun a\nadd 1\nret\n", "", "weak b\ncall a\nend\nfun c\nret\n"}
	if !impl.PickSame(readUnits(t, base...), readUnits(t, base...)) {
		t.Error("the same are not the same")
	}
	for _, other := range [][]string{
		nil, {""}, base[:2], base[:1], base[1:],
		{base[0], base[1], base[2], ""}, {base[0], base[2]}, {base[0], base[2], ""}, {"", base[0], base[2]}, {base[2], "", base[0]},
		{"fun b\nadd 1\nret\n", "", base[2]}, {"weak a\nadd 1\nret\n", "", base[2]}, {"fun a\nadd 2\nret\n", "", base[2]},
		{"fun a\nadd 1\nend\n", "", base[2]}, {"fun a\nadd 1\nret\nret\n", "", base[2]}, {base[0], "fun d\nret\n", base[2]},
		{base[0], "", "weak b\ncall b\nend\nfun c\nret\n"}, {base[0], "", "weak b\nif a\nend\nfun c\nret\n"}, {base[0], "", "fun b\ncall a\nend\nfun c\nret\n"},
		{base[0], "", "fun c\nret\nweak b\ncall a\nend\n"}, {base[0], "", "weak b\ncall a\nend\n"}, {base[0], "", "weak b\ncall a\nend\nweak c\nret\n"},
		{base[0], "weak b\ncall a\nend\n", "fun c\nret\n"},
	} {
		a, b := readUnits(t, base...), readUnits(t, other...)
		if impl.PickSame(a, b) || impl.PickSame(b, a) {
			t.Errorf("%q and %q are the same", base, other)
		}
		if !impl.PickSame(b, readUnits(t, other...)) {
			t.Errorf("%q is not itself", other)
		}
	}
	if !impl.PickSame(nil, [][]impl.Fun{}) || !impl.PickSame([][]impl.Fun{nil}, [][]impl.Fun{{}}) {
		t.Error("the empty list is the nil list")
	}
	// What is not ok, and what is more than is taken, is held against another part by part too.
	odd := append(make([][]impl.Fun, 20), wrongUnits(t)...)
	if !impl.PickSame(odd, append(make([][]impl.Fun, 20), wrongUnits(t)...)) || impl.PickSame(odd, odd[:20]) || impl.PickSame(odd, odd[1:]) {
		t.Error("what is not ok")
	}
}

// hasName and namesIt say, by the texts alone, what a unit has and names.
func hasName(text string, name string) bool {
	lines := strings.Split(text, "\n")
	return slices.Contains(lines, "fun "+name) || slices.Contains(lines, "weak "+name)
}

func namesIt(text string, name string) bool {
	lines := strings.Split(text, "\n")
	return slices.Contains(lines, "call "+name) || slices.Contains(lines, "go "+name) || slices.Contains(lines, "if "+name)
}

// lackingOf is which of these names the texts want, or the entry is, and none has.
func lackingOf(texts []string, names []string, entry string) []string {
	var lacking []string
	for _, name := range names {
		wanted := name == entry || slices.ContainsFunc(texts, func(text string) bool { return namesIt(text, name) })
		if wanted && !slices.ContainsFunc(texts, func(text string) bool { return hasName(text, name) }) {
			lacking = append(lacking, name)
		}
	}
	return lacking
}

// pickModel is PickAll as the document's words say it, over texts, one unit of the shelf after the other.
func pickModel(units []string, shelf []string, names []string, entry string) ([]string, int) {
	taken, left := slices.Clone(units), slices.Clone(shelf)
	for {
		lacking := lackingOf(taken, names, entry)
		at := slices.IndexFunc(left, func(text string) bool {
			return slices.ContainsFunc(lacking, func(name string) bool { return hasName(text, name) })
		})
		if at < 0 {
			break
		}
		taken, left = append(taken, left[at]), slices.Delete(left, at, at+1)
	}
	all := "\n" + strings.Join(taken, "\n")
	for _, name := range names {
		if strings.Count(all, "\nfun "+name+"\n") > 1 {
			return nil, impl.PickTwice
		}
	}
	if len(lackingOf(taken, names, entry)) > 0 {
		return nil, impl.PickLack
	}
	return taken, impl.PickFine
}

// eachList calls with each list of up to that many of these texts, in each order.
func eachList(texts []string, most int, ahead []string, call func([]string)) {
	call(ahead)
	if most == 0 {
		return
	}
	for _, text := range texts {
		eachList(texts, most-1, append(slices.Clone(ahead), text), call)
	}
}

// All jobs of up to 2 of these units and 3 of these on the shelf end as the document's words say.
func TestPickAllOfEachSmallJob(t *testing.T) {
	names := []string{"a", "b", "c"}
	units := []string{"fun a\nret\n", "weak a\ngo b\n", "fun a\ncall c\nret\nweak b\nret\n", "fun c\ngo b\n"}
	shelf := []string{"fun a\ngo b\n", "weak b\ncall c\ngo a\n", "fun b\nret\n", "fun c\ngo a\n", "weak c\nret\nfun b\ngo c\n"}
	codes := map[int]int{}
	eachList(units, 2, nil, func(u []string) {
		eachList(shelf, 3, nil, func(s []string) {
			for _, entry := range names {
				want, code := pickModel(u, s, names, entry)
				checkPickAll(t, u, s, entry, want, code)
				codes[code]++
			}
		})
	})
	for code := impl.PickFine; code <= impl.PickLack; code++ {
		if codes[code] < 500 {
			t.Errorf("the code %d is told %d times only", code, codes[code])
		}
	}
}

// A strong one is taken ahead of weak ones in each small list, and PickTwo tells of just the others.
func TestPickAtOfEachSmallList(t *testing.T) {
	texts := []string{"weak a\nret\n", "fun a\nret\n", "fun b\nret\nfun a\nret\n", "weak b\nret\nweak a\nret\n", "fun b\nret\n"}
	eachList(texts, 4, nil, func(list []string) {
		units := readUnits(t, list...)
		two := ""
		for _, text := range list {
			for _, line := range strings.Split(text, "\n") {
				_, name, head := strings.Cut(line, " ")
				if head && two == "" && strings.Count("\n"+strings.Join(list, "\n"), "\nfun "+name+"\n") > 1 {
					two = name
				}
			}
		}
		if name, ok := impl.PickTwo(units); name != two || ok != (two != "") {
			t.Errorf("PickTwo of %q is %q, %v, not %q", list, name, ok, two)
		}
		for _, name := range []string{"a", "b", "c"} {
			at := slices.IndexFunc(list, func(text string) bool { return strings.Contains("\n"+text, "\nfun "+name+"\n") })
			if at < 0 {
				at = slices.IndexFunc(list, func(text string) bool { return hasName(text, name) })
			}
			if at < 0 {
				checkPickAt(t, units, name, 0, 0, false)
			} else {
				checkPickAt(t, units, name, at, impl.UnitFind(units[at], name), true)
			}
		}
	})
}

// roomyUnits is a copy of units with marks behind the ends of all their lists.
func roomyUnits(units [][]impl.Fun) [][]impl.Fun {
	var wide [][]impl.Fun
	for _, u := range units {
		wide = append(wide, roomyUnit(u))
	}
	return roomy(wide, []impl.Fun{{Name: "mark"}})
}

func sameRooms(a [][]impl.Fun, b [][]impl.Fun) bool {
	return len(a) == len(b) && slices.EqualFunc(a[:len(a)+3], b[:len(b)+3], sameRoom)
}

// bodiesOf is all lists of instructions of units.
func bodiesOf(units [][]impl.Fun) [][]impl.Ins {
	var bodies [][]impl.Ins
	for _, u := range units {
		for _, f := range u {
			bodies = append(bodies, f.Body)
		}
	}
	return bodies
}

// anyShare says whether a list of the one has a place in common with a list of the other.
func anyShare[T any](a [][]T, b [][]T) bool {
	for _, x := range a {
		for _, y := range b {
			if shareRoom(x, y) {
				return true
			}
		}
	}
	return false
}

func unitsShare(a [][]impl.Fun, b [][]impl.Fun) bool {
	return shareRoom(a, b) || anyShare(a, b) || anyShare(bodiesOf(a), bodiesOf(b))
}

// listsShare says whether two of these lists have a place in common.
func listsShare[T any](lists [][]T) bool {
	for at := range lists {
		if anyShare(lists[at:at+1], lists[:at]) {
			return true
		}
	}
	return false
}

// Nothing is written into units that are handed in, nor behind their ends; what is answered shares no memory with them.
func TestPickLeavesUnitsAsTheyWere(t *testing.T) {
	for _, x := range []struct{ units, shelf []string }{
		{[]string{pickAlone}, nil},
		{[]string{pickMain, "", pickX}, []string{"", pickG, pickF}},
		{nil, []string{pickX, pickF, pickMain, pickG}},
		{[]string{pickMain, pickX}, []string{"fun f\nret\n" + pickX}},
		{[]string{pickMain}, []string{pickF, pickX}},
		{[]string{pickMain, pickMain, "", "", ""}, []string{pickF}},
	} {
		units, unitsWas := roomyUnits(readUnits(t, x.units...)), roomyUnits(readUnits(t, x.units...))
		shelf, shelfWas := roomyUnits(readUnits(t, x.shelf...)), roomyUnits(readUnits(t, x.shelf...))
		got, _ := impl.PickAll(units, shelf, "main")
		again, _ := impl.PickAll(units, shelf, "main")
		impl.PickAt(units, "main")
		impl.PickTwo(units)
		impl.PickSame(units, shelf)
		wants, more := impl.PickWants(units), impl.PickWants(units)
		if shareRoom(wants, more) {
			t.Errorf("%q: two answers share memory", x.units)
		}
		spoil(wants)
		if unitsShare(got, units) || unitsShare(got, shelf) || unitsShare(got, again) || listsShare(got) || listsShare(bodiesOf(got)) {
			t.Errorf("%q, %q: the answer shares memory", x.units, x.shelf)
		}
		spoilUnits(got)
		if !sameRooms(units, unitsWas) || !sameRooms(shelf, shelfWas) {
			t.Errorf("%q, %q have been turned into %v, %v", x.units, x.shelf, units, shelf)
		}
	}
}

// spoilUnits writes into units, into all their lists, and into their spare room.
func spoilUnits(units [][]impl.Fun) {
	for _, body := range bodiesOf(units) {
		for at := range body[:cap(body)] {
			body[:cap(body)][at] = markIns
		}
	}
	for _, u := range units {
		for at := range u[:cap(u)] {
			u[:cap(u)][at] = impl.Fun{Name: "spoilt"}
		}
	}
	for at := range units[:cap(units)] {
		units[:cap(units)][at] = nil
	}
}

// Units that share memory are taken into lists of their own.
func TestPickAllOfSharedUnits(t *testing.T) {
	body := fun(t, "fun q", "say", "ret").Body
	u := []impl.Fun{{Name: "f", Weak: true, Body: body}, {Name: "g", Body: body[1:]}, {Name: "h", Body: body}}
	units := [][]impl.Fun{u[:2], u[:1], u[2:]}
	got, code := impl.PickAll(units, units[2:], "f")
	if code != impl.PickFine || !impl.PickSame(got, units) {
		t.Fatalf("%v, %d", got, code)
	}
	if unitsShare(got, units) || listsShare(got) || listsShare(bodiesOf(got)) {
		t.Error("lists of the answer share memory")
	}
}
