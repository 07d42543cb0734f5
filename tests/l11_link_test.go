package tests

import (
	"math"
	"slices"
	"strconv"
	"strings"
	"testing"

	"loop.example/stepstone/impl"
)

// parts is a job by the texts of its units.
type parts struct {
	units []string
	shelf []string
	entry string
	reach int
	fold  bool
}

func (x parts) job(t *testing.T) impl.Job {
	t.Helper()
	return impl.Job{Units: readUnits(t, x.units...), Shelf: readUnits(t, x.shelf...), Entry: x.entry, Reach: x.reach, Fold: x.fold}
}

// jobLine writes a job as it is, but for what is too much to be read.
func jobLine(j impl.Job) string {
	var texts []string
	for _, units := range [][][]impl.Fun{j.Units, j.Shelf} {
		for _, u := range units[:min(len(units), 6)] {
			texts = append(texts, strconv.Quote(programText(u)))
		}
		texts = append(texts, "("+strconv.Itoa(len(units))+")")
	}
	return strings.Join(append(texts, strconv.Quote(j.Entry[:min(len(j.Entry), 20)]), strconv.Itoa(j.Reach), strconv.FormatBool(j.Fold)), " ")
}

// linkFuels are fuels and what is none.
var linkFuels = []int{math.MinInt, -200, -1, 0, 1, 2, 5, 100, 199, 200, 201, 202, math.MaxInt}

// checkStops asks for the fixed answers of a job that ends with another code than LinkFine.
func checkStops(t *testing.T, j impl.Job, code int) {
	t.Helper()
	if p, end := impl.LinkProg(j); code != impl.LinkFar && (len(p) != 0 || end != code) || code == impl.LinkFar && (len(p) == 0 || end != impl.LinkFine) {
		t.Errorf("LinkProg of %v is %v, %d, not of the code %d", jobLine(j), p, end, code)
	}
	if c, end := impl.LinkAll(j); len(c) != 0 || end != code {
		t.Errorf("LinkAll of %v is %v, %d, not of the code %d", jobLine(j), c, end, code)
	}
	// Whatever the fuel is, be it none, the code of the job goes ahead.
	for _, fuel := range linkFuels {
		checkSaid(t, j, fuel, nil, code)
	}
	if list := impl.LinkMap(j); list != "" {
		t.Errorf("LinkMap of %v is %q", jobLine(j), list)
	}
}

func checkSaid(t *testing.T, j impl.Job, fuel int, want []int, code int) {
	t.Helper()
	if outs, end := impl.LinkRun(j, fuel); !slices.Equal(outs, want) || end != code {
		t.Errorf("LinkRun of %v with the fuel %d is %v, %d, not %v, %d", jobLine(j), fuel, outs, end, want, code)
	}
}

// checkLinks asks for the program of a job, and for what the other chapters make of that.
func checkLinks(t *testing.T, j impl.Job, want string) {
	t.Helper()
	p, end := impl.LinkProg(j)
	if end != impl.LinkFine || programText(p) != want {
		t.Errorf("LinkProg of %v is %q, %d, not %q", jobLine(j), programText(p), end, want)
		return
	}
	if !impl.KeepOk(p) || p[0].Name != j.Entry || !impl.UnitSame(impl.KeepOnly(p), p) {
		t.Errorf("LinkProg of %v is no program of just what is reached: %q", jobLine(j), want)
	}
	l, end := impl.LayOf(p, j.Reach)
	if end != impl.LayFine {
		checkStops(t, j, impl.LinkFar)
		return
	}
	if c, end := impl.LinkAll(j); end != impl.LinkFine || !slices.Equal(c, impl.ImageOf(p, j.Reach, l)) || !impl.ImageOk(c, j.Reach) {
		t.Errorf("LinkAll of %v is %q, %d", jobLine(j), cellLines(c), end)
	}
	if list := impl.LinkMap(j); list != impl.MapList(p, l) || list == "" {
		t.Errorf("LinkMap of %v is %q", jobLine(j), list)
	}
	for _, fuel := range linkFuels {
		if fuel < 0 || fuel > impl.MachFuel {
			checkSaid(t, j, fuel, nil, impl.LinkForm)
		} else {
			checkSaid(t, j, fuel, impl.MachRun(p, fuel).Outs, impl.LinkFine)
		}
	}
}

// checkAlike fails if two jobs are not answered the same, whatever is asked of them.
func checkAlike(t *testing.T, a impl.Job, b impl.Job) {
	t.Helper()
	p, end := impl.LinkProg(a)
	if q, code := impl.LinkProg(b); programText(p) != programText(q) || end != code {
		t.Errorf("LinkProg of %v is %q, %d, and of %v %q, %d", jobLine(a), programText(p), end, jobLine(b), programText(q), code)
	}
	c, end := impl.LinkAll(a)
	if d, code := impl.LinkAll(b); !slices.Equal(c, d) || end != code {
		t.Errorf("LinkAll of %v is %q, %d, and of %v %q, %d", jobLine(a), cellLines(c), end, jobLine(b), cellLines(d), code)
	}
	for _, fuel := range linkFuels {
		outs, end := impl.LinkRun(a, fuel)
		checkSaid(t, b, fuel, outs, end)
	}
	if one, other := impl.LinkMap(a), impl.LinkMap(b); one != other {
		t.Errorf("LinkMap of %v is %q, and of %v %q", jobLine(a), one, jobLine(b), other)
	}
}

func TestLinkCodes(t *testing.T) {
	if impl.LinkFine != 0 || impl.LinkTwice != 1 || impl.LinkLack != 2 || impl.LinkFar != 3 || impl.LinkForm != 4 {
		t.Error("codes")
	}
}

// Units of the jobs of these tests: two that say, the one being the twin of the other, and one that wants both.
const (
	linkMain  = "fun main\nadd 3\ncall show\ncall more\nend\n"
	linkShow  = "fun show\nsay\nret\n"
	linkMore  = "fun more\nsay\nret\n"
	linkAlone = "fun main\nadd 3\nsay\nend\n"
	linkNone  = "fun none\nret\n"
)

func TestLinkProg(t *testing.T) {
	for _, x := range []struct {
		units, shelf []string
		entry        string
		want         string
	}{
		{[]string{linkAlone}, nil, "main", linkAlone},
		{[]string{"weak main\nend\n"}, nil, "main", "weak main\nend\n"},
		{[]string{"fun abcdef\ngo abcdef\n"}, nil, "abcdef", "fun abcdef\ngo abcdef\n"},
		// Units alone, and just what is reached, in the order in which it is.
		{[]string{linkMain + linkShow + linkMore}, nil, "main", linkMain + linkShow + linkMore},
		{[]string{linkMore, linkShow, linkMain}, nil, "main", linkMain + linkShow + linkMore},
		{[]string{linkNone + linkMore + "fun far\ncall main\nret\n", linkMain, linkShow, "weak last\ncall far\nret\n"}, nil, "main", linkMain + linkShow + linkMore},
		// From within a unit, and from one that others name.
		{[]string{linkMain + linkShow + linkMore}, nil, "show", linkShow},
		{[]string{linkMain + linkShow, linkMore}, nil, "more", linkMore},
		// Of the shelf, a part, all, and what that wants.
		{[]string{linkMain}, []string{linkNone, linkShow + linkMore}, "main", linkMain + linkShow + linkMore},
		{[]string{linkMain}, []string{linkMore, linkShow}, "main", linkMain + linkShow + linkMore},
		{[]string{linkMain, linkMore}, []string{linkShow, linkMore, linkNone}, "main", linkMain + linkShow + linkMore},
		{[]string{linkMain}, []string{linkNone, "fun more\ngo deep\n", linkShow, "fun deep\ngo none\n"}, "main", linkMain + linkShow + "fun more\ngo deep\nfun deep\ngo none\n" + linkNone},
		{[]string{"fun main\ngo a\n"}, []string{"fun d\ngo main\n", "fun c\ngo d\n", "fun b\ngo c\n", "fun a\ngo b\n"}, "main", "fun main\ngo a\nfun a\ngo b\nfun b\ngo c\nfun c\ngo d\nfun d\ngo main\n"},
		// An entry that the shelf alone has: with no unit, with one that is of no use, behind another one.
		{nil, []string{linkAlone}, "main", linkAlone},
		{nil, []string{linkNone, linkMore, linkShow, linkMain}, "main", linkMain + linkShow + linkMore},
		{[]string{linkNone}, []string{"fun x\nret\n", linkAlone}, "main", linkAlone},
		{[]string{""}, []string{"", linkAlone}, "main", linkAlone},
		{[]string{"fun back\ncall main\nret\n"}, []string{linkAlone}, "main", linkAlone},
		// Of several of one name the strong one, be it behind, be it of the shelf; else the first.
		{[]string{linkMain + "weak show\nend\n", linkShow + linkMore}, nil, "main", linkMain + linkShow + linkMore},
		{[]string{linkMain + linkShow, "weak show\nend\n" + linkMore}, nil, "main", linkMain + linkShow + linkMore},
		{[]string{linkMain + "weak show\nend\n"}, []string{linkShow + linkMore}, "main", linkMain + linkShow + linkMore},
		{[]string{linkMain + "weak show\nend\n"}, []string{linkShow, linkMore}, "main", linkMain + "weak show\nend\n" + linkMore},
		{[]string{linkMain + "weak show\nend\n", "weak show\nret\n"}, []string{linkMore}, "main", linkMain + "weak show\nend\n" + linkMore},
		{[]string{"weak main\nret\n", linkAlone}, nil, "main", linkAlone},
		{[]string{"weak main\ncall none\nret\n"}, []string{linkNone, linkAlone}, "main", "weak main\ncall none\nret\n" + linkNone},
		{[]string{"weak main\ncall none\nret\n"}, []string{linkNone + linkAlone}, "main", linkAlone},
		// What is wanted by what is not reached is taken, and not kept.
		{[]string{linkAlone + "fun q\ngo none\n"}, []string{linkNone}, "main", linkAlone},
	} {
		for _, reach := range []int{1, 2, 3, 5, 20, 100} {
			// Without a twin it is the same, folded or not.
			checkLinks(t, parts{x.units, x.shelf, x.entry, reach, false}.job(t), x.want)
			if _, _, twice := impl.FoldTwo(longProgram(t, x.want)); !twice {
				checkLinks(t, parts{x.units, x.shelf, x.entry, reach, true}.job(t), x.want)
			}
		}
	}
}

func TestLinkFolds(t *testing.T) {
	for _, x := range []struct {
		units, shelf []string
		want, folded string
	}{
		{[]string{linkMain, linkMore}, []string{linkShow}, linkMain + linkShow + linkMore, "fun main\nadd 3\ncall show\ncall show\nend\n" + linkShow},
		// Nothing is twice.
		{[]string{linkAlone}, []string{linkShow, linkMore}, linkAlone, linkAlone},
		{[]string{"fun main\ncall a\nend\nfun a\ncall b\nret\nfun b\ncall a\nret\n"}, nil, "fun main\ncall a\nend\nfun a\ncall b\nret\nfun b\ncall a\nret\n", "fun main\ncall a\nend\nfun a\ncall b\nret\nfun b\ncall a\nret\n"},
		// A twin that is not reached is nowhere, and takes nothing away, though it is ahead.
		{[]string{"fun more\nsay\nret\nfun main\ncall show\nend\n"}, []string{linkShow}, "fun main\ncall show\nend\n" + linkShow, "fun main\ncall show\nend\n" + linkShow},
		// What is twice, and named by what is twice: the same only when others are one.
		{[]string{"fun main\ncall a\ncall b\nend\nfun a\ncall c\nret\nfun b\ncall d\nret\n"}, []string{"fun c\nsay\nret\n", "fun d\nsay\nret\n"},
			"fun main\ncall a\ncall b\nend\nfun a\ncall c\nret\nfun b\ncall d\nret\nfun c\nsay\nret\nfun d\nsay\nret\n", "fun main\ncall a\ncall a\nend\nfun a\ncall c\nret\nfun c\nsay\nret\n"},
		{[]string{"fun main\ncall b\ngo a\n"}, []string{"fun c\ngo e\nfun d\ngo f\n", "fun a\nsay\ngo c\nfun b\nsay\ngo d\n", "fun f\nend\nfun e\nend\n"},
			"fun main\ncall b\ngo a\nfun b\nsay\ngo d\nfun a\nsay\ngo c\nfun d\ngo f\nfun c\ngo e\nfun f\nend\nfun e\nend\n", "fun main\ncall b\ngo b\nfun b\nsay\ngo d\nfun d\ngo f\nfun f\nend\n"},
		// The twin of the entry's own function is taken away, alone, and with others that name it.
		{[]string{"fun twin\nadd 1\nsay\ngo twin\n", "fun main\nadd 1\nsay\ngo twin\n"}, nil, "fun main\nadd 1\nsay\ngo twin\nfun twin\nadd 1\nsay\ngo twin\n", "fun main\nadd 1\nsay\ngo main\n"},
		{[]string{"fun main\nsay\ncall a\nend\n"}, []string{"fun a\nadd 1\ncall twin\nret\nfun twin\nsay\ncall a\nend\n"},
			"fun main\nsay\ncall a\nend\nfun a\nadd 1\ncall twin\nret\nfun twin\nsay\ncall a\nend\n", "fun main\nsay\ncall a\nend\nfun a\nadd 1\ncall main\nret\n"},
		{[]string{"fun main\ncall b\nret\nfun c\ncall a\nret\n", "fun b\nsay\ncall c\nret\nfun a\nsay\ncall c\nret\n"}, nil,
			"fun main\ncall b\nret\nfun b\nsay\ncall c\nret\nfun c\ncall a\nret\nfun a\nsay\ncall c\nret\n", "fun main\ncall b\nret\nfun b\nsay\ncall main\nret\n"},
		// All of it is one.
		{[]string{"fun main\ncall a\nret\n", "weak a\ncall b\nret\n"}, []string{"fun b\ncall b\nret\n"}, "fun main\ncall a\nret\nweak a\ncall b\nret\nfun b\ncall b\nret\n", "fun main\ncall main\nret\n"},
		// A weak one is the twin of a strong one; of two of one name just the one that is kept is one.
		{[]string{"fun main\ncall a\ncall b\nend\nweak a\nsay\nret\nfun b\nsay\nret\n"}, nil, "fun main\ncall a\ncall b\nend\nweak a\nsay\nret\nfun b\nsay\nret\n", "fun main\ncall a\ncall a\nend\nweak a\nsay\nret\n"},
		{[]string{"fun main\ncall a\ncall b\nend\nweak a\nsay\nret\nfun b\nsay\nret\n", "fun a\nret\n"}, nil, "fun main\ncall a\ncall b\nend\nfun a\nret\nfun b\nsay\nret\n", "fun main\ncall a\ncall b\nend\nfun a\nret\nfun b\nsay\nret\n"},
	} {
		for _, reach := range []int{1, 2, 4, 7, 20, 100} {
			checkLinks(t, parts{x.units, x.shelf, "main", reach, false}.job(t), x.want)
			checkLinks(t, parts{x.units, x.shelf, "main", reach, true}.job(t), x.folded)
		}
	}
}

// What is folded may come within reach, and not only what is there already.
func TestLinkFoldsIntoReach(t *testing.T) {
	twins := parts{[]string{"fun main\ncall a\nsay\ngo b\nfun a\nsay\nsay\nsay\nret\nfun b\nsay\nsay\nsay\nret\n"}, nil, "main", 1, false}
	for reach := 1; reach <= 6; reach++ {
		for _, fold := range []bool{false, true} {
			twins.reach, twins.fold = reach, fold
			_, end := impl.LinkAll(twins.job(t))
			fine := reach >= 4 || fold && reach == 3
			if (end == impl.LinkFine) != fine {
				t.Errorf("within %d, folded %v, it ends with %d", reach, fold, end)
			}
		}
	}
}

func TestLinkReach(t *testing.T) {
	for _, fold := range []bool{false, true} {
		for _, reach := range layReaches {
			alone := parts{[]string{linkAlone}, nil, "main", reach, fold}.job(t)
			far := parts{[]string{"fun main\ncall b\nsay\nsay\nsay\nend\nfun b\nret\n"}, nil, "main", reach, fold}.job(t)
			if reach < 1 || reach > 100 {
				checkStops(t, alone, impl.LinkForm)
				checkStops(t, far, impl.LinkForm)
				// What is twice, or lacks, goes ahead of it; what is not ok has the same code.
				checkStops(t, parts{[]string{linkAlone, linkAlone}, nil, "main", reach, fold}.job(t), impl.LinkTwice)
				checkStops(t, parts{[]string{linkMain, linkShow, linkShow}, nil, "main", reach, fold}.job(t), impl.LinkTwice)
				checkStops(t, parts{[]string{linkMain}, nil, "main", reach, fold}.job(t), impl.LinkLack)
				checkStops(t, parts{[]string{linkAlone}, nil, "gone", reach, fold}.job(t), impl.LinkLack)
				checkStops(t, parts{[]string{linkAlone}, nil, "", reach, fold}.job(t), impl.LinkForm)
				checkStops(t, impl.Job{Units: [][]impl.Fun{{{}}}, Entry: "main", Reach: reach, Fold: fold}, impl.LinkForm)
				continue
			}
			checkLinks(t, alone, linkAlone)
			if reach < 5 {
				checkStops(t, far, impl.LinkFar)
			}
			checkLinks(t, far, "fun main\ncall b\nsay\nsay\nsay\nend\nfun b\nret\n")
		}
	}
	// Nothing is a job of no units and no entry.
	checkStops(t, impl.Job{}, impl.LinkForm)
}

func TestLinkTwice(t *testing.T) {
	for _, x := range []parts{
		{units: []string{linkAlone, linkAlone}},
		{units: []string{linkAlone, "fun main\nret\n"}},
		{units: []string{linkMain + linkShow, linkMore, linkShow}},
		// Of names that are not reached, or not named.
		{units: []string{linkAlone, linkNone, linkNone}},
		{units: []string{linkAlone, "fun q\ncall none\nret\n" + linkNone, "weak none\nend\n", "fun none\nend\n"}},
		// By a unit of the shelf that is taken along.
		{units: []string{linkMain, linkMore}, shelf: []string{linkShow + linkMore}},
		{units: []string{linkMain}, shelf: []string{linkShow + linkNone, linkMore + linkNone}},
		{units: []string{linkMain}, shelf: []string{linkShow + linkMore + linkAlone}},
		{shelf: []string{linkMain, linkShow + linkNone, linkMore + linkNone}},
		// Ahead of what lacks: another one, and the entry.
		{units: []string{linkMain, linkShow, linkShow}},
		{units: []string{linkNone, linkNone}},
		{units: []string{linkMain, "fun q\ngo gone\n"}, shelf: []string{linkMore + linkAlone}},
	} {
		x.entry = "main"
		for _, reach := range []int{1, 2, 100} {
			for _, fold := range []bool{false, true} {
				x.reach, x.fold = reach, fold
				checkStops(t, x.job(t), impl.LinkTwice)
			}
		}
	}
}

func TestLinkLack(t *testing.T) {
	for _, x := range []parts{
		// The entry is defined nowhere.
		{entry: "main"}, {units: []string{"", ""}, shelf: []string{"", ""}, entry: "main"},
		{units: []string{linkAlone}, entry: "gone"}, {units: []string{linkAlone}, shelf: []string{linkNone}, entry: "gone"},
		{units: []string{linkAlone}, entry: "mai"}, {units: []string{linkAlone}, entry: "mainn"}, {units: []string{"fun a\ngo main\n"}, entry: "main"},
		// Something that is named is: of what is reached, of what is not, of a weak one that is not kept, of the shelf.
		{units: []string{linkMain}, entry: "main"},
		{units: []string{linkMain}, shelf: []string{linkShow}, entry: "main"},
		{units: []string{linkMain}, shelf: []string{linkShow + linkNone, "fun q\nret\n", "weak q\nret\n"}, entry: "main"},
		{units: []string{linkMain + linkShow}, shelf: []string{"fun more\ngo gone\n"}, entry: "main"},
		{units: []string{linkAlone + "fun q\ngo gone\n"}, entry: "main"},
		{units: []string{"weak main\ngo gone\n", linkAlone}, entry: "main"},
		{units: []string{"fun main\nend\ncall gone\nend\n"}, entry: "main"},
		{shelf: []string{linkMain, linkShow}, entry: "main"},
	} {
		for _, reach := range []int{1, 2, 100} {
			for _, fold := range []bool{false, true} {
				x.reach, x.fold = reach, fold
				checkStops(t, x.job(t), impl.LinkLack)
			}
		}
	}
}

func TestLinkForm(t *testing.T) {
	one, other := readUnits(t, linkAlone), readUnits(t, linkNone)
	stop := func(units [][]impl.Fun, shelf [][]impl.Fun, entry string) {
		t.Helper()
		for _, reach := range []int{math.MinInt, 0, 1, 20, 100, 101} {
			checkStops(t, impl.Job{Units: units, Shelf: shelf, Entry: entry, Reach: reach}, impl.LinkForm)
			checkStops(t, impl.Job{Units: units, Shelf: shelf, Entry: entry, Reach: reach, Fold: true}, impl.LinkForm)
		}
	}
	for _, entry := range []string{"", " ", "Main", "main ", " main", "main\n", "abcdefg", "a b", "1", "\xff", "é", strings.Repeat("a", 1000)} {
		stop(one, other, entry)
		stop(nil, nil, entry)
		// Ahead of what is twice, and of what lacks.
		stop(readUnits(t, linkAlone, linkAlone), nil, entry)
		stop(readUnits(t, linkMain), nil, entry)
	}
	for _, wrong := range wrongUnits(t) {
		stop([][]impl.Fun{wrong}, nil, "main")
		stop([][]impl.Fun{one[0], wrong}, other, "main")
		stop([][]impl.Fun{one[0], one[0], wrong}, nil, "main")
		// On the shelf too, where nothing is wanted.
		stop(one, [][]impl.Fun{other[0], wrong}, "main")
		stop(one, [][]impl.Fun{wrong}, "gone")
		stop(readUnits(t, linkMain, linkMain), [][]impl.Fun{wrong, other[0]}, "main")
	}
	// One unit more than there may be, and one more on the shelf.
	stop(readUnits(t, linkAlone, "", "", "", ""), nil, "main")
	stop(readUnits(t, linkAlone, linkAlone, linkMain, "", ""), nil, "main")
	stop(one, make([][]impl.Fun, 5), "main")
	stop(one, readUnits(t, "fun a\nret\n", "fun b\nret\n", "fun c\nret\n", "fun d\nret\n", "fun e\nret\n"), "main")
	stop(nil, readUnits(t, "", "", "", "", linkAlone), "main")
	stop(make([][]impl.Fun, 1<<16), make([][]impl.Fun, 1<<16), "main")
}

// As many units as there may be, of as many functions, on the shelf too.
func TestLinkOfEightUnits(t *testing.T) {
	all := chain(t, 40)
	units := inUnits(all, 5)
	for _, reach := range []int{1, 5, 39, 100} {
		for _, fold := range []bool{false, true} {
			checkLinks(t, impl.Job{Units: units[:4], Shelf: units[4:], Entry: numbered(0), Reach: reach, Fold: fold}, programText(all))
			checkLinks(t, impl.Job{Units: units[4:], Shelf: units[:4], Entry: numbered(0), Reach: reach, Fold: fold}, programText(all))
			checkStops(t, impl.Job{Units: units[:1], Shelf: units[1:5], Entry: numbered(0), Reach: reach, Fold: fold}, impl.LinkLack)
		}
	}
}

// The most places that an image may have.
func TestLinkOfTheGreatest(t *testing.T) {
	p := greatest(t)
	kept, _ := impl.KeepAll(inUnits(p, 5), numbered(0))
	folded := impl.KeepOnly(impl.FoldAll(kept))
	units := inUnits(p, 5)
	most := 0
	for _, reach := range []int{9, 10, 11, 12, 50, 100} {
		j := impl.Job{Units: units[:4], Shelf: units[4:], Entry: numbered(0), Reach: reach}
		checkLinks(t, j, programText(kept))
		c, _ := impl.LinkAll(j)
		most = max(most, len(c))
		j.Fold = true
		checkLinks(t, j, programText(folded))
	}
	if most < 500 {
		t.Errorf("no image has more than %d places", most)
	}
}

// The example of the document, and others whose image has stones.
func TestLinkWithStones(t *testing.T) {
	const f, g = "fun f\nsay\nsay\nsay\nsay\nsay\nsay\nsay\nadd 1\nret\n", "fun g\nsay\nret\n"
	for _, x := range []struct {
		x           parts
		image, list string
		said        []int
	}{
		{parts{[]string{"fun main\nadd 1\ncall f\ncall g\nend\n" + f + g}, nil, "main", 8, false},
			"add 1\ncall 4\ncall 2\nend\nfar 14\nsay\nsay\nsay\nsay\nsay\nsay\nsay\nadd 1\nret\nsay\nret\n", "0 4 1 main\n5 9 0 f\n14 2 0 g\n", []int{1, 1, 1, 1, 1, 1, 1, 2}},
		{parts{[]string{"fun main\nadd 1\ncall f\ncall g\nend\n"}, []string{g, f}, "main", 20, true},
			"add 1\ncall 3\ncall 11\nend\nsay\nsay\nsay\nsay\nsay\nsay\nsay\nadd 1\nret\nsay\nret\n", "0 4 0 main\n4 9 0 f\n13 2 0 g\n", []int{1, 1, 1, 1, 1, 1, 1, 2}},
		// One that leads back.
		{parts{[]string{"fun main\ncall g\ncall h\nend\n"}, []string{g, "fun h\ncall f\ngo main\n" + f}, "main", 4, false},
			"call 3\ncall 4\nend\nsay\nret\ncall 3\ngo 1\nfar 0\nsay\nsay\nsay\nsay\nsay\nsay\nsay\nadd 1\nret\n", "0 3 0 main\n3 2 0 g\n5 2 1 h\n8 9 0 f\n", append(make([]int, 8), 1, 1, 1, 1, 1, 1, 1, 1, 2, 2, 2, 2, 2, 2, 2, 2, 3, 3, 3, 3, 3, 3)},
	} {
		p, end := impl.LinkProg(x.x.job(t))
		if l, code := impl.LayOf(p, x.x.reach); end != impl.LinkFine || code != impl.LayFine || x.x.reach < 20 && impl.LayMany(l) == 0 {
			t.Errorf("%s has no stones", jobLine(x.x.job(t)))
		}
		if c, end := impl.LinkAll(x.x.job(t)); cellLines(c) != x.image || end != impl.LinkFine {
			t.Errorf("LinkAll of %s is %q, %d, not %q", jobLine(x.x.job(t)), cellLines(c), end, x.image)
		}
		if list := impl.LinkMap(x.x.job(t)); list != x.list {
			t.Errorf("LinkMap of %s is %q, not %q", jobLine(x.x.job(t)), list, x.list)
		}
		if x.said != nil {
			checkSaid(t, x.x.job(t), impl.MachFuel, x.said, impl.LinkFine)
		}
	}
}

// What is linked says what the program says, for each fuel, within each reach within which it is linked.
func TestLinkRunOfEachFuel(t *testing.T) {
	for _, x := range []struct {
		units, shelf []string
		code         int
	}{
		{[]string{"fun main\nadd 1\nsay\ncall f\ngo main\n", "weak f\nend\n"}, []string{"fun f\nret\n"}, impl.MachFine},
		{[]string{"fun main\nadd 3\ncall show\ncall more\nend\n"}, []string{linkNone, linkMore + linkShow}, impl.MachFine},
		{[]string{"fun main\nadd 1\ncall f\ncall g\ngo main\n", "fun g\nsay\nret\n"}, []string{"fun f\nadd 1\ncall h\nret\nfun h\nsay\nret\n"}, impl.MachFull},
		{[]string{"fun main\nadd 2\nsay\ncall f\nend\n"}, []string{"fun f\nadd -1\ncall g\nret\n", "fun g\nsay\ncall f\nret\n"}, impl.MachDeep},
		{[]string{"fun main\nsay\ncall f\nadd 2\ncall g\nret\n"}, []string{"fun f\nadd -1\ngo g\n", "fun g\nadd -7\nsay\nret\n"}, impl.MachOff},
		{[]string{"fun main\nadd 50\ngo f\n"}, []string{"fun g\nsay\nend\n", "fun f\nadd -1\nif f\ngo g\n"}, impl.MachFine},
		{[]string{"fun main\nadd -1\ncall f\nif g\ngo main\n", "fun f\nadd 1\nret\nfun g\nadd 1\nret\n"}, nil, impl.MachGoes},
	} {
		linked := 0
		for _, reach := range []int{1, 2, 3, 4, 5, 6, 8, 12, 100} {
			for _, fold := range []bool{false, true} {
				j := parts{x.units, x.shelf, "main", reach, fold}.job(t)
				p, _ := impl.LinkProg(j)
				if _, end := impl.LayOf(p, reach); end != impl.LayFine {
					checkStops(t, j, impl.LinkFar)
					continue
				}
				linked++
				for fuel := range impl.MachFuel + 1 {
					checkSaid(t, j, fuel, impl.MachRun(p, fuel).Outs, impl.LinkFine)
				}
				if m := impl.MachRun(p, impl.MachFuel); m.Code != x.code {
					t.Errorf("%s ends with %d", jobLine(j), m.Code)
				}
				for _, fuel := range []int{-1, impl.MachFuel + 1, -impl.MachFuel, math.MinInt, math.MaxInt} {
					checkSaid(t, j, fuel, nil, impl.LinkForm)
				}
			}
		}
		if linked < 8 {
			t.Errorf("%q is linked %d times only", x.units, linked)
		}
	}
}

// What is not wanted, not reached, or weak where there is a strong one, changes nothing at all.
func TestLinkOfWhatIsNotWanted(t *testing.T) {
	units := []string{linkMain, linkShow, "fun q\ncall w\nret\n"}
	shelf := []string{linkMore, "fun w\nadd 1\nret\n", ""}
	for _, reach := range []int{1, 3, 4, 20, 100} {
		for _, fold := range []bool{false, true} {
			base := parts{units, shelf, "main", reach, fold}
			for at := range 4 {
				for _, more := range []string{
					"", "fun x\nsay\nend\n", "fun x\ngo x\n", "weak x\nsay\nret\n", "fun x\ncall show\ncall more\ngo main\n",
					"weak main\nsay\nend\n", "weak show\nend\n", "weak show\ngo main\nweak main\ncall show\nret\nweak q\ncall more\nret\n",
				} {
					with := base
					with.units = slices.Insert(slices.Clone(units), at%(len(units)+1), more)
					checkAlike(t, base.job(t), with.job(t))
				}
				for _, more := range []string{
					// Of other names, which also lack, and of names that the units have too, also strong ones.
					"", "fun x\nsay\nend\n", "fun x\ngo gone\n", linkAlone, linkShow, linkMain + linkShow, "fun show\ngo gone\n", "fun q\nend\nfun main\nend\nfun x\nret\n",
				} {
					with := base
					with.shelf = slices.Insert(slices.Clone(shelf), at%(len(shelf)+1), more)
					checkAlike(t, base.job(t), with.job(t))
				}
			}
			// A shelf that is not wanted at all, and one of which just the units ahead are wanted.
			all := parts{[]string{linkMain, linkShow, linkMore}, nil, "main", reach, fold}
			for _, shelf := range [][]string{{""}, {linkNone}, {linkMain, linkShow, linkMore}, {linkAlone, "fun show\ngo gone\n", "weak more\nret\n", "fun gone\nret\n"}} {
				with := all
				with.shelf = shelf
				checkAlike(t, all.job(t), with.job(t))
			}
			part := parts{[]string{linkMain}, []string{linkShow, linkMore, "fun more\nend\n", "weak show\nret\nfun z\nret\n"}, "main", reach, fold}
			checkAlike(t, all.job(t), part.job(t))
		}
	}
}

// linkModel is the program of a job, by the texts of its functions, and how it ends, as the document's words say it.
func (x parts) linkModel(names []string) ([]string, int) {
	taken, end := pickModel(x.units, x.shelf, names, x.entry)
	switch {
	case end == impl.PickTwice:
		return nil, impl.LinkTwice
	case end == impl.PickLack:
		return nil, impl.LinkLack
	case x.reach < 1 || x.reach > 100:
		return nil, impl.LinkForm
	}
	kept := keepModel(cutFuns(strings.Join(taken, "")), x.entry)
	if !x.fold {
		return kept, impl.LinkFine
	}
	for _, _, twice := twoModel(kept); twice; _, _, twice = twoModel(kept) {
		kept = oneModel(kept)
	}
	return keepModel(kept, x.entry), impl.LinkFine
}

// partsMach runs what is taken of a job as it is, each function called by its name: no program is made of it, it is not laid, and nothing is one.
func (x parts) partsMach(names []string) *lineMach {
	taken, _ := pickModel(x.units, x.shelf, names, x.entry)
	var strong, weak []string
	for _, text := range cutFuns(strings.Join(taken, "")) {
		if strings.HasPrefix(text, "fun ") {
			strong = append(strong, text)
		} else {
			weak = append(weak, text)
		}
	}
	// The first line with a name is the one that is called, so the strong ones are ahead.
	m := &lineMach{lines: strings.Split(strings.Join(append(strong, weak...), ""), "\n")}
	m.line = m.label(x.entry)
	return m
}

// checkLinkByModel asks all of a job against texts, and of what is said for these fuels, ascending, against its parts; it tells how linking ends.
func checkLinkByModel(t *testing.T, x parts, names []string, fuels []int) int {
	t.Helper()
	texts, code := x.linkModel(names)
	j := x.job(t)
	if code != impl.LinkFine {
		checkStops(t, j, code)
		return code
	}
	p := readProgram(t, texts...)
	if got, end := impl.LinkProg(j); programText(got) != strings.Join(texts, "") || end != impl.LinkFine || !impl.KeepOk(got) {
		t.Errorf("LinkProg of %s is %q, %d, not %q", jobLine(j), programText(got), end, texts)
	}
	stones, end := layModel(p, x.reach)
	if end != impl.LayFine {
		checkStops(t, j, impl.LinkFar)
		return impl.LinkFar
	}
	lines := placeLines(p, stones)
	if c, end := impl.LinkAll(j); cellLines(c) != imageModel(lines, x.reach) || end != impl.LinkFine {
		t.Errorf("LinkAll of %s is %q, %d, not %q", jobLine(j), cellLines(c), end, imageModel(lines, x.reach))
	}
	_, rows := mapModel(lines)
	if list := impl.LinkMap(j); list != strings.Join(rows, "\n")+"\n" {
		t.Errorf("LinkMap of %s is %q, not %q", jobLine(j), list, rows)
	}
	m, steps := x.partsMach(names), 0
	for _, fuel := range fuels {
		for ; steps < fuel; steps++ {
			m.step()
		}
		checkSaid(t, j, fuel, m.outs, impl.LinkFine)
	}
	return impl.LinkFine
}

// All jobs of up to 2 of these units and 2 of these on the shelf do what their parts do.
func TestLinkOfEachSmallJob(t *testing.T) {
	names := []string{"a", "b", "c"}
	units := []string{"fun a\nadd 1\nsay\nret\n", "weak a\nsay\ncall b\ngo b\n", "fun a\ncall c\nif b\nend\nweak b\nadd 2\nsay\nret\n", "fun c\nsay\ngo b\n"}
	shelf := []string{"fun a\ngo b\n", "weak b\nadd 1\nsay\ncall a\nret\n", "fun b\nadd 2\nsay\nret\nweak c\nret\n", "fun c\nadd 2\nsay\nret\n", "weak c\nsay\nret\nfun b\nsay\ngo c\n"}
	codes := map[int]int{}
	eachList(units, 2, nil, func(u []string) {
		eachList(shelf, 2, nil, func(s []string) {
			for _, entry := range names {
				for _, reach := range []int{0, 1, 2, 3, 9} {
					x := parts{u, s, entry, reach, (len(u)+len(s)+reach)%2 == 0}
					codes[checkLinkByModel(t, x, names, []int{0, 1, 3, 6, 200})]++
				}
			}
		})
	})
	for code := impl.LinkFine; code <= impl.LinkForm; code++ {
		if codes[code] < 100 {
			t.Errorf("the code %d is told %d times only", code, codes[code])
		}
	}
}

// mixedJob is a job of a mixed program: its functions are in units and on the shelf, mostly all of them, and some have doubles elsewhere, mostly weak ones.
func mixedJob(t *testing.T, p []impl.Fun, mix uint32) parts {
	t.Helper()
	pick := func(n int) int {
		mix = mix*1664525 + 1013904223
		return int(mix>>16) % n
	}
	counts := [8]int{}
	texts := [8]string{}
	put := func(text string, first int) {
		for at := range texts {
			if at = (first + at) % len(texts); counts[at] < impl.UnitMax && !hasName(texts[at], strings.Fields(text)[1]) {
				counts[at]++
				texts[at] += text
				return
			}
		}
	}
	gone := pick(5 * len(p))
	for at, text := range foldTexts(p) {
		// At times one of them is nowhere.
		if at != gone {
			put(text, pick(8))
		}
	}
	for range pick(12) {
		double := p[pick(len(p))]
		// At times the double is a strong one.
		double.Weak = pick(50) > 0
		double.Body = p[pick(len(p))].Body
		put(programText([]impl.Fun{double}), pick(8))
	}
	return parts{texts[:4], texts[4:], p[pick(min(2, len(p)))].Name, []int{3, 8, 12, 16, 20, 30, 100, 3 * pick(35)}[pick(8)], pick(2) == 0}
}

// Greater jobs do what their parts do.
func TestLinkOfGreatJobs(t *testing.T) {
	codes, stones, folded := map[int]int{}, 0, 0
	for count := 1; count <= 40; count++ {
		var names []string
		for n := range 41 {
			names = append(names, numbered(n))
		}
		for mix := range 8 {
			for _, p := range [][]impl.Fun{twinProgram(t, count, uint32(count*100+mix)), mixedProgram(t, count, uint32(count*100+mix)), thinProgram(t, count, uint32(count*100+mix))} {
				x := mixedJob(t, p, uint32(count*50+mix))
				codes[checkLinkByModel(t, x, names, []int{0, 1, 2, 5, 20, 60, 199, 200})]++
				j := x.job(t)
				list := impl.LinkMap(j)
				for line := range strings.Lines(list) {
					if !strings.Contains(line, " 0 f") {
						stones++
						break
					}
				}
				if j.Fold = !j.Fold; list != impl.LinkMap(j) {
					folded++
				}
			}
		}
	}
	for code := impl.LinkFine; code <= impl.LinkForm; code++ {
		if codes[code] < 5 {
			t.Errorf("the code %d is told %d times only", code, codes[code])
		}
	}
	if stones < 80 || folded < 120 {
		t.Errorf("there are stones %d times only, and folding changes %d jobs", stones, folded)
	}
}

// Everything is answered, whatever the job is.
func TestLinkOfAnyJob(t *testing.T) {
	lists := append([][][]impl.Fun{nil, {}, {nil}, {{}, nil}, make([][]impl.Fun, 1<<16), readUnits(t, linkMain, linkShow), readUnits(t, linkAlone), readUnits(t, linkAlone, linkAlone), readUnits(t, linkMore)}, wrongUnits(t))
	for _, wrong := range wrongUnits(t) {
		lists = append(lists, [][]impl.Fun{wrong, wrong, wrong, wrong, wrong})
	}
	fine := 0
	for _, units := range lists {
		for _, shelf := range lists {
			for _, entry := range []string{"", "main", "show", "gone", "\xff", strings.Repeat("z", 1<<12)} {
				for _, reach := range []int{math.MinInt, 0, 2, 20, math.MaxInt} {
					for _, fold := range []bool{false, true} {
						j := impl.Job{Units: units, Shelf: shelf, Entry: entry, Reach: reach, Fold: fold}
						p, end := impl.LinkProg(j)
						c, all := impl.LinkAll(j)
						outs, ran := impl.LinkRun(j, 9)
						list := impl.LinkMap(j)
						if end == impl.LinkFine != (len(p) > 0) || all == impl.LinkFine != (len(c) > 0) || all != ran || all == impl.LinkFine != (list != "") || all != impl.LinkFine && len(outs) > 0 {
							t.Errorf("%s: %d, %d, %d, %q, %q, %v, %q", jobLine(j), end, all, ran, programText(p), cellLines(c), outs, list)
						}
						if all == impl.LinkFine {
							fine++
						} else if all != impl.LinkFar {
							checkCode(t, j, all)
						}
					}
				}
			}
		}
	}
	if fine < 100 {
		t.Errorf("it ends fine %d times only", fine)
	}
}

// checkCode fails if a code is not that of a job: how taking ends, or what is said of its reach.
func checkCode(t *testing.T, j impl.Job, code int) {
	t.Helper()
	_, end := impl.PickAll(j.Units, j.Shelf, j.Entry)
	want := []int{impl.LinkFine, impl.LinkTwice, impl.LinkLack, impl.LinkForm}[end]
	if end == impl.PickFine && (j.Reach < 1 || j.Reach > impl.LayReach) {
		want = impl.LinkForm
	}
	if code != want {
		t.Errorf("%s ends with %d, not with %d", jobLine(j), code, want)
	}
}

// roomyJob is a copy of a job with marks behind the ends of all its lists.
func roomyJob(j impl.Job) impl.Job {
	j.Units, j.Shelf = roomyUnits(j.Units), roomyUnits(j.Shelf)
	return j
}

// Nothing is written into a job, nor behind the ends of its lists; no answer shares memory with it, with another answer, or within itself.
func TestLinkLeavesAllAsItWas(t *testing.T) {
	p := twinProgram(t, 30, 9)
	for _, x := range []parts{
		{units: []string{linkAlone}, entry: "main"},
		{units: []string{linkMain, "", linkNone}, shelf: []string{"", linkMore, linkShow}, entry: "main"},
		{shelf: []string{linkNone, linkShow, linkMain, linkMore}, entry: "main"},
		{units: []string{linkMain, "weak show\nret\n"}, shelf: []string{"fun more\nsay\nret\n" + linkShow}, entry: "main"},
		{units: []string{linkMain}, shelf: []string{linkShow, linkNone}, entry: "main"},
		{units: []string{linkMain, linkMain}, entry: "main"}, {units: []string{linkMain}, entry: "Main"}, {units: []string{"", "", "", "", ""}, entry: "main"},
		mixedJob(t, p, 3),
	} {
		for _, reach := range []int{0, 1, 3, 20, 101} {
			for _, fold := range []bool{false, true} {
				x.reach, x.fold = reach, fold
				checkJobIsLeft(t, x.job(t))
			}
		}
	}
}

func checkJobIsLeft(t *testing.T, job impl.Job) {
	t.Helper()
	j, was := roomyJob(job), roomyJob(job)
	p, _ := impl.LinkProg(j)
	q, _ := impl.LinkProg(j)
	c, _ := impl.LinkAll(j)
	d, _ := impl.LinkAll(j)
	one, _ := impl.LinkRun(j, 200)
	other, _ := impl.LinkRun(j, 200)
	list, text, image, said := impl.LinkMap(j), programText(q), slices.Clone(d), slices.Clone(other)
	for _, units := range [][][]impl.Fun{j.Units, j.Shelf, {q}} {
		if unitsShare([][]impl.Fun{p}, units) {
			t.Errorf("LinkProg of %s shares memory", jobLine(job))
		}
	}
	if shareRoom(c, d) || shareRoom(one, other) {
		t.Errorf("two answers of %s share memory", jobLine(job))
	}
	checkOwn(t, p)
	spoilUnits([][]impl.Fun{p})
	for at := range c[:cap(c)] {
		c[:cap(c)][at] = markCell
	}
	spoilNumbers(one)
	more, _ := impl.LinkProg(j)
	cells, _ := impl.LinkAll(j)
	outs, _ := impl.LinkRun(j, 200)
	if programText(q) != text || programText(more) != text || !slices.Equal(d, image) || !slices.Equal(cells, image) || !slices.Equal(other, said) || !slices.Equal(outs, said) || impl.LinkMap(j) != list {
		t.Errorf("%s is answered otherwise than it was", jobLine(job))
	}
	if !sameRooms(j.Units, was.Units) || !sameRooms(j.Shelf, was.Shelf) {
		t.Errorf("%s has been turned into %s", jobLine(job), jobLine(j))
	}
}

// A job whose lists are parts of one memory is linked as another one is.
func TestLinkOfSharedLists(t *testing.T) {
	all := readUnits(t, linkMain, linkShow, linkMore, linkNone)
	body := fun(t, "fun q", "say", "call more", "say", "ret").Body
	twins := []impl.Fun{{Name: "main", Body: body}, {Name: "more", Body: body[2:]}, {Name: "twin", Body: body}, {Name: "main", Weak: true, Body: body[1:]}}
	for _, x := range []struct {
		j    impl.Job
		want string
	}{
		{impl.Job{Units: all[:1], Shelf: all, Entry: "main", Reach: 9}, linkMain + linkShow + linkMore},
		{impl.Job{Units: all[:2], Shelf: all[1:], Entry: "main", Reach: 9}, linkMain + linkShow + linkMore},
		{impl.Job{Units: all[3:], Shelf: all, Entry: "main", Reach: 9, Fold: true}, "fun main\nadd 3\ncall show\ncall show\nend\n" + linkShow},
		{impl.Job{Units: [][]impl.Fun{twins[:3], twins[3:]}, Shelf: [][]impl.Fun{twins[:3], twins[1:]}, Entry: "main", Reach: 9, Fold: true}, "fun main\nsay\ncall more\nsay\nret\nfun more\nsay\nret\n"},
		{impl.Job{Units: [][]impl.Fun{twins[3:]}, Shelf: [][]impl.Fun{twins[1:], twins[:2], twins[1:2]}, Entry: "main", Reach: 9}, "weak main\ncall more\nsay\nret\nfun more\nsay\nret\n"},
	} {
		checkLinks(t, x.j, x.want)
		checkJobIsLeft(t, x.j)
		if p, _ := impl.LinkProg(x.j); unitsShare([][]impl.Fun{p}, x.j.Units) || unitsShare([][]impl.Fun{p}, x.j.Shelf) {
			t.Errorf("LinkProg of %s shares memory", jobLine(x.j))
		}
	}
}
