package tests

import (
	"reflect"
	"regexp"
	"slices"
	"strings"
	"testing"

	"loop.example/stepstone/impl"
)

// allKinds has each kind of instruction, and one more that is last ahead of the last.
const allKinds = "fun main\nsay\nadd -1000\nadd 0\nadd 1000\ncall f\nif g\nret\ngo abcdef\nend\n"

// unitTexts are texts of units.
var unitTexts = []string{
	"",
	"fun a\nret\n",
	"weak a\nend\n",
	"fun abcdef\ngo abcdef\n",
	"weak fun\ncall weak\nret\n",
	"fun weak\ncall fun\nret\nweak fun\nend\n",
	"fun say\nsay\nend\n",
	allKinds,
	allKinds + "weak f\nadd 5\nret\nfun g\nend\n",
	"fun a\n" + strings.Repeat("say\n", 9) + "ret\n",
	"fun a\nret\nret\nend\ngo a\nret\n",
	"fun e\nret\nfun d\nret\nfun c\nret\nfun b\nret\nfun a\nret\n",
	strings.ReplaceAll("weak Xbcdef\n"+strings.Repeat("call zzzzzz\n", 9)+"go uvwxyz\n", "X", "a") +
		"weak bbcdef\n" + strings.Repeat("call zzzzzz\n", 9) + "go uvwxyz\n" +
		"weak cbcdef\n" + strings.Repeat("call zzzzzz\n", 9) + "go uvwxyz\n" +
		"weak dbcdef\n" + strings.Repeat("call zzzzzz\n", 9) + "go uvwxyz\n" +
		"weak ebcdef\n" + strings.Repeat("call zzzzzz\n", 9) + "go uvwxyz\n",
}

func readUnit(t *testing.T, text string) []impl.Fun {
	t.Helper()
	u, ok := impl.UnitRead(text)
	if !ok {
		t.Fatalf("%q is not read", text)
	}
	return u
}

func TestUnitBounds(t *testing.T) {
	if impl.FunLong != 10 || impl.UnitMax != 5 {
		t.Error("bounds")
	}
}

func TestUnitTextAndBack(t *testing.T) {
	for _, text := range unitTexts {
		u := readUnit(t, text)
		if !impl.UnitOk(u) {
			t.Errorf("%q is no unit", text)
		}
		if got := impl.UnitText(u); got != text {
			t.Errorf("%q is written %q", text, got)
		}
		checkOwn(t, u)
	}
}

func TestUnitReadAsItWas(t *testing.T) {
	units := [][]impl.Fun{
		nil,
		{fun(t, "fun main", "say", "add -3", "call f", "if g", "ret", "go main", "end"), fun(t, "weak f", "ret"), fun(t, "weak g", "say", "end")},
		{fun(t, "weak main", "go main")},
		{fun(t, "fun z", "add 0", "end"), fun(t, "fun a", "add 1000", "end"), fun(t, "weak m", "add -1000", "end")},
	}
	texts := []string{
		"",
		"fun main\nsay\nadd -3\ncall f\nif g\nret\ngo main\nend\nweak f\nret\nweak g\nsay\nend\n",
		"weak main\ngo main\n",
		"fun z\nadd 0\nend\nfun a\nadd 1000\nend\nweak m\nadd -1000\nend\n",
	}
	for at, u := range units {
		if got := impl.UnitText(u); got != texts[at] {
			t.Errorf("%v is written %q", u, got)
		}
		got := readUnit(t, texts[at])
		if len(got) != len(u) || len(u) > 0 && !reflect.DeepEqual(got, u) {
			t.Errorf("%q is read as %v", texts[at], got)
		}
	}
	if got := impl.UnitText([]impl.Fun{}); got != "" {
		t.Errorf("%q", got)
	}
}

// unitNone are texts of no unit.
var unitNone = []string{
	"\n", " ", " \n", "fun", "fun\n", "fun \n", "weak\n", "weak \n", "fun a", "fun a\n", "weak a\n", "fun a\n\n",
	"fun a\nret", "fun a\nret\n\n", "\nfun a\nret\n", "fun a\n\nret\n", "fun a\nret\n\nfun b\nret\n", "fun a\nret\n ", "fun a\nret\nx",
	"say\n", "ret\n", "say\nfun a\nret\n", "ret\nfun a\nret\n",
	"fun a\nsay\n", "fun a\nadd 1\n", "fun a\ncall a\n", "fun a\nif a\n", "fun a\nret\nsay\n",
	"fun a\nfly\n", "fun a\nfly\nret\n", "fun a\nfar 1\nret\n", "fun a\nfun\nret\n", "fun a\nweak\nret\n", "done\n", "fun a\nret\ndone\n",
	"fun  a\nret\n", " fun a\nret\n", "fun a \nret\n", "fun a\n ret\n", "fun a\nret \n", "fun a\nadd  1\nret\n", "fun a b\nret\n", "fun\ta\nret\n", "funa\nret\n",
	"fun A\nret\n", "Fun a\nret\n", "WEAK a\nret\n", "fun abcdefg\nret\n", "weak abcdefg\nret\n", "fun a1\nret\n", "fun é\nret\n", "fun \xff\nret\n", "fun a\r\nret\r\n",
	"weak fun a\nret\n", "fun weak a\nret\n", "function a\nret\n", "weakly a\nret\n",
	"fun a\ncall abcdefg\nret\n", "fun a\ncall A\nret\n", "fun a\ngo\n", "fun a\nadd 1001\nret\n", "fun a\nadd 01\nret\n", "fun a\nadd -0\nret\n", "fun a\nadd\nret\n",
	"fun a\nret\nfun a\nret\n", "fun a\nret\nweak a\nret\n", "weak a\nret\nfun a\nret\n", "weak a\nret\nweak a\nend\n", "fun a\nret\nfun b\nret\nfun a\nret\n",
	"fun a\nfun b\nret\n", "fun a\nret\nfun b\n", "fun a\nret\nfun b\nfun c\nret\n",
	"fun a\n" + strings.Repeat("say\n", 10) + "ret\n", "fun a\n" + strings.Repeat("ret\n", 11), "fun a\n" + strings.Repeat("say\n", 10),
	"fun a\nret\nfun b\nret\nfun c\nret\nfun d\nret\nfun e\nret\nfun f\nret\n",
	"fun a\x00\nret\n", "fun a\nret\x00\n", "fun a\nret\n\x00", "fun a\vret\v", "fun a\u2028ret\u2028",
	strings.Repeat("\n", 1500), strings.Repeat("a", 1500), strings.Repeat("fun a\nret\n", 150),
}

func TestUnitReadOfNone(t *testing.T) {
	long := []string{
		strings.Repeat("\n", 1501), strings.Repeat("fun a\nret\n", 151), "fun a\n" + strings.Repeat("say\n", 400) + "ret\n",
		"fun a\nret\n" + strings.Repeat("\n", 1491), "fun a\nret\n" + strings.Repeat(" ", 1491), strings.Repeat("fun ", 1<<16), strings.Repeat("ret\n", 1<<16),
	}
	for _, s := range append(long, unitNone...) {
		if u, ok := impl.UnitRead(s); ok || len(u) != 0 {
			t.Errorf("%.80q is read as %v, %v", s, u, ok)
		}
	}
}

var unitForm = regexp.MustCompile(`\A(?:(?:fun|weak) [a-z]{1,6}\n(?:[^\n]*\n){1,10}?)*\z`)
var unitPart = regexp.MustCompile(`(?:fun|weak) ([a-z]{1,6})\n((?:(?:say|ret|end|(?:add|call|go|if) [^\n]*)\n){1,10})`)

// isUnitText says, otherwise than by reading, whether a text is one of a unit.
func isUnitText(s string) bool {
	if !unitForm.MatchString(s) {
		return false
	}
	parts := unitPart.FindAllStringSubmatch(s, -1)
	names, whole := map[string]bool{}, ""
	for _, part := range parts {
		lines := strings.Split(strings.TrimSuffix(part[2], "\n"), "\n")
		for _, line := range lines {
			if !isInsText(line) {
				return false
			}
		}
		last := lines[len(lines)-1]
		if last != "ret" && last != "end" && !strings.HasPrefix(last, "go ") {
			return false
		}
		names[part[1]] = true
		whole += part[0]
	}
	return whole == s && len(parts) <= 5 && len(names) == len(parts)
}

func checkUnitRead(t *testing.T, s string) {
	t.Helper()
	u, ok := impl.UnitRead(s)
	if ok != isUnitText(s) {
		t.Errorf("%q is read: %v", s, ok)
	}
	if ok && (!impl.UnitOk(u) || impl.UnitText(u) != s) {
		t.Errorf("%q is read as %v", s, u)
	}
	if !ok && len(u) != 0 {
		t.Errorf("%q is none, and is read as %v", s, u)
	}
}

// Each text with a byte put in, turned or taken away is read just if it has the form.
func TestUnitReadOfTurnedTexts(t *testing.T) {
	for _, text := range unitTexts[:len(unitTexts)-1] {
		checkUnitRead(t, text)
		for at := 0; at <= len(text); at++ {
			checkUnitRead(t, text[:at])
			checkUnitRead(t, text[at:])
			for _, b := range []byte("\n \x00\xffaglnstz019-A") {
				one := string([]byte{b})
				checkUnitRead(t, text[:at]+one+text[at:])
				if at < len(text) {
					checkUnitRead(t, text[:at]+one+text[at+1:])
				}
			}
			if at < len(text) {
				checkUnitRead(t, text[:at]+text[at+1:])
			}
		}
	}
}

// Each text with a line put in, turned or taken away is read just if it has the form.
func TestUnitReadOfTurnedLines(t *testing.T) {
	lines := []string{"", "say", "ret", "end", "go a", "call a", "fun a", "weak a", "fun q", "weak q", "fun", "fly"}
	for _, text := range unitTexts {
		has := strings.SplitAfter(text, "\n")
		for at := range has {
			ahead, behind := strings.Join(has[:at], ""), strings.Join(has[at:], "")
			for _, line := range lines {
				checkUnitRead(t, ahead+line+"\n"+behind)
				checkUnitRead(t, ahead+line+"\n"+strings.TrimPrefix(behind, has[at]))
			}
			checkUnitRead(t, ahead+strings.TrimPrefix(behind, has[at]))
		}
	}
}

func TestFunOk(t *testing.T) {
	ret := impl.Ins{Op: impl.InsRet}
	for count := 0; count <= 13; count++ {
		f := impl.Fun{Name: "a", Body: slices.Repeat([]impl.Ins{ret}, count)}
		if impl.FunOk(f) != (count >= 1 && count <= 10) {
			t.Errorf("FunOk of %d instructions", count)
		}
	}
	for count, want := range []bool{false, true, true, true, true, true, true, false, false} {
		for _, weak := range []bool{false, true} {
			f := impl.Fun{Name: strings.Repeat("x", count), Weak: weak, Body: []impl.Ins{ret}}
			if impl.FunOk(f) != want {
				t.Errorf("FunOk of a name of %d letters", count)
			}
		}
	}
	for _, name := range []string{"A", "a b", "a ", "é", "a\n", "1", "\xff"} {
		if impl.FunOk(impl.Fun{Name: name, Body: []impl.Ins{ret}}) {
			t.Errorf("FunOk of the name %q", name)
		}
	}
	if impl.FunOk(impl.Fun{}) {
		t.Error("nothing is no function")
	}
}

func TestFunOkByItsLast(t *testing.T) {
	kinds := []impl.Ins{
		{Op: impl.InsSay}, {Op: impl.InsAdd, N: 1}, {Op: impl.InsCall, Name: "a"}, {Op: impl.InsGo, Name: "a"},
		{Op: impl.InsIf, Name: "a"}, {Op: impl.InsRet}, {Op: impl.InsEnd},
	}
	for _, last := range kinds {
		want := last.Op == impl.InsGo || last.Op == impl.InsRet || last.Op == impl.InsEnd
		if impl.FunOk(impl.Fun{Name: "a", Body: []impl.Ins{last}}) != want {
			t.Errorf("FunOk of %v alone", last)
		}
		for _, ahead := range kinds {
			if impl.FunOk(impl.Fun{Name: "a", Body: []impl.Ins{ahead, last}}) != want {
				t.Errorf("FunOk of %v and %v", ahead, last)
			}
		}
	}
}

// wrongIns are instructions that are not ok, of each kind.
var wrongIns = []impl.Ins{
	{}, {Op: 8}, {Op: -1}, {Op: impl.InsSay, N: 1}, {Op: impl.InsSay, Name: "a"}, {Op: impl.InsAdd, N: 1001}, {Op: impl.InsAdd, N: -1001}, {Op: impl.InsAdd, Name: "a"},
	{Op: impl.InsCall}, {Op: impl.InsCall, Name: "abcdefg"}, {Op: impl.InsGo}, {Op: impl.InsGo, Name: "A"}, {Op: impl.InsIf}, {Op: impl.InsIf, N: 1, Name: "a"},
	{Op: impl.InsRet, N: 1}, {Op: impl.InsRet, Name: "a"}, {Op: impl.InsEnd, N: -1}, {Op: impl.InsEnd, Name: "a"},
}

func TestFunNotOkByOne(t *testing.T) {
	for _, wrong := range wrongIns {
		for at := range 4 {
			f := fun(t, "fun a", "say", "call b", "if c", "ret")
			f.Body[at] = wrong
			if impl.FunOk(f) {
				t.Errorf("%v is ok", f)
			}
			if refs := impl.FunRefs(f); len(refs) != 0 {
				t.Errorf("%v names %v", f, refs)
			}
			checkUnitNotOk(t, []impl.Fun{f})
			checkUnitNotOk(t, []impl.Fun{fun(t, "fun b", "ret"), f})
			checkUnitNotOk(t, []impl.Fun{f, fun(t, "fun b", "ret")})
		}
	}
}

// checkUnitNotOk asks for the fixed answers of what is no unit.
func checkUnitNotOk(t *testing.T, u []impl.Fun) {
	t.Helper()
	if impl.UnitOk(u) {
		t.Errorf("%v is ok", u)
	}
	for _, name := range []string{"a", "b", "main", ""} {
		if at := impl.UnitFind(u, name); at != -1 {
			t.Errorf("UnitFind of %q in %v is %d", name, u, at)
		}
	}
	if wants := impl.UnitWants(u); len(wants) != 0 {
		t.Errorf("UnitWants of %v is %v", u, wants)
	}
	if text := impl.UnitText(u); text != "" {
		t.Errorf("UnitText of %v is %q", u, text)
	}
}

func TestFunRefs(t *testing.T) {
	for _, x := range []struct {
		f    impl.Fun
		want []string
	}{
		{fun(t, "fun a", "ret"), nil},
		{fun(t, "fun a", "say", "add 1", "end"), nil},
		{fun(t, "fun a", "go a"), []string{"a"}},
		{fun(t, "weak a", "call a", "ret"), []string{"a"}},
		{fun(t, "fun a", "call z", "if m", "go b"), []string{"z", "m", "b"}},
		{fun(t, "fun a", "call b", "call b", "if b", "go b"), []string{"b"}},
		{fun(t, "fun a", "call c", "call b", "if c", "call d", "if b", "go a"), []string{"c", "b", "d", "a"}},
		{fun(t, "fun a", "call j", "call i", "call h", "call g", "call f", "call e", "call d", "call c", "call b", "go a"), []string{"j", "i", "h", "g", "f", "e", "d", "c", "b", "a"}},
		{fun(t, "fun a", "call b"), nil},
		{fun(t, "fun a", "call b", "say"), nil},
		{fun(t, "fun ", "call b", "ret"), nil},
		{fun(t, "fun A", "call b", "ret"), nil},
		{fun(t, "fun abcdefg", "call b", "ret"), nil},
		{fun(t, "fun a", "say", "say", "say", "say", "say", "say", "say", "say", "say", "call b", "ret"), nil},
		{impl.Fun{}, nil},
	} {
		if got := impl.FunRefs(x.f); !slices.Equal(got, x.want) {
			t.Errorf("FunRefs of %v is %q, not %q", x.f, got, x.want)
		}
	}
}

func TestUnitOk(t *testing.T) {
	var u []impl.Fun
	for count := 0; count <= 7; count++ {
		if count <= 5 && !impl.UnitOk(u) {
			t.Errorf("a unit of %d is not ok", count)
		}
		if count > 5 {
			checkUnitNotOk(t, u)
		}
		u = append(u, fun(t, "fun "+string(rune('a'+count)), "call b", "ret"))
	}
	for _, heads := range [][2]string{{"fun a", "fun a"}, {"fun a", "weak a"}, {"weak a", "fun a"}, {"weak a", "weak a"}} {
		checkUnitNotOk(t, []impl.Fun{fun(t, heads[0], "call b", "ret"), fun(t, heads[1], "end")})
		checkUnitNotOk(t, []impl.Fun{fun(t, heads[0], "call b", "ret"), fun(t, heads[1], "call b", "ret")})
		checkUnitNotOk(t, []impl.Fun{fun(t, heads[0], "ret"), fun(t, "fun b", "ret"), fun(t, heads[1], "ret")})
	}
	checkUnitNotOk(t, []impl.Fun{{}})
	checkUnitNotOk(t, make([]impl.Fun, 1000))
	checkUnitNotOk(t, []impl.Fun{fun(t, "fun a", "say")})
	checkUnitNotOk(t, []impl.Fun{fun(t, "fun a", "ret"), fun(t, "fun b")})
}

func TestUnitFind(t *testing.T) {
	u := readUnit(t, "fun e\nret\nweak d\nret\nfun c\ngo x\nweak bb\nret\nfun a\nret\n")
	for at, name := range []string{"e", "d", "c", "bb", "a"} {
		if got := impl.UnitFind(u, name); got != at {
			t.Errorf("UnitFind of %q is %d, not %d", name, got, at)
		}
	}
	for _, name := range []string{"", "x", "b", "bbb", "A", "E", "e ", "f", "mark", "abcdefg", "\xff"} {
		if got := impl.UnitFind(u, name); got != -1 {
			t.Errorf("UnitFind of %q is %d", name, got)
		}
	}
	if impl.UnitFind(nil, "a") != -1 || impl.UnitFind(nil, "") != -1 {
		t.Error("UnitFind in the empty unit")
	}
}

func TestUnitWants(t *testing.T) {
	for _, x := range []struct{ text, want string }{
		{"", ""},
		{"fun a\nret\n", ""},
		{"fun a\ngo a\n", ""},
		{"fun a\ncall a\nif a\ngo a\n", ""},
		{"fun a\ngo b\n", "b"},
		{"weak a\ngo b\n", "b"},
		{"fun a\ncall b\ncall b\nif b\ngo b\n", "b"},
		{"fun a\ncall b\nret\nfun c\ncall b\nret\n", "b"},
		{"fun a\ncall b\nret\nfun b\ncall a\nret\n", ""},
		{"fun a\ncall b\nret\nweak b\ncall a\nret\n", ""},
		{"weak b\ncall a\nret\nfun a\ncall b\nret\n", ""},
		{"fun a\ncall z\ncall m\ncall b\nret\nfun q\ncall z\ncall c\ncall n\nret\n", "b c m n z"},
		{"fun a\ncall b\ncall ab\ncall aa\ncall bb\ncall abc\ncall ba\nret\n", "aa ab abc b ba bb"},
		{"fun m\ncall z\nif f\nif g\nend\nweak f\nsay\ncall g\ncall m\nret\n", "g z"},
	} {
		if got := strings.Join(impl.UnitWants(readUnit(t, x.text)), " "); got != x.want {
			t.Errorf("UnitWants of %q is %q, not %q", x.text, got, x.want)
		}
	}
}

func TestFunSameInAllParts(t *testing.T) {
	base := fun(t, "fun a", "add 1", "call b", "ret")
	if !impl.FunSame(base, fun(t, "fun a", "add 1", "call b", "ret")) {
		t.Error("the same are not the same")
	}
	others := []impl.Fun{
		{}, {Name: "a"},
		fun(t, "fun b", "add 1", "call b", "ret"),
		fun(t, "weak a", "add 1", "call b", "ret"),
		fun(t, "fun a", "add 1", "call b"),
		fun(t, "fun a", "add 1", "call b", "ret", "ret"),
		fun(t, "fun a", "add 2", "call b", "ret"),
		fun(t, "fun a", "add 1", "call c", "ret"),
		fun(t, "fun a", "add 1", "go b", "ret"),
		fun(t, "fun a", "add 1", "call b", "end"),
		fun(t, "fun a", "call b", "add 1", "ret"),
	}
	for _, other := range others {
		if impl.FunSame(base, other) || impl.FunSame(other, base) {
			t.Errorf("%v and %v are the same", base, other)
		}
		if !impl.FunSame(other, other) {
			t.Errorf("%v is not itself", other)
		}
	}
	if !impl.FunSame(impl.Fun{Name: "a", Body: nil}, impl.Fun{Name: "a", Body: []impl.Ins{}}) {
		t.Error("the empty list is the nil list")
	}
}

func TestUnitSameInAllParts(t *testing.T) {
	base := readUnit(t, "fun a\nadd 1\nret\nweak b\ncall a\nend\n")
	if !impl.UnitSame(base, readUnit(t, impl.UnitText(base))) {
		t.Error("the same are not the same")
	}
	for _, text := range []string{
		"", "fun a\nadd 1\nret\n", "weak b\ncall a\nend\n", "weak b\ncall a\nend\nfun a\nadd 1\nret\n",
		"fun a\nadd 1\nret\nweak b\ncall a\nend\nfun c\nret\n", "fun a\nadd 1\nret\nfun b\ncall a\nend\n", "weak a\nadd 1\nret\nweak b\ncall a\nend\n",
		"fun a\nadd 2\nret\nweak b\ncall a\nend\n", "fun a\nadd 1\nret\nweak b\ncall b\nend\n", "fun a\nadd 1\nret\nweak b\ngo a\nend\n",
		"fun a\nadd 1\nret\nweak b\ncall a\nret\n", "fun a\nadd 1\nret\nweak c\ncall a\nend\n", "fun a\nadd 1\nret\nweak b\ncall a\nend\nend\n",
	} {
		other := readUnit(t, text)
		if impl.UnitSame(base, other) || impl.UnitSame(other, base) {
			t.Errorf("%v and %v are the same", base, other)
		}
	}
	if !impl.UnitSame(nil, []impl.Fun{}) || !impl.UnitSame([]impl.Fun{}, nil) {
		t.Error("the empty list is the nil list")
	}
	odd := []impl.Fun{{}, {Name: "A"}, {}}
	if !impl.UnitSame(odd, slices.Clone(odd)) || impl.UnitSame(odd, odd[:2]) {
		t.Error("what is not ok is held against another part by part too")
	}
}

// Nothing is written into a unit that is handed in, nor behind its ends.
func TestUnitIsLeftAsItWas(t *testing.T) {
	for _, text := range unitTexts {
		u, was := roomyUnit(readUnit(t, text)), roomyUnit(readUnit(t, text))
		impl.UnitOk(u)
		impl.UnitSame(u, u)
		impl.UnitFind(u, "a")
		impl.UnitText(u)
		wants := impl.UnitWants(u)
		spoil(wants)
		for at := range u {
			impl.FunOk(u[at])
			impl.FunSame(u[at], u[0])
			refs := impl.FunRefs(u[at])
			again := impl.FunRefs(u[at])
			if shareRoom(refs, again) || shareRoom(refs, wants) {
				t.Error("two answers share memory")
			}
			spoil(refs)
		}
		if !sameRoom(u, was) {
			t.Errorf("%q has been turned into %v", text, u)
		}
	}
}

// spoil writes into a list and its spare room.
func spoil(names []string) {
	for at := range names[:cap(names)] {
		names[:cap(names)][at] = "spoilt"
	}
}

// What is read is anew each time: writing into it, and behind its ends, is not seen anywhere else.
func TestUnitReadIsNew(t *testing.T) {
	for _, text := range unitTexts {
		a, b := readUnit(t, text), readUnit(t, text)
		if shareRoom(a, b) {
			t.Errorf("%q: two answers share memory", text)
		}
		for at := range a {
			for other := range b {
				if shareRoom(a[at].Body, b[other].Body) {
					t.Errorf("%q: two answers share memory", text)
				}
			}
			body := a[at].Body[:cap(a[at].Body)]
			for place := range body {
				body[place] = markIns
			}
		}
		if impl.UnitText(b) != text || impl.UnitText(readUnit(t, text)) != text {
			t.Errorf("%q is spoilt", text)
		}
	}
}
