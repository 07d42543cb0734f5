package tests

import (
	"math"
	"reflect"
	"slices"
	"strconv"
	"strings"
	"testing"

	"loop.example/stepstone/impl"
)

// cpuText has each kind of place, stones at the beginning, in between and at the end, and ways that lead to a stone, to themselves, and past stones.
const cpuText = "far 2\nsay\nadd 7\ncall 5\nif -4\ngo 5\nret\nend\nadd -7\nret\nfar 8\ncall -1\nif -9\ngo 0\nsay\nfar 13\n"

var cpuForm = impl.Cpu{Code: impl.MachForm}

// lineWords is the word of each Op, from 1 on.
var lineWords = []string{"say", "add", "call", "go", "if", "ret", "end", "far"}

// cells is the places of an image by its text, read otherwise than by ImageRead.
func cells(t *testing.T, text string) []impl.Cell {
	t.Helper()
	var c []impl.Cell
	for line := range strings.Lines(text) {
		word, rest, more := strings.Cut(strings.TrimSuffix(line, "\n"), " ")
		cell := impl.Cell{Op: slices.Index(lineWords, word) + 1}
		var err error
		if more {
			cell.N, err = strconv.Atoi(rest)
		}
		if cell.Op == 0 || err != nil {
			t.Fatalf("%q", line)
		}
		c = append(c, cell)
	}
	return c
}

// cellLines writes places as they are, be they an image or not.
func cellLines(c []impl.Cell) string {
	var text strings.Builder
	for _, cell := range c {
		word := strconv.Itoa(cell.Op)
		if cell.Op >= 1 && cell.Op <= len(lineWords) {
			word = lineWords[cell.Op-1]
		}
		text.WriteString(word)
		if cell.N != 0 || slices.Contains([]string{"add", "call", "go", "if", "far"}, word) {
			text.WriteString(" " + strconv.Itoa(cell.N))
		}
		text.WriteString("\n")
	}
	return text.String()
}

// copyCpu is the same in memory of its own.
func copyCpu(m impl.Cpu) impl.Cpu {
	m.Stack, m.Outs = slices.Clone(m.Stack), slices.Clone(m.Outs)
	return m
}

// cpuIs says, part by part and otherwise than by CpuSame, whether two are the same.
func cpuIs(a impl.Cpu, b impl.Cpu) bool {
	for _, m := range []*impl.Cpu{&a, &b} {
		if len(m.Stack) == 0 {
			m.Stack = nil
		}
		if len(m.Outs) == 0 {
			m.Outs = nil
		}
	}
	return reflect.DeepEqual(a, b)
}

// checkImageOk asks for a reach alone; within LayReach its text is asked too, and what runs it.
func checkImageOk(t *testing.T, c []impl.Cell, reach int, want bool) {
	t.Helper()
	if got := impl.ImageOk(c, reach); got != want {
		t.Errorf("ImageOk of %q within %d is %v", cellLines(c), reach, got)
	}
	if reach != impl.LayReach {
		return
	}
	lines := cellLines(c)
	text, read, fine := "", []impl.Cell(nil), false
	if want {
		text = lines
	}
	if got := impl.ImageText(c); got != text {
		t.Errorf("ImageText of %v is %q", c, got)
	}
	if read, fine = impl.ImageRead(lines); fine != want || want && !slices.Equal(read, c) || !want && read != nil {
		t.Errorf("ImageRead of %q is %v, %v", lines, read, fine)
	}
	if got := impl.CpuRun(c, 0); cpuIs(got, cpuForm) == want {
		t.Errorf("CpuRun of %q is %v", lines, got)
	}
	checkCpuOk(t, c, impl.Cpu{}, want)
}

func checkCpuOk(t *testing.T, c []impl.Cell, m impl.Cpu, want bool) {
	t.Helper()
	if got := impl.CpuOk(c, m); got != want {
		t.Errorf("CpuOk of %q and %v is %v", cellLines(c), m, got)
	}
	if !want {
		checkCpuStep(t, c, m, cpuForm)
	} else if got := impl.CpuStep(c, m); !impl.CpuOk(c, got) || m.Code == impl.MachGoes && got.Code == impl.MachForm {
		t.Errorf("CpuStep of %q at %v is %v", cellLines(c), m, got)
	}
}

func checkCpuStep(t *testing.T, c []impl.Cell, m impl.Cpu, want impl.Cpu) {
	t.Helper()
	if got := impl.CpuStep(c, m); !cpuIs(got, want) {
		t.Errorf("CpuStep of %q at %v is %v, not %v", cellLines(c), m, got, want)
	}
}

func checkCpuRun(t *testing.T, c []impl.Cell, fuel int, want impl.Cpu) {
	t.Helper()
	if got := impl.CpuRun(c, fuel); !cpuIs(got, want) {
		t.Errorf("CpuRun of %q with the fuel %d is %v, not %v", cellLines(c), fuel, got, want)
	}
}

func TestImageConstants(t *testing.T) {
	if impl.CellFar != 8 || impl.ImageMax != 800 {
		t.Error("the Op of a stone, and bounds")
	}
}

func checkNoImage(t *testing.T, p []impl.Fun, reach int, l impl.Lay) {
	t.Helper()
	if got := impl.ImageOf(p, reach, l); got != nil {
		t.Errorf("ImageOf of %v within %d as %v is %v", p, reach, l, got)
	}
}

func TestImageOfWhatIsNotLaid(t *testing.T) {
	for _, p := range notPrograms(t) {
		for _, reach := range layReaches {
			for _, l := range []impl.Lay{layWith(p), {}, {At: []int{0}, Stones: [][]string{nil}}} {
				checkNoImage(t, p, reach, l)
			}
		}
	}
	p := readProgram(t, layText)
	good := layWith(p, "c b", "a", "a c b")
	for _, reach := range layReaches {
		if reach < 1 || reach > 100 {
			checkNoImage(t, p, reach, good)
		}
	}
	for _, l := range []impl.Lay{
		{}, {At: good.At}, {Stones: good.Stones}, {At: good.At[:2], Stones: good.Stones[:2]}, {At: []int{0, 6, 11}, Stones: good.Stones},
		{At: []int{1, 7, 11}, Stones: good.Stones}, {At: good.At, Stones: [][]string{{"b", "b"}, {"a"}, nil}}, {At: good.At, Stones: [][]string{{"c", "z"}, {"a"}, nil}},
	} {
		checkNoImage(t, p, 20, l)
	}
}

// A program that is laid so, and from one instruction of which what it names is out of reach, has no image.
func TestImageOfWhatIsOutOfReach(t *testing.T) {
	p := readProgram(t, "fun a\ncall b\nend\nfun c\nsay\nsay\nret\nfun b\nret\n")
	for reach := 1; reach <= 100; reach++ {
		if reach < 5 {
			checkNoImage(t, p, reach, layWith(p))
		} else {
			checkImageOf(t, p, reach, layWith(p), "call 5\nend\nsay\nsay\nret\nret\n")
		}
		if reach < 2 {
			checkNoImage(t, p, reach, layWith(p, "b"))
		}
	}
}

// checkImageOf asks for the image by its lines; an image has its text, and is ok within its reach.
func checkImageOf(t *testing.T, p []impl.Fun, reach int, l impl.Lay, want string) {
	t.Helper()
	c := impl.ImageOf(p, reach, l)
	if got := cellLines(c); got != want {
		t.Errorf("ImageOf of %q within %d as %v is %q, not %q", programText(p), reach, l, got, want)
	}
	if fits := strings.Count(want, "\n") <= impl.ImageMax; impl.ImageOk(c, reach) != fits || fits && impl.ImageText(c) != want {
		t.Errorf("ImageOf of %q within %d as %v is no image", programText(p), reach, l)
	}
}

func TestImageOf(t *testing.T) {
	for _, x := range []struct {
		text   string
		reach  int
		stones []string
		want   string
	}{
		// Each kind of instruction, without stones.
		{"fun a\nsay\nadd -5\ncall b\nif a\nret\nweak b\nend\n", 100, nil, "say\nadd -5\ncall 3\nif -3\nret\nend\n"},
		{"fun a\nadd 0\nadd 1000\nadd -1000\ngo a\n", 3, nil, "add 0\nadd 1000\nadd -1000\ngo -3\n"},
		{"fun a\ngo a\n", 1, nil, "go 0\n"},
		{"fun a\nend\nfun b\nif a\ncall b\ncall c\nif b\ngo c\nfun c\ngo b\n", 5, nil, "end\nif -1\ncall -1\ncall 3\nif -3\ngo 1\ngo -5\n"},
		// Stones behind the function that names, one and several, and of each name where it begins.
		{"fun a\ncall b\nend\nfun c\nsay\nsay\nret\nfun b\nret\n", 2, []string{"b"}, "call 2\nend\nfar 6\nsay\nsay\nret\nret\n"},
		{"fun a\ncall b\nif c\ngo d\nfun e\nsay\nsay\nsay\nret\nfun b\nret\nfun c\nret\nfun d\nret\n", 4, []string{"b c d"},
			"call 3\nif 3\ngo 3\nfar 10\nfar 11\nfar 12\nsay\nsay\nsay\nret\nret\nret\nret\n"},
		{"fun a\ncall b\nif c\ngo d\nfun e\nsay\nsay\nsay\nret\nfun b\nret\nfun c\nret\nfun d\nret\n", 5, []string{"d b c"},
			"call 4\nif 4\ngo 1\nfar 12\nfar 10\nfar 11\nsay\nsay\nsay\nret\nret\nret\nret\n"},
		// A stone behind a function ahead leads back, and one behind another function is nearer.
		{"fun a\nend\nfun b\nsay\nsay\nret\nfun c\nsay\ngo a\n", 1, []string{"", "", "a"}, "end\nsay\nsay\nret\nsay\ngo 1\nfar 0\n"},
		{"fun a\nend\nfun b\nsay\nsay\nret\nfun c\nsay\ngo a\n", 3, []string{"", "a", ""}, "end\nsay\nsay\nret\nfar 0\nsay\ngo -2\n"},
		{"fun a\nend\nfun b\nsay\nsay\nret\nfun c\nsay\ngo a\n", 3, []string{"", "a", "a"}, "end\nsay\nsay\nret\nfar 0\nsay\ngo 1\nfar 0\n"},
		// Of two that are as far the first.
		{"fun a\nend\nfun b\nsay\nsay\nret\nfun c\ngo a\n", 3, []string{"", "a", "a"}, "end\nsay\nsay\nret\nfar 0\ngo -1\nfar 0\n"},
		// Where it begins goes ahead of a stone that is nearer, be it just within reach.
		{"fun a\nend\nfun b\nsay\nsay\nret\nfun c\nsay\ngo a\n", 6, []string{"", "a", "a"}, "end\nsay\nsay\nret\nfar 0\nsay\ngo -6\nfar 0\n"},
		{"fun a\nend\nfun b\nsay\nsay\nret\nfun c\nsay\ngo a\n", 5, []string{"", "a", "a"}, "end\nsay\nsay\nret\nfar 0\nsay\ngo 1\nfar 0\n"},
		// Stones that nothing asks for are there all the same, and lead to their own function too.
		{"fun a\ngo a\nfun b\nret\n", 1, []string{"a b", "b a"}, "go 0\nfar 0\nfar 3\nret\nfar 3\nfar 0\n"},
		// A stone that is come to from ahead: it stands behind a function that is behind the one that names.
		{"fun a\ncall c\nend\nfun b\nret\nfun c\nret\n", 3, []string{"", "c"}, "call 3\nend\nret\nfar 4\nret\n"},
		{"fun a\ncall d\nend\nfun b\ncall d\nret\nfun c\nsay\nsay\nsay\nsay\nret\nfun d\nret\n", 4, []string{"", "d"},
			"call 4\nend\ncall 2\nret\nfar 10\nsay\nsay\nsay\nsay\nret\nret\n"},
	} {
		p := readProgram(t, x.text)
		checkImageOf(t, p, x.reach, layWith(p, x.stones...), x.want)
	}
}

// imageModel writes the image by what stands at each place.
func imageModel(lines []string, reach int) string {
	var text strings.Builder
	for at, line := range lines {
		if name, stone := strings.CutPrefix(line, "*"); stone {
			begin := slices.IndexFunc(lines, func(other string) bool { return strings.HasPrefix(other, name+": ") })
			text.WriteString("far " + strconv.Itoa(begin) + "\n")
			continue
		}
		if _, rest, labelled := strings.Cut(line, ": "); labelled {
			line = rest
		}
		if name, names := namedBy(line); names {
			word, _, _ := strings.Cut(line, " ")
			line = word + " " + strconv.Itoa(toModel(lines, reach, at, name)-at)
		}
		text.WriteString(line + "\n")
	}
	return text.String()
}

// checkImageByModel asks for the image of a program with these stones, and says whether there is one.
func checkImageByModel(t *testing.T, p []impl.Fun, stones [][]string, reach int) bool {
	t.Helper()
	l, lines := layWith(p, joinNames(stones)...), placeLines(p, stones)
	if number, _ := farModel(lines, reach); number >= 0 {
		checkNoImage(t, p, reach, l)
		return false
	}
	checkImageOf(t, p, reach, l, imageModel(lines, reach))
	return true
}

func TestImageOfEachSmallLay(t *testing.T) {
	eachSmallLay(t, func(p []impl.Fun, stones [][]string, reach int) bool { return checkImageByModel(t, p, stones, reach) })
}

// As many stones as a lay may have make more places than an image may have; all of them are told.
func TestImageOfTheGreatest(t *testing.T) {
	p := greatest(t)
	l, _ := impl.LayOf(p, 10)
	for _, reach := range []int{10, 11, 50, 100} {
		checkImageByModel(t, p, l.Stones, reach)
	}
	if c := impl.ImageOf(p, 10, l); len(c) != impl.ImageMax {
		t.Errorf("%d places", len(c))
	}
	var all []string
	for _, f := range p {
		all = append(all, f.Name)
	}
	stones := slices.Repeat([][]string{all}, len(p))
	for _, reach := range []int{25, 49, 50, 100} {
		checkImageByModel(t, p, stones, reach)
	}
	if c := impl.ImageOf(p, 100, layWith(p, joinNames(stones)...)); len(c) != 2000 || impl.ImageOk(c, 100) {
		t.Errorf("%d places", len(c))
	}
	// One more stone than there is room for.
	stones = slices.Clone(l.Stones)
	stones[0] = append(slices.Clone(stones[0]), stones[1][0])
	if c := impl.ImageOf(p, 12, layWith(p, joinNames(stones)...)); len(c) != 801 || impl.ImageOk(c, 100) || impl.ImageText(c) != "" {
		t.Errorf("%d places", len(c))
	}
}

func TestImageOkByPlaces(t *testing.T) {
	for _, count := range []int{0, 1, 2, 3, 99, 799, 800, 801, 802, 1600, 1 << 16} {
		c := slices.Repeat([]impl.Cell{{Op: impl.InsEnd}}, count)
		for _, reach := range []int{1, 2, 20, 100} {
			checkImageOk(t, c, reach, count >= 1 && count <= 800)
		}
	}
	checkImageOk(t, []impl.Cell{}, 100, false)
}

func TestImageOkByReach(t *testing.T) {
	end, ways := cells(t, "end\n"), cells(t, cpuText)
	for _, reach := range layReaches {
		fine := reach >= 1 && reach <= 100
		checkImageOk(t, end, reach, fine)
		checkImageOk(t, cells(t, "far 1\nret\n"), reach, fine)
		checkImageOk(t, ways, reach, fine && reach >= 9)
	}
	for reach := 1; reach <= 100; reach++ {
		checkImageOk(t, ways, reach, reach >= 9)
	}
}

// around is a great image, but for one place as it is to be there; ways of it and what stands behind them are ends.
func around(count int, at int, cell impl.Cell) []impl.Cell {
	c := slices.Repeat([]impl.Cell{{Op: impl.InsEnd}}, count)
	c[at] = cell
	return c
}

// What has no number has none, be it small or great, and no Op is above CellFar or below InsSay.
func TestImageOkByOp(t *testing.T) {
	odd := []int{math.MinInt, math.MinInt32, -1000, -1, 0, 1, 2, 16, 256, 1000, math.MaxInt32, math.MaxInt}
	for _, count := range []int{3, 300} {
		for _, n := range odd {
			for _, op := range []int{impl.InsSay, impl.InsRet, impl.InsEnd} {
				checkImageOk(t, around(count, 1, impl.Cell{Op: op, N: n}), 100, n == 0)
			}
			for _, op := range []int{0, 9, 10, -1, -2, -8, 16, 17, 18, 24, 1<<32 + 1, math.MinInt, math.MaxInt, math.MinInt + 1} {
				checkImageOk(t, around(count, 1, impl.Cell{Op: op, N: n}), 100, false)
			}
		}
	}
}

func TestImageOkByNumber(t *testing.T) {
	for _, n := range []int{0, 1, -1, 999, 1000, 1001, -999, -1000, -1001, 1 << 28, -1 << 28, 1<<28 + 5, 1 << 32, math.MaxInt, math.MinInt} {
		for _, at := range []int{0, 1, 8} {
			for _, reach := range []int{1, 20, 100} {
				checkImageOk(t, around(10, at, impl.Cell{Op: impl.InsAdd, N: n}), reach, n >= -1000 && n <= 1000)
			}
		}
	}
}

// A way leads just to the edge of its reach, and just to the first and the last place, and no further.
func TestImageOkByWay(t *testing.T) {
	for _, op := range []int{impl.InsCall, impl.InsIf, impl.InsGo} {
		for _, count := range []int{2, 3, 101, 102, 300, 800} {
			for _, at := range []int{0, 1, count / 2, count - 2} {
				for _, reach := range []int{1, 2, 50, 99, 100} {
					for _, n := range []int{0, 1, -1, reach - 1, reach, reach + 1, -reach + 1, -reach, -reach - 1, -at, -at - 1, count - 1 - at, count - at, math.MinInt, math.MaxInt, math.MaxInt - at} {
						fine := n >= -reach && n <= reach && at+n >= 0 && at+n < count && (at < count-1 || op == impl.InsGo)
						checkImageOk(t, around(count, at, impl.Cell{Op: op, N: n}), reach, fine)
					}
				}
			}
		}
	}
	// The reach is asked from each place on: ways that are all as long as can be.
	wide := slices.Repeat([]impl.Cell{{Op: impl.InsGo, N: 100}}, 200)
	copy(wide[100:], slices.Repeat([]impl.Cell{{Op: impl.InsGo, N: -100}}, 100))
	checkImageOk(t, wide, 100, true)
	checkImageOk(t, wide, 99, false)
	wide[99].N, wide[100].N = 101, -101
	checkImageOk(t, wide, 100, false)
}

func TestImageOkByStone(t *testing.T) {
	for _, count := range []int{2, 3, 150, 800} {
		for _, at := range []int{0, 1, count - 1} {
			for _, n := range []int{-1, 0, 1, 2, at, count / 2, count - 1, count, count + 1, 800, math.MinInt, math.MaxInt} {
				// However far a stone leads, it is not to itself.
				c := around(count, at, impl.Cell{Op: impl.CellFar, N: n})
				for _, reach := range []int{1, 100} {
					checkImageOk(t, c, reach, n >= 0 && n < count && n != at)
				}
			}
		}
	}
	for text, fine := range map[string]bool{
		"far 0\n": false, "far 1\n": false, "far -1\n": false, "far 1\nend\n": true, "end\nfar 0\n": true, "far 1\nfar 0\n": false,
		"far 1\nfar 2\nend\n": false, "far 2\nfar 2\nend\n": true, "far 2\nend\nfar 1\n": false, "far 1\nend\nfar 1\n": true, "end\nfar 0\nfar 0\n": true, "end\nfar 0\nfar 1\n": false, "end\nfar 1\nfar 0\n": false,
		// Ways lead to a stone all the same.
		"go 1\nfar 0\n": true, "far 1\ngo -1\n": true, "if 2\nret\nfar 1\n": true, "call 1\nfar 0\n": true,
	} {
		checkImageOk(t, cells(t, text), 100, fine)
		checkImageOk(t, cells(t, text), 2, fine)
	}
}

// The last place is one behind which nothing goes on; any other one may be as well.
func TestImageOkByLast(t *testing.T) {
	for op := impl.InsSay; op <= impl.CellFar; op++ {
		last := op == impl.InsGo || op == impl.InsRet || op == impl.InsEnd || op == impl.CellFar
		for _, count := range []int{2, 3, 800} {
			c := around(count, count-1, impl.Cell{Op: op})
			checkImageOk(t, c, 100, last)
			checkImageOk(t, c, 1, last)
			c[count-1], c[count-2] = c[count-2], c[count-1]
			checkImageOk(t, c, 100, count > 2 || op != impl.CellFar)
		}
		if op != impl.CellFar {
			checkImageOk(t, []impl.Cell{{Op: op}}, 100, last)
		}
	}
}

func TestImageSame(t *testing.T) {
	base := cells(t, "far 2\nadd 5\nend\n")
	all := [][]impl.Cell{base, nil, base[:1], base[:2], base[1:], append(slices.Clone(base), impl.Cell{}), append(slices.Clone(base), base[2])}
	for at := range base {
		op, n, swapped := slices.Clone(base), slices.Clone(base), slices.Clone(base)
		op[at].Op = 3
		n[at].N = -n[at].N - 1
		swapped[at], swapped[(at+1)%3] = swapped[(at+1)%3], swapped[at]
		all = append(all, op, n, swapped)
	}
	// What is no image is held against another one place by place too.
	odd := slices.Repeat([]impl.Cell{{Op: math.MinInt, N: math.MaxInt}}, 900)
	other := slices.Clone(odd)
	other[899].N--
	all = append(all, odd, odd[:899], other, []impl.Cell{{}}, []impl.Cell{{Op: 2}}, []impl.Cell{{N: 2}})
	for i, a := range all {
		for j, b := range all {
			if got := impl.ImageSame(slices.Clone(a), slices.Clone(b)); got != (i == j) {
				t.Errorf("ImageSame of %v and %v is %v", a, b, got)
			}
		}
	}
	if !impl.ImageSame(nil, []impl.Cell{}) || !impl.ImageSame(make([]impl.Cell, 0, 9), nil) {
		t.Error("the empty list is not the nil list")
	}
}

func checkReadImage(t *testing.T, text string, want bool) {
	t.Helper()
	c, fine := impl.ImageRead(text)
	if fine != want {
		t.Errorf("ImageRead of %q is %v, %v", text, c, fine)
	}
	if !want && c != nil || want && (impl.ImageText(c) != text || !impl.ImageOk(c, 100)) {
		t.Errorf("ImageRead of %q is %v", text, c)
	}
}

func TestImageTextOfEachKind(t *testing.T) {
	for _, x := range []struct {
		text string
		want []impl.Cell
	}{
		{"say\nend\n", []impl.Cell{{Op: 1}, {Op: 7}}},
		{"add 5\nret\n", []impl.Cell{{Op: 2, N: 5}, {Op: 6}}},
		{"add 0\nret\n", []impl.Cell{{Op: 2}, {Op: 6}}},
		{"add -1000\nadd 1000\ngo 0\n", []impl.Cell{{Op: 2, N: -1000}, {Op: 2, N: 1000}, {Op: 4}}},
		{"call 1\nif -1\ngo -2\n", []impl.Cell{{Op: 3, N: 1}, {Op: 5, N: -1}, {Op: 4, N: -2}}},
		{"call 0\nif 0\ngo 0\n", []impl.Cell{{Op: 3}, {Op: 5}, {Op: 4}}},
		{"far 1\nend\n", []impl.Cell{{Op: 8, N: 1}, {Op: 7}}},
		{"end\nfar 0\n", []impl.Cell{{Op: 7}, {Op: 8}}},
	} {
		if got := impl.ImageText(x.want); got != x.text {
			t.Errorf("ImageText of %v is %q", x.want, got)
		}
		if got, fine := impl.ImageRead(x.text); !fine || !slices.Equal(got, x.want) {
			t.Errorf("ImageRead of %q is %v, %v", x.text, got, fine)
		}
	}
	far := around(800, 0, impl.Cell{Op: impl.CellFar, N: 799})
	if want := "far 799\n" + strings.Repeat("end\n", 799); impl.ImageText(far) != want {
		t.Errorf("%q", impl.ImageText(far))
	}
	checkReadImage(t, impl.ImageText(far), true)
}

// Each is one turn away from a text that is read.
func TestImageReadOfWrongTexts(t *testing.T) {
	for _, text := range []string{"end\n", "add 5\nend\n", "add -5\nend\n", "far 1\nend\n", "end\ngo -1\n", "call 1\nret\n", "say\nif -1\nret\n"} {
		checkReadImage(t, text, true)
	}
	for _, text := range []string{
		"", "\n", " ", "end", "end\n\n", "\nend\n", "say\n\nend\n", "say\nend", "end\r\n", "end\x00\n", "\x00end\n", "\xff\nend\n", "\ufeffend\n",
		" end\n", "end \n", "END\n", "End\n", "en\n", "ends\n", "end;\n", "end\nsay\n", "say\n", "saya\nend\n", "e nd\n",
		"end 0\n", "end 1\n", "say 0\nend\n", "say 5\nend\n", "ret 0\n", "ret -0\n", "end end\n",
		"add\nend\n", "add \nend\n", "add  5\nend\n", "add 5 \nend\n", " add 5\nend\n", "add\t5\nend\n", "add 05\nend\n", "add 00\nend\n", "add +5\nend\n", "add -0\nend\n", "add -05\nend\n", "add --5\nend\n", "add - 5\nend\n", "add 5-\nend\n",
		"add 1001\nend\n", "add -1001\nend\n", "add 99999999999999999999\nend\n", "add 18446744073709551616\nend\n", "add 0x5\nend\n", "add 5.\nend\n", "add 1e2\nend\n", "add 5 5\nend\n", "add f\nend\n", "add ５\nend\n", "add5\nend\n", "add 1_0\nend\n",
		"far\nend\n", "far \nend\n", "far  1\nend\n", "far 1 \nend\n", "far 01\nend\n", "far +1\nend\n", "far -1\nend\n", "far -0\nret\n", "far a\nend\n", "far 2\nend\n", "far 0\nend\n", "Far 1\nend\n", "far1\nend\n",
		"call\nend\n", "call f\nend\n", "call 2\nend\n", "call -1\nend\n", "call 01\nend\n", "call +1\nend\n", "call -0\nend\n", "call 1 1\nend\n", "go\n", "go 1\n", "go -1\n", "go main\n", "if\nend\n", "if 2\nend\n", "if -1\nend\n", "if 0\n", "call 0\n",
		"8 1\nend\n", "fun main\nend\n", "weak a\nend\n", "done\nend\n", "fly\nend\n", "7\n", "goes\n", "0\n",
	} {
		checkReadImage(t, text, false)
	}
}

// The longest texts are those of the longest lines; what is longer is refused, whatever it says.
func TestImageReadOfLongTexts(t *testing.T) {
	checkReadImage(t, strings.Repeat("add -1000\n", 799)+"go -100\n", true)
	checkReadImage(t, strings.Repeat("add -1000\n", 799)+"far 798\n", true)
	checkReadImage(t, strings.Repeat("add -1000\n", 800)+"go -100\n", false)
	checkReadImage(t, strings.Repeat("end\n", 800), true)
	checkReadImage(t, strings.Repeat("end\n", 801), false)
	for _, size := range []int{11999, 12000, 12001, 12002, 1 << 20} {
		for _, text := range []string{
			strings.Repeat("end\n", size/4+1), strings.Repeat("\n", size), strings.Repeat("add -1000\n", size/10+1), strings.Repeat("end ", size/4+1), strings.Repeat("9", size),
			"add " + strings.Repeat("0", size), strings.Repeat(" ", size), strings.Repeat("\xff", size),
		} {
			checkReadImage(t, text[:size-1]+"\n", false)
			checkReadImage(t, text[len(text)-size:], false)
		}
	}
}

// Each text of an image that is turned in one byte is the text of another image, or of none.
func TestImageReadOfTurnedTexts(t *testing.T) {
	read := 0
	for _, text := range []string{cpuText, "end\n", "add -10\ngo 0\n", "far 1\nend\n"} {
		for at := range len(text) {
			for _, b := range []byte("\n 019-afesygo\x00\xff") {
				for _, turned := range []string{text[:at] + string(rune(b)) + text[at+1:], text[:at] + string([]byte{b}) + text[at:], text[:at] + text[at+1:]} {
					want := turned == cellLinesOf(turned)
					checkReadImage(t, turned, want)
					if want {
						read++
					}
				}
			}
		}
	}
	if read < 100 {
		t.Errorf("%d texts are read", read)
	}
}

// cellLinesOf is a text as it is written, if it is the text of places that are an image; else it is another text.
func cellLinesOf(text string) string {
	var c []impl.Cell
	for line := range strings.Lines(text) {
		word, rest, _ := strings.Cut(strings.TrimSuffix(line, "\n"), " ")
		n, _ := strconv.Atoi(rest)
		c = append(c, impl.Cell{Op: slices.Index(lineWords, word) + 1, N: n})
	}
	if !imageModelOk(c, 100) {
		return text + "?"
	}
	return cellLines(c)
}

// imageModelOk is ImageOk by what each place is, one condition at a time.
func imageModelOk(c []impl.Cell, reach int) bool {
	far := func(at int) bool { return c[at].Op == 8 }
	for at, cell := range c {
		to, fine := at+cell.N, false
		switch cell.Op {
		case 1, 6, 7:
			fine = cell.N == 0
		case 2:
			fine = max(cell.N, -cell.N) <= 1000
		case 3, 4, 5:
			fine = max(cell.N, -cell.N) <= reach && to >= 0 && to < len(c)
		case 8:
			fine = cell.N >= 0 && cell.N < len(c) && !far(cell.N)
		}
		if !fine {
			return false
		}
	}
	return len(c) > 0 && len(c) <= 800 && slices.Contains([]int{4, 6, 7, 8}, c[len(c)-1].Op) && reach > 0 && reach <= 100
}
