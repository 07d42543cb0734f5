package tests

import (
	"math"
	"slices"
	"strconv"
	"strings"
	"testing"

	"loop.example/stepstone/impl"
)

// mapText has functions of two, ten, one and three instructions.
const mapText = "fun main\ncall b\nend\nfun a\nsay\nsay\nsay\nsay\nsay\nsay\nsay\nsay\nadd 3\nret\nweak b\nret\nfun end\ncall a\nif b\nend\n"

// mapStones stand at 2, 3 and 4, behind main, at 15, behind a, and at 20 and 21, behind all.
var mapStones = []string{"b end a", "main", "", "end b"}

// mapNames is what stands at each place of mapText with mapStones.
const mapNames = "main main+1 *b *end *a a a+1 a+2 a+3 a+4 a+5 a+6 a+7 a+8 a+9 *main b end end+1 end+2 *end *b"

// noPlaces is numbers that are no place of any program that has not more than so many.
func noPlaces(size int) []int {
	return []int{math.MinInt, -1 << 32, -size, -2, -1, size, size + 1, size + 2, 2 * size, 1 << 32, math.MaxInt}
}

func checkAt(t *testing.T, p []impl.Fun, l impl.Lay, s impl.Spot, want int) {
	t.Helper()
	if got := impl.MapAt(p, l, s); got != want {
		t.Errorf("MapAt of %q as %v of %v is %d, not %d", programText(p), l, s, got, want)
	}
}

// checkSpot asks MapSpot of a place; where none is wanted, nothing and false.
func checkSpot(t *testing.T, p []impl.Fun, l impl.Lay, at int, want impl.Spot, found bool) {
	t.Helper()
	if got, ok := impl.MapSpot(p, l, at); got != want || ok != found {
		t.Errorf("MapSpot of %q as %v at %d is %v, %v, not %v, %v", programText(p), l, at, got, ok, want, found)
	}
}

func checkName(t *testing.T, p []impl.Fun, l impl.Lay, at int, want string) {
	t.Helper()
	if got := impl.MapName(p, l, at); got != want {
		t.Errorf("MapName of %q as %v at %d is %q, not %q", programText(p), l, at, got, want)
	}
}

func checkList(t *testing.T, p []impl.Fun, l impl.Lay, want string) {
	t.Helper()
	if got := impl.MapList(p, l); got != want {
		t.Errorf("MapList of %q as %v is %q, not %q", programText(p), l, got, want)
	}
}

// checkNoMap asks all of what is not laid so.
func checkNoMap(t *testing.T, p []impl.Fun, l impl.Lay) {
	t.Helper()
	for at := -1; at < 18; at++ {
		checkSpot(t, p, l, at, impl.Spot{}, false)
		checkName(t, p, l, at, "")
	}
	for number := -1; number < 5; number++ {
		for pc := -1; pc < 5; pc++ {
			checkAt(t, p, l, impl.Spot{Fun: number, Pc: pc}, -1)
		}
	}
	checkList(t, p, l, "")
}

func TestMapOfWhatIsNotLaidSo(t *testing.T) {
	eachNotLaid(t, func(p []impl.Fun, l impl.Lay) { checkNoMap(t, p, l) })
	// Laid as another program is: of as many functions of other lengths, of one more, and of one less.
	p := readProgram(t, mapText)
	for _, text := range []string{
		"fun main\nend\nfun a\nret\nfun b\nret\nfun end\nend\n", "fun main\ncall b\nend\nfun a\nret\nfun b\nret\n",
		mapText + "fun more\nret\n", strings.Replace(mapText, "fun a\nsay\n", "fun a\n", 1),
	} {
		checkNoMap(t, p, layWith(readProgram(t, text)))
		checkNoMap(t, readProgram(t, text), layWith(p))
	}
	// A stone that the program has no function for any more.
	for at, name := range []string{"main", "a", "b", "end"} {
		turned := readProgram(t, "fun main\nend\nfun a\nret\nfun b\nret\nfun end\nend\n")
		l := layWith(turned, "", name)
		checkSpot(t, turned, l, at+at/2, impl.Spot{Fun: at}, true)
		turned[at].Name = "other"
		checkNoMap(t, turned, l)
	}
}

func TestMapAt(t *testing.T) {
	p := readProgram(t, mapText)
	longs := []int{2, 10, 1, 3}
	for _, x := range []struct {
		stones []string
		begins []int
	}{{nil, []int{0, 2, 12, 13}}, {mapStones, []int{0, 5, 16, 17}}, {[]string{"", "", "", "a b"}, []int{0, 2, 12, 13}}, {[]string{"main"}, []int{0, 3, 13, 14}}} {
		l := layWith(p, x.stones...)
		for number, begin := range x.begins {
			for pc := range longs[number] {
				checkAt(t, p, l, impl.Spot{Fun: number, Pc: pc}, begin+pc)
			}
			for _, pc := range noPlaces(longs[number]) {
				checkAt(t, p, l, impl.Spot{Fun: number, Pc: pc}, -1)
			}
		}
		for _, number := range noPlaces(4) {
			for _, pc := range []int{-1, 0, 1, 2, math.MinInt, math.MaxInt} {
				checkAt(t, p, l, impl.Spot{Fun: number, Pc: pc}, -1)
			}
		}
	}
}

func TestMapSpot(t *testing.T) {
	p := readProgram(t, mapText)
	l := layWith(p, mapStones...)
	for at := range 22 {
		var want impl.Spot
		found := true
		switch {
		case at < 2:
			want = impl.Spot{Pc: at}
		case at >= 5 && at < 15:
			want = impl.Spot{Fun: 1, Pc: at - 5}
		case at == 16:
			want = impl.Spot{Fun: 2}
		case at >= 17 && at < 20:
			want = impl.Spot{Fun: 3, Pc: at - 17}
		default:
			found = false
		}
		checkSpot(t, p, l, at, want, found)
	}
	for _, at := range noPlaces(22) {
		checkSpot(t, p, l, at, impl.Spot{}, false)
	}
	// Without a stone behind it the last place is an instruction.
	bare := layWith(p)
	checkSpot(t, p, bare, 0, impl.Spot{}, true)
	checkSpot(t, p, bare, 15, impl.Spot{Fun: 3, Pc: 2}, true)
	checkSpot(t, p, bare, 1, impl.Spot{Pc: 1}, true)
	checkSpot(t, p, bare, 2, impl.Spot{Fun: 1}, true)
	for _, at := range noPlaces(16) {
		checkSpot(t, p, bare, at, impl.Spot{}, false)
	}
}

func TestMapName(t *testing.T) {
	p := readProgram(t, mapText)
	l := layWith(p, mapStones...)
	for at, want := range strings.Fields(mapNames) {
		checkName(t, p, l, at, want)
	}
	for _, at := range noPlaces(22) {
		checkName(t, p, l, at, "")
	}
	bare := layWith(p)
	for at, want := range map[int]string{0: "main", 1: "main+1", 2: "a", 3: "a+1", 11: "a+9", 12: "b", 13: "end", 15: "end+2"} {
		checkName(t, p, bare, at, want)
	}
	for _, at := range noPlaces(16) {
		checkName(t, p, bare, at, "")
	}
	// A stone behind a function of one instruction, of its own name and of another one.
	one := readProgram(t, "fun a\nret\nfun b\ngo a\n")
	for at, want := range []string{"a", "*a", "*b", "b", "*b", ""} {
		checkName(t, one, layWith(one, "a b", "b"), at, want)
	}
	// Names as long as they may be.
	long := readProgram(t, "fun abcdef\nsay\nret\nfun zzzzzz\nsay\ngo abcdef\n")
	for at, want := range []string{"abcdef", "abcdef+1", "*zzzzzz", "*abcdef", "zzzzzz", "zzzzzz+1", "*abcdef", ""} {
		checkName(t, long, layWith(long, "zzzzzz abcdef", "abcdef"), at, want)
	}
}

func TestMapList(t *testing.T) {
	p := readProgram(t, mapText)
	checkList(t, p, layWith(p), "0 2 0 main\n2 10 0 a\n12 1 0 b\n13 3 0 end\n")
	checkList(t, p, layWith(p, mapStones...), "0 2 3 main\n5 10 1 a\n16 1 0 b\n17 3 2 end\n")
	one := readProgram(t, "weak a\nret\n")
	checkList(t, one, layWith(one), "0 1 0 a\n")
	checkList(t, one, layWith(one, "a"), "0 1 1 a\n")
	// Places of one, two and three digits, and as many stones.
	many := blocks(t, 40, 10)
	want, stoned, all := "", "", strings.Fields(namesOf(many))
	for number := range many {
		want += strconv.Itoa(number) + "0 10 0 " + numbered(number) + "\n"
		stoned += strconv.Itoa(number*50) + " 10 40 " + numbered(number) + "\n"
	}
	checkList(t, many, layWith(many), strings.Replace(want, "00", "0", 1))
	checkList(t, many, layWith(many, slices.Repeat([]string{strings.Join(all, " ")}, 40)...), stoned)
	example := readProgram(t, "fun main\nadd 1\ncall f\ncall g\nend\nfun f\nsay\nsay\nsay\nsay\nsay\nsay\nsay\nadd 1\nret\nfun g\nsay\nret\n")
	l, _ := impl.LayOf(example, 8)
	checkList(t, example, l, "0 4 1 main\n5 9 0 f\n14 2 0 g\n")
}

// mapModel is what stands at each place, and what is told of each function, of the lines that stand there.
func mapModel(lines []string) ([]string, []string) {
	var names, rows []string
	name, inside, begin, stones := "", 0, 0, 0
	row := func() {
		if name != "" {
			rows = append(rows, strings.Join([]string{strconv.Itoa(begin), strconv.Itoa(inside), strconv.Itoa(stones), name}, " "))
		}
	}
	for at, line := range lines {
		switch label, _, labelled := strings.Cut(line, ": "); {
		case labelled:
			row()
			name, inside, begin, stones = label, 1, at, 0
			names = append(names, name)
		case line[0] == '*':
			names = append(names, line)
			stones++
		default:
			names = append(names, name+"+"+strconv.Itoa(inside))
			inside++
		}
	}
	row()
	return names, rows
}

// checkMapByModel asks all of each place and of each instruction: each place is one instruction, or one stone, and each has one place. It tells how many are stones.
func checkMapByModel(t *testing.T, p []impl.Fun, l impl.Lay) int {
	t.Helper()
	lines := placeLines(p, l.Stones)
	names, rows := mapModel(lines)
	if impl.LaySize(p, l) != len(lines) {
		t.Fatalf("%q as %v is not laid", programText(p), l)
	}
	checkList(t, p, l, strings.Join(rows, "\n")+"\n")
	seen := make([]int, len(lines))
	for number, f := range p {
		for pc := range f.Body {
			s := impl.Spot{Fun: number, Pc: pc}
			at := impl.MapAt(p, l, s)
			if at < 0 || at >= len(lines) || !strings.HasSuffix(lines[at], impl.InsText(f.Body[pc])) {
				t.Fatalf("MapAt of %q as %v of %v is %d", programText(p), l, s, at)
			}
			seen[at]++
			checkSpot(t, p, l, at, s, true)
		}
		for n := range l.Stones[number] {
			seen[impl.LayStone(p, l, number, n)]++
		}
	}
	stones := 0
	for at, name := range names {
		s, found := impl.MapSpot(p, l, at)
		if found {
			checkAt(t, p, l, s, at)
		} else {
			stones++
		}
		if found != (name[0] != '*') || seen[at] != 1 {
			t.Errorf("at %d of %q as %v is %q: %v, %v, %d times", at, programText(p), l, name, s, found, seen[at])
		}
		checkName(t, p, l, at, name)
	}
	for _, at := range noPlaces(len(lines)) {
		checkSpot(t, p, l, at, impl.Spot{}, false)
		checkName(t, p, l, at, "")
	}
	return stones
}

// Whether all is within reach is not asked: each list of stones has its map.
func TestMapOfEachSmallLay(t *testing.T) {
	eachSmallLay(t, func(p []impl.Fun, stones [][]string, reach int) bool {
		l := layWith(p, joinNames(stones)...)
		if reach == 1 || reach == 8 {
			checkMapByModel(t, p, l)
		}
		return impl.LayOk(p, reach, l)
	})
}

func TestMapOfEachSmallProgram(t *testing.T) {
	ends := map[int]int{}
	eachProgram(t, []string{"m", "z", "a"}, nil, func(p []impl.Fun) {
		p[1].Body = append([]impl.Ins{{Op: impl.InsSay}, {Op: impl.InsSay}, {Op: impl.InsSay}}, p[1].Body...)
		for reach := 1; reach <= 6; reach++ {
			if l, code := impl.LayOf(p, reach); code == impl.LayFine {
				ends[checkMapByModel(t, p, l)]++
			}
		}
	})
	for many := range 4 {
		if ends[many] < 10 {
			t.Errorf("%d stones are mapped %d times only", many, ends[many])
		}
	}
}

// Greater programs, of long functions and of short ones, at many reaches, and with all stones that there may be.
func TestMapOfGreatPrograms(t *testing.T) {
	stones := 0
	check := func(p []impl.Fun, reach int) {
		if l, code := impl.LayOf(p, reach); code == impl.LayFine {
			stones = max(stones, checkMapByModel(t, p, l))
		}
	}
	for count := 1; count <= 40; count += 4 {
		for reach := 1 + count/4%3; reach <= 100; reach += 6 + reach {
			check(mixedProgram(t, count, uint32(count*100+reach)), reach)
			check(thinProgram(t, count, uint32(count*100+reach)), reach)
			check(wideProgram(t, count, reach%7+1), reach)
		}
		if p := thinProgram(t, count, uint32(count)); count < 20 {
			checkMapByModel(t, p, layWith(p, slices.Repeat([]string{namesOf(p)}, count)...))
		}
	}
	check(greatest(t), 10)
	if stones != 400 {
		t.Errorf("at most %d stones are mapped", stones)
	}
}

// Nothing is written into what is handed in, nor behind its ends, and what is told stays as it is when that is turned.
func TestMapLeavesAllAsItWas(t *testing.T) {
	p := readProgram(t, layText)
	for _, l := range []impl.Lay{layWith(p), layWith(p, wellLaid...), {}, layWith(p, "z"), layWith(p, "a a"), layWith(p[:2], "b"), layWith(p, "", "", "a b c")} {
		program, was := roomyUnit(p), roomyUnit(p)
		wide, wideWas := roomyLay(l), roomyLay(l)
		var names []string
		for at := -1; at < 16; at++ {
			impl.MapSpot(program, wide, at)
			impl.MapAt(program, wide, impl.Spot{Fun: at / 5, Pc: at % 5})
			names = append(names, impl.MapName(program, wide, at))
		}
		list := impl.MapList(program, wide)
		if !layIs(withRoom(wide), withRoom(wideWas)) || !sameRoom(program, was) {
			t.Errorf("%v has been turned into %v", l, wide)
		}
		told := strings.Clone(list + strings.Join(names, ""))
		spoilLay(wide)
		spoilUnits([][]impl.Fun{program})
		if list+strings.Join(names, "") != told {
			t.Errorf("%q, and %q", names, list)
		}
	}
}

// Functions that share their instructions, and lists of stones that are one, are mapped as others are.
func TestMapOfSharedLists(t *testing.T) {
	body := fun(t, "fun q", "say", "call h", "ret").Body
	p := []impl.Fun{{Name: "f", Body: body}, {Name: "g", Weak: true, Body: body[1:]}, {Name: "h", Body: body}}
	names := []string{"g", "h", "f"}
	l := impl.Lay{At: []int{0, 6, 10}, Stones: [][]string{names, names[:2], names[1:]}}
	checkMapByModel(t, p, l)
	checkList(t, p, l, "0 3 3 f\n6 2 2 g\n10 3 2 h\n")
}
