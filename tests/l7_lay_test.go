package tests

import (
	"math"
	"slices"
	"strconv"
	"strings"
	"testing"

	"loop.example/stepstone/impl"
)

// layText has three functions, of four, three and one instructions, that name one another ahead and behind.
const layText = "fun a\nadd 1\ncall b\nif c\nret\nweak b\nsay\nif a\nret\nfun c\ngo b\n"

// layReaches are reaches and what is none.
var layReaches = []int{math.MinInt, -100, -1, 0, 1, 2, 20, 99, 100, 101, 102, math.MaxInt}

// layWith is where a program stands with these stones, told by the lengths alone; for each function its stones, a space between.
func layWith(p []impl.Fun, stones ...string) impl.Lay {
	var l impl.Lay
	place := 0
	for number, f := range p {
		var names []string
		if number < len(stones) {
			names = strings.Fields(stones[number])
		}
		l.At, l.Stones = append(l.At, place), append(l.Stones, names)
		place += len(f.Body) + len(names)
	}
	return l
}

// copyLay is the same in memory of its own.
func copyLay(l impl.Lay) impl.Lay {
	c := impl.Lay{At: slices.Clone(l.At)}
	for _, names := range l.Stones {
		c.Stones = append(c.Stones, slices.Clone(names))
	}
	return c
}

// layIs says otherwise than by LaySame whether two are the same.
func layIs(a impl.Lay, b impl.Lay) bool { return layLine(a) == layLine(b) }

func layLine(l impl.Lay) string {
	line := strconv.Itoa(len(l.At)) + " " + strconv.Itoa(len(l.Stones))
	for _, at := range l.At {
		line += " " + strconv.Itoa(at)
	}
	for _, names := range l.Stones {
		line += "\n" + strconv.Quote(strings.Join(names, " ")) + strconv.Itoa(len(names))
	}
	return line
}

func checkTo(t *testing.T, p []impl.Fun, l impl.Lay, reach int, from int, name string, want int) {
	t.Helper()
	if got := impl.LayTo(p, l, reach, from, name); got != want {
		t.Errorf("LayTo of %q as %v within %d from %d for %q is %d, not %d", programText(p), l, reach, from, name, got, want)
	}
}

func checkLayOk(t *testing.T, p []impl.Fun, l impl.Lay, reach int, want bool) {
	t.Helper()
	if got := impl.LayOk(p, reach, l); got != want {
		t.Errorf("LayOk of %q within %d and %v is %v", programText(p), reach, l, got)
	}
}

// checkLayOf asks for the stones behind each function; where it does not end fine, none are told.
func checkLayOf(t *testing.T, p []impl.Fun, reach int, code int, stones ...string) {
	t.Helper()
	var want impl.Lay
	if code == impl.LayFine {
		want = layWith(p, stones...)
	}
	if got, end := impl.LayOf(p, reach); end != code || !layIs(got, want) {
		t.Errorf("LayOf of %q within %d is %v, %d, not %v, %d", programText(p), reach, got, end, want, code)
	}
}

func checkNotLaid(t *testing.T, p []impl.Fun, l impl.Lay) {
	t.Helper()
	if got := impl.LaySize(p, l); got != 0 {
		t.Errorf("LaySize of %v as %v is %d", p, l, got)
	}
	for _, reach := range layReaches {
		checkLayOk(t, p, l, reach, false)
		for _, from := range []int{-1, 0, 1, 2, 5} {
			for _, name := range []string{"", "a", "b", "z"} {
				checkTo(t, p, l, reach, from, name, -1)
			}
		}
	}
	for number := -1; number < 4; number++ {
		for n := -1; n < 4; n++ {
			if got := impl.LayStone(p, l, number, n); got != -1 {
				t.Errorf("LayStone of %v as %v, %d, %d is %d", p, l, number, n, got)
			}
		}
	}
}

func TestLayConstants(t *testing.T) {
	if impl.LayFine != 0 || impl.LayFar != 1 || impl.LayForm != 2 || impl.LayReach != 100 {
		t.Error("codes and bounds")
	}
}

func TestLayOfNoProgram(t *testing.T) {
	for _, p := range notPrograms(t) {
		for _, reach := range layReaches {
			checkLayOf(t, p, reach, impl.LayForm)
		}
	}
}

func TestLayOfWhatIsNotLaidSo(t *testing.T) {
	checkLayOk(t, readProgram(t, layText), layWith(readProgram(t, layText), wellLaid...), 20, true)
	eachNotLaid(t, func(p []impl.Fun, l impl.Lay) { checkNotLaid(t, p, l) })
}

// wellLaid is stones with which the program of layText is laid.
var wellLaid = []string{"c b", "a", "a c b"}

// eachNotLaid goes through what is no program, and through a program that is laid, and turned so that it is not.
func eachNotLaid(t *testing.T, call func(p []impl.Fun, l impl.Lay)) {
	t.Helper()
	for _, p := range notPrograms(t) {
		for _, l := range []impl.Lay{layWith(p), {}, {At: []int{0}, Stones: [][]string{nil}}, layWith(p, "a"), layWith(p, "", "a")} {
			call(p, l)
		}
	}
	p := readProgram(t, layText)
	for _, l := range slices.Concat(turnedLays(p), movedLays(p), wrongStones(p)) {
		call(p, l)
	}
}

// turnedLays is a lay that fits, turned in its lists so that it does not.
func turnedLays(p []impl.Fun) []impl.Lay {
	var list []impl.Lay
	for _, turn := range []func(*impl.Lay){
		func(l *impl.Lay) { *l = impl.Lay{} },
		func(l *impl.Lay) { l.At = nil },
		func(l *impl.Lay) { l.At = l.At[:2] },
		func(l *impl.Lay) { l.At = l.At[1:] },
		func(l *impl.Lay) { l.At = append(l.At, 14) },
		func(l *impl.Lay) { l.At = append(l.At, 0) },
		func(l *impl.Lay) { l.Stones = nil },
		func(l *impl.Lay) { l.Stones = l.Stones[:2] },
		func(l *impl.Lay) { l.Stones = l.Stones[1:] },
		func(l *impl.Lay) { l.Stones = append(l.Stones, nil) },
		func(l *impl.Lay) { l.Stones = append(l.Stones, []string{"a"}) },
		func(l *impl.Lay) { l.At, l.Stones = l.At[:2], l.Stones[:2] },
		func(l *impl.Lay) { l.At, l.Stones = append(l.At, 14), append(l.Stones, nil) },
		func(l *impl.Lay) { l.Stones[0] = nil },
		func(l *impl.Lay) { l.Stones[1] = nil },
		func(l *impl.Lay) { l.Stones[1] = []string{"a", "b"} },
		func(l *impl.Lay) { slices.Reverse(l.At) },
		func(l *impl.Lay) { slices.Reverse(l.Stones) },
	} {
		l := layWith(p, wellLaid...)
		turn(&l)
		list = append(list, l)
	}
	return list
}

// movedLays is one that fits, with functions that begin a place or more too early or too late: one alone, and with all behind it.
func movedLays(p []impl.Fun) []impl.Lay {
	var list []impl.Lay
	for at := range p {
		for _, by := range []int{-1, 1, 2, math.MaxInt/2 - 20, math.MinInt / 2} {
			one, all := layWith(p, wellLaid...), layWith(p, wellLaid...)
			one.At[at] += by
			for behind := at; behind < len(p); behind++ {
				all.At[behind] += by
			}
			list = append(list, one, all)
		}
	}
	return list
}

// wrongStones is lays that have a stone of none of the program's names, or one that is twice behind a function.
func wrongStones(p []impl.Fun) []impl.Lay {
	list := []impl.Lay{layWith(p, "", strings.Repeat("a ", 1<<16))}
	for at := range p {
		for _, names := range []string{
			// None of the program's, alone, ahead and behind.
			"z", "z a", "a z", "a b c z", "A", "aa", "*a", "ab", "call", "abcdefg", "\xff",
			// Twice in a list, one behind the other and not.
			"a a", "a b a", "b b a", "c a b c", "a b c a b c",
		} {
			stones := slices.Clone(wellLaid)
			stones[at] = names
			list = append(list, layWith(p, stones...))
		}
		// The empty name is none either.
		l := layWith(p, wellLaid...)
		l.Stones[at][0] = ""
		list = append(list, l)
	}
	return list
}

// LayMany and LaySame ask nothing of what they are given.
func TestLayManyAndSameOfAny(t *testing.T) {
	p := readProgram(t, layText)
	odd := impl.Lay{At: []int{-5, math.MaxInt}, Stones: [][]string{{"z", "z"}, nil, {"", "A", "\xff"}}}
	for _, x := range []struct {
		l    impl.Lay
		many int
	}{
		{impl.Lay{}, 0}, {layWith(p), 0}, {layWith(p, "b"), 1}, {layWith(p, "a b", "", "c a b"), 5}, {odd, 5},
		{impl.Lay{At: []int{1, 2, 3}}, 0}, {impl.Lay{Stones: [][]string{{}, {}, nil}}, 0}, {impl.Lay{Stones: [][]string{nil, nil, nil, {"a"}}}, 1},
		{layWith(p, "", strings.Repeat("a ", 70000)), 70000},
	} {
		if got := impl.LayMany(x.l); got != x.many {
			t.Errorf("LayMany of %v is %d", x.l, got)
		}
		if !impl.LaySame(x.l, copyLay(x.l)) {
			t.Errorf("%v is not itself", x.l)
		}
	}
}

func TestLaySame(t *testing.T) {
	base := impl.Lay{At: []int{0, 3, 9}, Stones: [][]string{{"a", "b"}, nil, {"c"}}}
	all := []impl.Lay{base}
	for _, turn := range []func(*impl.Lay){
		func(l *impl.Lay) { *l = impl.Lay{} },
		func(l *impl.Lay) { l.At = nil },
		func(l *impl.Lay) { l.At = l.At[:2] },
		func(l *impl.Lay) { l.At = append(l.At, 0) },
		func(l *impl.Lay) { l.At[0] = 1 },
		func(l *impl.Lay) { l.At[1] = 9 },
		func(l *impl.Lay) { l.At[2] = -9 },
		func(l *impl.Lay) { slices.Reverse(l.At) },
		func(l *impl.Lay) { l.Stones = nil },
		func(l *impl.Lay) { l.Stones = l.Stones[:2] },
		func(l *impl.Lay) { l.Stones = append(l.Stones, nil) },
		func(l *impl.Lay) { l.Stones = slices.Delete(l.Stones, 1, 2) },
		func(l *impl.Lay) { l.Stones[0][0] = "c" },
		func(l *impl.Lay) { l.Stones[0][1] = "bb" },
		func(l *impl.Lay) { l.Stones[0] = []string{"ab"} },
		func(l *impl.Lay) { l.Stones[0] = l.Stones[0][:1] },
		func(l *impl.Lay) { slices.Reverse(l.Stones[0]) },
		func(l *impl.Lay) { l.Stones[1] = []string{""} },
		func(l *impl.Lay) { l.Stones[2] = append(l.Stones[2], "c") },
		func(l *impl.Lay) { l.Stones[1], l.Stones[2] = l.Stones[2], nil },
		func(l *impl.Lay) { l.Stones[0], l.Stones[1] = []string{"a"}, []string{"b"} },
	} {
		l := copyLay(base)
		turn(&l)
		all = append(all, l)
	}
	for i, a := range all {
		for j, b := range all {
			if got := impl.LaySame(copyLay(a), copyLay(b)); got != (i == j) {
				t.Errorf("LaySame of %v and %v is %v", a, b, got)
			}
		}
	}
	for _, l := range []impl.Lay{{At: []int{}}, {Stones: [][]string{}}, {At: make([]int, 0, 9), Stones: make([][]string, 0, 9)}} {
		if !impl.LaySame(l, impl.Lay{}) || !impl.LaySame(impl.Lay{}, l) {
			t.Errorf("%v is not nothing", l)
		}
	}
	if empty := (impl.Lay{Stones: [][]string{{}, make([]string, 0, 5)}}); !impl.LaySame(empty, impl.Lay{Stones: [][]string{nil, nil}}) {
		t.Error("the empty list is not the nil list")
	}
}

func TestLaySizeAndStone(t *testing.T) {
	p := readProgram(t, layText)
	for _, x := range []struct {
		stones []string
		size   int
		places [][]int
	}{
		{nil, 8, [][]int{nil, nil, nil}},
		{[]string{"b"}, 9, [][]int{{4}, nil, nil}},
		{[]string{"", "", "c"}, 9, [][]int{nil, nil, {8}}},
		{[]string{"c b", "a", "a c b"}, 14, [][]int{{4, 5}, {9}, {11, 12, 13}}},
		{[]string{"a b c", "c b a", "b a c"}, 17, [][]int{{4, 5, 6}, {10, 11, 12}, {14, 15, 16}}},
	} {
		l := layWith(p, x.stones...)
		if got := impl.LaySize(p, l); got != x.size {
			t.Errorf("LaySize of %v is %d", l, got)
		}
		for number := -2; number < 6; number++ {
			for n := -2; n < 6; n++ {
				want := -1
				if number >= 0 && number < 3 && n >= 0 && n < len(x.places[number]) {
					want = x.places[number][n]
				}
				if got := impl.LayStone(p, l, number, n); got != want {
					t.Errorf("LayStone of %v, %d, %d is %d, not %d", l, number, n, got, want)
				}
			}
		}
		for _, far := range []int{math.MinInt, math.MaxInt, -1 << 40, 1 << 32, 1<<32 + 1} {
			if impl.LayStone(p, l, far, 0) != -1 || impl.LayStone(p, l, 0, far) != -1 || impl.LayStone(p, l, far, far) != -1 {
				t.Errorf("LayStone of %v tells a place of %d", l, far)
			}
		}
	}
}

// block is a function of so many instructions, of which none names anything.
func block(t *testing.T, name string, long int) impl.Fun {
	t.Helper()
	return fun(t, "fun "+name, append(slices.Repeat([]string{"say"}, long-1), "ret")...)
}

// blocks is so many functions of that many instructions each, none of which names anything.
func blocks(t *testing.T, count int, long int) []impl.Fun {
	t.Helper()
	var p []impl.Fun
	for n := range count {
		p = append(p, block(t, numbered(n), long))
	}
	return p
}

// A beginning just within reach and one further, ahead and behind, whatever the reach is.
func TestLayToOfBeginnings(t *testing.T) {
	p := blocks(t, 25, 10)
	l := layWith(p)
	for reach := 1; reach <= 100; reach++ {
		begin := 120
		name := numbered(begin / 10)
		checkTo(t, p, l, reach, begin, name, begin)
		for _, side := range []int{-1, 1} {
			checkTo(t, p, l, reach, begin+side, name, begin)
			checkTo(t, p, l, reach, begin+side*(reach-1), name, begin)
			checkTo(t, p, l, reach, begin+side*reach, name, begin)
			checkTo(t, p, l, reach, begin+side*(reach+1), name, -1)
			checkTo(t, p, l, reach, begin+side*(reach+2), name, -1)
		}
		// The first and the last function, from the first and the last place.
		checkTo(t, p, l, reach, 0, numbered(0), 0)
		checkTo(t, p, l, reach, reach, numbered(0), 0)
		checkTo(t, p, l, reach, reach+1, numbered(0), -1)
		checkTo(t, p, l, reach, 0, numbered(24), -1)
		checkTo(t, p, l, reach, 249, numbered(0), -1)
	}
	// What is no reach has nothing within it.
	for _, reach := range layReaches {
		fine := reach >= 1 && reach <= 100
		checkLayOk(t, p, l, reach, fine)
		for _, from := range []int{0, 120, 249} {
			want := -1
			if fine {
				want = from / 10 * 10
			}
			if fine && from%10 > reach {
				want = -1
			}
			checkTo(t, p, l, reach, from, numbered(from/10), want)
		}
	}
}

func TestLayToOfPlacesThatAreNone(t *testing.T) {
	p := readProgram(t, layText)
	for _, stones := range [][]string{nil, {"b"}, {"", "", "a"}, {"c b", "a", "a c b"}} {
		l := layWith(p, stones...)
		size := impl.LaySize(p, l)
		for from := range size {
			for _, f := range p {
				checkTo(t, p, l, 100, from, f.Name, impl.LayTo(p, l, 100, 0, f.Name))
			}
		}
		for at, f := range p {
			checkTo(t, p, l, 100, size-1, f.Name, l.At[at])
			for _, from := range []int{-1, -2, -100, size, size + 1, size + 99, math.MinInt, math.MaxInt} {
				checkTo(t, p, l, 100, from, f.Name, -1)
				checkTo(t, p, l, 1, from, f.Name, -1)
			}
		}
		// A name that the program has not, and what is no name.
		for _, name := range []string{"", "d", "aa", "ab", "A", " a", "a ", "abcdefg", "\xff", "ret", "call b"} {
			for _, from := range []int{-1, 0, 1, size - 1, size} {
				checkTo(t, p, l, 100, from, name, -1)
			}
		}
	}
}

func TestLayToOfStones(t *testing.T) {
	// a at 0 to 9 with stones at 10, b at 11 to 20 with stones at 21, 22, c at 23 to 32 with a stone at 33, d at 34 to 43 with a stone at 44.
	p := []impl.Fun{block(t, "a", 10), block(t, "b", 10), block(t, "c", 10), block(t, "d", 10)}
	l := layWith(p, "d", "a d", "d", "a")
	for _, x := range []struct {
		reach, from int
		name        string
		want        int
	}{
		// From ahead and from behind, just within reach, and one further.
		{3, 7, "d", 10}, {3, 6, "d", -1}, {3, 13, "d", 10}, {3, 14, "d", -1}, {1, 9, "d", 10}, {1, 11, "d", 10}, {1, 12, "d", -1}, {1, 8, "d", -1},
		// Two as far: the first.
		{6, 16, "d", 10}, {100, 16, "d", 34}, {7, 28, "d", 34}, {5, 28, "d", 33}, {5, 16, "d", -1}, {11, 33, "a", 44}, {12, 33, "a", 44}, {11, 32, "a", 21}, {12, 32, "a", 21},
		// A nearer one behind a further one, and the other way round.
		{8, 17, "d", 22}, {7, 15, "d", 10}, {11, 18, "d", 22}, {11, 20, "d", 22}, {15, 32, "a", 21}, {15, 34, "a", 44}, {10, 33, "a", -1},
		// From a stone of the name itself, and of another one.
		{5, 10, "d", 10}, {5, 22, "d", 22}, {5, 21, "a", 21}, {5, 44, "a", 44}, {5, 21, "d", 22}, {5, 22, "a", 21}, {1, 33, "d", 34}, {9, 10, "a", -1}, {1, 44, "b", -1},
		// The beginning itself within reach goes ahead of each stone, though that is nearer, or is just where one is.
		{10, 10, "a", 0}, {21, 21, "a", 0}, {22, 22, "a", 0}, {24, 10, "d", 34}, {23, 10, "d", 10}, {12, 22, "d", 34}, {11, 22, "d", 22}, {44, 44, "a", 0}, {43, 44, "a", 44},
		{1, 33, "d", 34}, {2, 33, "d", 34}, {1, 35, "d", 34}, {1, 36, "d", -1},
		// Of names without stones the beginning alone.
		{10, 1, "b", 11}, {9, 1, "b", -1}, {9, 14, "c", 23}, {8, 14, "c", -1}, {33, 44, "b", 11}, {32, 44, "b", -1},
	} {
		checkTo(t, p, l, x.reach, x.from, x.name, x.want)
	}
	if !impl.LayOk(p, 1, l) {
		t.Error("stones that none asked for are laid so too")
	}
}

func TestLayToOfTwoStonesAsFar(t *testing.T) {
	p := []impl.Fun{block(t, "far", 10), block(t, "a", 9), block(t, "b", 9), block(t, "c", 9), block(t, "d", 9)}
	l := layWith(p, "", "far", "far", "far", "far")
	for _, from := range []int{24, 34, 44} { // in the middle of the stones at 19, 29, 39 and 49
		checkTo(t, p, l, 10, from, "far", from-5)
		checkTo(t, p, l, 5, from, "far", from-5)
		checkTo(t, p, l, 4, from, "far", -1)
		checkTo(t, p, l, 10, from+1, "far", from+5)
		checkTo(t, p, l, 10, from-1, "far", from-5)
		checkTo(t, p, l, 4, from+1, "far", from+5)
		checkTo(t, p, l, 4, from-1, "far", from-5)
	}
}

func TestLayOk(t *testing.T) {
	p := readProgram(t, layText)
	for _, x := range []struct {
		reach  int
		stones []string
		fine   bool
	}{
		// Without stones c is 5 from where it is named, b 3 and 1, a 5.
		{5, nil, true}, {100, nil, true}, {4, nil, false}, {3, nil, false}, {1, nil, false},
		// Stones that are asked for, too few of them, and of the wrong functions.
		{4, []string{"c", "a"}, true}, {4, []string{"c"}, false}, {4, []string{"", "a"}, false}, {4, []string{"a", "c"}, false}, {4, []string{"b", "b"}, false},
		{3, []string{"c b", "a"}, false}, {3, []string{"b c", "a"}, false}, {3, []string{"b c", "a", "b"}, true}, {3, []string{"c b", "a", "b"}, false}, {2, []string{"b c", "a", "b"}, false},
		// A stone of another function serves as well.
		{4, []string{"", "c a"}, false}, {5, []string{"", "c"}, true}, {6, []string{"", "", "a b c"}, true},
		// Stones that none asked for.
		{20, []string{"a b c", "a b c", "a b c"}, true}, {5, []string{"a b c", "a b c", "a b c"}, true},
	} {
		checkLayOk(t, p, layWith(p, x.stones...), x.reach, x.fine)
	}
	l := layWith(p)
	for _, reach := range layReaches {
		checkLayOk(t, p, l, reach, reach >= 5 && reach <= 100)
	}
}

func TestLayOfNoReach(t *testing.T) {
	for _, text := range []string{"fun a\nret\n", "fun a\ngo a\n", layText} {
		for _, reach := range layReaches {
			if reach < 1 || reach > 100 {
				checkLayOf(t, readProgram(t, text), reach, impl.LayForm)
			} else if reach > 4 {
				checkLayOf(t, readProgram(t, text), reach, impl.LayFine)
			}
		}
	}
}

func TestLayOf(t *testing.T) {
	const far, fine = impl.LayFar, impl.LayFine
	for _, x := range []struct {
		text   string
		reach  int
		code   int
		stones []string
	}{
		// That needs no stone.
		{"fun a\nret\n", 1, fine, nil},
		{"fun a\ngo a\n", 1, fine, nil},
		{"fun a\nif a\ngo b\nfun b\nret\n", 1, fine, nil},
		{"fun a\nsay\nsay\ngo a\n", 2, fine, nil},
		{"fun a\ncall b\nsay\nsay\nret\nfun b\nret\n", 4, fine, nil},
		{"weak a\nsay\nsay\nsay\nsay\nsay\nsay\nsay\nsay\nsay\ngo b\nfun b\nsay\nsay\nsay\nret\n", 1, fine, nil},
		// That needs one, ahead and behind, and be it one's own name.
		{"fun a\nsay\nsay\ngo a\n", 1, fine, []string{"a"}},
		{"fun a\ngo c\nfun b\nsay\nret\nfun c\nret\n", 2, fine, []string{"c"}},
		{"fun a\ngo c\nfun b\nsay\nret\nfun c\nret\n", 3, fine, nil},
		{"fun a\nret\nfun b\nsay\nret\nfun c\ngo a\n", 2, fine, []string{"", "", "a"}},
		{"fun a\nret\nfun b\nsay\nret\nfun c\ngo a\n", 3, fine, nil},
		{"fun a\nret\nfun b\nsay\nret\nfun c\nsay\nif a\nsay\nret\n", 3, fine, []string{"", "", "a"}},
		// One stone for several that name it, be they in two functions.
		{"fun a\ncall c\ncall c\ngo c\nfun b\nsay\nsay\nret\nfun c\nret\n", 3, fine, []string{"c"}},
		{"fun a\ngo z\nfun b\ngo z\nfun c\nsay\nsay\nret\nfun z\nret\n", 3, fine, []string{"z"}},
		{"fun a\ngo z\nfun b\ngo z\nfun c\nsay\nsay\nret\nfun z\nret\n", 4, fine, []string{"z"}},
		{"fun a\ngo z\nfun b\ngo z\nfun c\nsay\nsay\nret\nfun z\nret\n", 5, fine, nil},
		// Two stones in the order in which they are asked for.
		{"fun a\nif z\ngo y\nfun b\nsay\nsay\nsay\nret\nfun y\nret\nfun z\nret\n", 2, fine, []string{"z y"}},
		{"fun a\nif y\ngo z\nfun b\nsay\nsay\nsay\nret\nfun y\nret\nfun z\nret\n", 2, fine, []string{"y z"}},
		// A stone moves others out of reach, so that they need one: behind it, and ahead of it, which is asked for later and yet laid ahead.
		{"fun a\ncall c\nret\nfun b\nsay\ncall a\nret\nfun c\nret\n", 3, fine, []string{"c", "a"}},
		{"fun a\ncall c\nret\nfun b\nsay\ncall a\nret\nfun c\nret\n", 4, fine, []string{"c"}},
		{"fun a\ncall c\nret\nfun b\nsay\ncall a\nret\nfun c\nret\n", 5, fine, nil},
		{"fun a\ngo c\nfun b\nsay\ngo d\nfun c\nret\nfun d\nret\n", 2, fine, []string{"c"}},
		{"fun a\nif b\ngo c\nfun b\nret\nfun c\ngo a\n", 2, fine, []string{"", "", "a"}},
		{"fun x\nret\nfun a\ngo c\nfun b\nsay\ngo x\nfun c\nret\n", 3, fine, nil},
		{"fun x\nret\nfun a\nif d\ngo c\nfun b\ngo x\nfun c\nret\nfun d\nret\n", 3, fine, []string{"", "d c", "x"}},
		// A stone does not move a beginning out of reach, or it does, of an instruction ahead in the same function: that one's stone is as far.
		{"fun a\ncall b\ncall c\nret\nfun b\nsay\nsay\nret\nfun c\nret\n", 4, fine, []string{"c"}},
		{"fun a\ncall b\ncall c\nret\nfun b\nsay\nsay\nret\nfun c\nret\n", 5, fine, nil},
		{"fun a\nsay\ncall b\ncall c\nret\nfun b\nsay\nsay\nret\nfun c\nret\n", 4, fine, []string{"c"}},
		{"fun a\nsay\ncall b\ncall c\nret\nfun b\nsay\nsay\nret\nfun c\nret\n", 3, far, nil},
		// A function that is longer than the reach.
		{"fun a\ncall b\nsay\nsay\nsay\nret\nfun b\nret\n", 3, far, nil},
		{"fun a\ncall b\nsay\nsay\nsay\nret\nfun b\nret\n", 4, far, nil},
		{"fun a\ncall b\nsay\nsay\nsay\nret\nfun b\nret\n", 5, fine, nil},
		{"fun a\nret\nfun b\ncall c\nsay\nsay\nret\nfun c\nret\n", 3, far, nil},
		{"fun a\nret\nfun b\nsay\nsay\nif a\nsay\nsay\nret\n", 2, far, nil},
		// A stone stands behind the function, which is no longer than the reach, and is out of reach all the same.
		{"fun a\ncall b\ncall c\nret\nfun b\nsay\nsay\nret\nfun c\nret\n", 3, far, nil},
		{"fun a\nif y\nif z\nif x\nret\nfun b\nsay\nsay\nsay\nsay\nsay\nret\nfun x\nret\nfun y\nret\nfun z\nret\n", 4, fine, []string{"y z x"}},
		{"fun a\nif y\nif z\nif x\nif y\nret\nfun b\nsay\nsay\nsay\nsay\nsay\nret\nfun x\nret\nfun y\nret\nfun z\nret\n", 5, fine, []string{"y z x"}},
		{"fun a\nif x\nif y\nif z\nret\nfun x\nret\nfun b\nsay\nsay\nsay\nsay\nsay\nret\nfun y\nret\nfun z\nret\n", 4, far, nil},
		// And what is laid so far is not told.
		{"fun a\ngo z\nfun b\ngo z\nfun c\ncall a\nsay\nsay\nret\nfun z\nret\n", 1, far, nil},
	} {
		checkLayOf(t, readProgram(t, x.text), x.reach, x.code, x.stones...)
	}
}

// The program of the document's example, whose stone moves what is behind it.
func TestLayOfTheExample(t *testing.T) {
	p := readProgram(t, "fun main\nadd 1\ncall f\ncall g\nend\nfun f\nsay\nsay\nsay\nsay\nsay\nsay\nsay\nadd 1\nret\nfun g\nsay\nret\n")
	l, code := impl.LayOf(p, 8)
	if want := (impl.Lay{At: []int{0, 5, 14}, Stones: [][]string{{"g"}, nil, nil}}); code != impl.LayFine || !layIs(l, want) || !impl.LaySame(l, want) {
		t.Errorf("%v, %d", l, code)
	}
	checkTo(t, p, l, 8, 1, "f", 5)
	checkTo(t, p, l, 8, 2, "g", 4)
	if impl.LayStone(p, l, 0, 0) != 4 || impl.LaySize(p, l) != 16 || impl.LayMany(l) != 1 {
		t.Error("the stone")
	}
	checkLayOf(t, p, 2, impl.LayFar)
	checkLayOf(t, p, 11, impl.LayFine)
}

// A ring of functions, each of which names the next, or the one ahead, at many reaches.
func TestLayOfRings(t *testing.T) {
	for count := 1; count <= 40; count++ {
		for reach := 1; reach <= 100; reach++ {
			ahead, back := make([]string, count), make([]string, count)
			ring, turned := chain(t, count), chain(t, count)
			slices.Reverse(turned)
			if count-1 > reach {
				// Only from the last to the first, and turned from the first to the last, is it further than one.
				ahead[count-1], back[0] = numbered(0), numbered(0)
				// The stone of the first moves the second away from it, and so on.
				for at := 1; reach == 1 && at < count; at++ {
					back[at] = turned[at].Body[0].Name
				}
			}
			checkLayOf(t, ring, reach, impl.LayFine, ahead...)
			checkLayOf(t, turned, reach, impl.LayFine, back...)
		}
	}
}

// placeLines writes what stands at each place: a line of a function, the first with its name and a colon ahead, or a star and the name of a stone.
func placeLines(p []impl.Fun, stones [][]string) []string {
	var lines []string
	for number, f := range p {
		for at, i := range f.Body {
			line := impl.InsText(i)
			if at == 0 {
				line = f.Name + ": " + line
			}
			lines = append(lines, line)
		}
		for _, name := range stones[number] {
			lines = append(lines, "*"+name)
		}
	}
	return lines
}

// toModel is LayTo by looking at ever further places, the one ahead first.
func toModel(lines []string, reach int, from int, name string) int {
	for _, isThere := range []func(string) bool{
		func(line string) bool { return strings.HasPrefix(line, name+": ") },
		func(line string) bool { return line == "*"+name },
	} {
		for away := 0; away <= reach; away++ {
			for _, at := range []int{from - away, from + away} {
				if at >= 0 && at < len(lines) && isThere(lines[at]) {
					return at
				}
			}
		}
	}
	return -1
}

// namedBy is what the line names, if it does.
func namedBy(line string) (string, bool) {
	if _, rest, labelled := strings.Cut(line, ": "); labelled {
		line = rest
	}
	word, name, _ := strings.Cut(line, " ")
	return name, word == "call" || word == "go" || word == "if"
}

// farModel is the first line from which what it names is not within reach: the number of its function, and the name; -1, if there is none.
func farModel(lines []string, reach int) (int, string) {
	number := -1
	for at, line := range lines {
		if strings.Contains(line, ": ") {
			number++
		}
		if name, names := namedBy(line); names && toModel(lines, reach, at, name) < 0 {
			return number, name
		}
	}
	return -1, ""
}

// layModel is the stones of LayOf, as the document's words say it.
func layModel(p []impl.Fun, reach int) ([][]string, int) {
	stones := make([][]string, len(p))
	for {
		number, name := farModel(placeLines(p, stones), reach)
		if number < 0 {
			return stones, impl.LayFine
		}
		if slices.Contains(stones[number], name) {
			return nil, impl.LayFar
		}
		stones[number] = append(stones[number], name)
	}
}

// joinNames is for each function its stones with a space between.
func joinNames(stones [][]string) []string {
	var lists []string
	for _, names := range stones {
		lists = append(lists, strings.Join(names, " "))
	}
	return lists
}

// checkLayByModel asks LayOf against the model, and all others of what it tells; it tells how many stones there are, or -1.
func checkLayByModel(t *testing.T, p []impl.Fun, reach int) int {
	t.Helper()
	stones, code := layModel(p, reach)
	checkLayOf(t, p, reach, code, joinNames(stones)...)
	if code != impl.LayFine {
		return -1
	}
	l, _ := impl.LayOf(p, reach)
	checkLayOk(t, p, l, reach, true)
	lines := placeLines(p, stones)
	many := 0
	for number, names := range stones {
		for n, name := range names {
			many++
			at := impl.LayStone(p, l, number, n)
			if at < 0 || at >= len(lines) || lines[at] != "*"+name {
				t.Errorf("the stone %d, %d of %q as %v is at %d", number, n, programText(p), l, at)
			}
			checkAsked(t, p, l, reach, number, name)
		}
		if impl.LayStone(p, l, number, len(names)) != -1 {
			t.Errorf("%q as %v has a stone %d, %d", programText(p), l, number, len(names))
		}
	}
	if impl.LayMany(l) != many || impl.LaySize(p, l) != len(lines) {
		t.Errorf("%q as %v has %d stones, and %d places", programText(p), l, impl.LayMany(l), impl.LaySize(p, l))
	}
	return many
}

// checkAsked fails if nothing in a function names what it has a stone of, being out of reach of its beginning.
func checkAsked(t *testing.T, p []impl.Fun, l impl.Lay, reach int, number int, name string) {
	t.Helper()
	begin := l.At[slices.IndexFunc(p, func(f impl.Fun) bool { return f.Name == name })]
	for pc, i := range p[number].Body {
		if from := l.At[number] + pc; impl.InsRefs(i) && i.Name == name && max(from-begin, begin-from) > reach {
			return
		}
	}
	t.Errorf("%q as %v within %d: none in the function %d asks for a stone of %s", programText(p), l, reach, number, name)
}

// checkToByModel asks LayTo from each place for each name, and LayOk.
func checkToByModel(t *testing.T, p []impl.Fun, stones [][]string, reach int) bool {
	t.Helper()
	l, lines := layWith(p, joinNames(stones)...), placeLines(p, stones)
	for from := -1; from <= len(lines); from++ {
		for _, f := range p {
			want := -1
			if from >= 0 && from < len(lines) {
				want = toModel(lines, reach, from, f.Name)
			}
			checkTo(t, p, l, reach, from, f.Name, want)
		}
	}
	number, _ := farModel(lines, reach)
	checkLayOk(t, p, l, reach, number < 0)
	return number < 0
}

// Each program of three functions that name up to two, the second and the third with some more instructions, at each reach up to where all is within it.
func TestLayOfEachSmallProgram(t *testing.T) {
	ends := map[int]int{}
	eachProgram(t, []string{"m", "z", "a"}, nil, func(p []impl.Fun) {
		for number := range p {
			more := []impl.Ins{{Op: impl.InsSay}, {Op: impl.InsSay}, {Op: impl.InsSay}}
			if number == 1 {
				p[number].Body = append(more, p[number].Body...)
			} else {
				// Behind what it names, so that a stone of it is not at hand.
				p[number].Body = slices.Insert(slices.Clone(p[number].Body), len(p[number].Body)-1, more[number:]...)
			}
		}
		for reach := 1; reach <= 14; reach++ {
			many := checkLayByModel(t, p, reach)
			if ends[many]++; reach == 14 && many != 0 {
				t.Errorf("%q has %d stones within %d", programText(p), many, reach)
			}
		}
	})
	for many := -1; many <= 4; many++ {
		if ends[many] < 10 {
			t.Errorf("%d stones are told %d times only", many, ends[many])
		}
	}
}

// eachSmallLay asks for each list of stones behind two functions of which each names both, at many reaches; what is asked says whether all is within reach.
func eachSmallLay(t *testing.T, ask func(p []impl.Fun, stones [][]string, reach int) bool) {
	t.Helper()
	p := readProgram(t, "fun a\nsay\ncall b\nif a\nret\nfun b\nif a\nsay\nsay\ngo b\nfun c\nret\n")
	lists := [][]string{nil, {"a"}, {"b"}, {"a", "b"}, {"b", "a"}, {"c", "a"}, {"c", "b", "a"}}
	ends := map[bool]int{}
	for _, one := range lists {
		for _, two := range lists {
			for _, three := range lists {
				for reach := 1; reach <= 8; reach++ {
					ends[ask(p, [][]string{one, two, three}, reach)]++
				}
			}
		}
	}
	if ends[true] < 100 || ends[false] < 100 {
		t.Errorf("%v", ends)
	}
}

func TestLayToOfEachSmallLay(t *testing.T) {
	eachSmallLay(t, func(p []impl.Fun, stones [][]string, reach int) bool { return checkToByModel(t, p, stones, reach) })
}

// Greater programs, of long functions and of short ones, at many reaches.
func TestLayOfGreatPrograms(t *testing.T) {
	ends := map[int]int{}
	for count := 1; count <= 40; count++ {
		for reach := 1 + count%3; reach <= 100; reach += 2 + reach/2 {
			ends[min(20, checkLayByModel(t, mixedProgram(t, count, uint32(count*100+reach)), reach))]++
			ends[min(20, checkLayByModel(t, thinProgram(t, count, uint32(count*100+reach)), reach))]++
			ends[min(20, checkLayByModel(t, wideProgram(t, count, reach%7+1), reach))]++
		}
	}
	for _, many := range []int{-1, 0, 1, 2, 5, 10, 20} {
		if ends[many] < 5 {
			t.Errorf("%d stones are told %d times only", many, ends[many])
		}
	}
}

// wideProgram is so many functions of ten instructions, the last of which name as many that are far away.
func wideProgram(t *testing.T, count int, names int) []impl.Fun {
	t.Helper()
	p := blocks(t, count, 10)
	for number := range p {
		for n := range names {
			p[number].Body[9-names+n] = impl.Ins{Op: impl.InsCall, Name: numbered((number*7 + n*5 + count/2) % count)}
		}
	}
	return p
}

// greatest is as many functions as there may be, of as many instructions, of which each names another one; what two neighbours name has nothing in common, and is far away.
func greatest(t *testing.T) []impl.Fun {
	t.Helper()
	p := blocks(t, 40, 10)
	for number := range p {
		ten := (number/10 + 3 - number%2) % 4
		for n := range 10 {
			p[number].Body[n] = impl.Ins{Op: impl.InsCall, Name: numbered(ten*10 + n)}
		}
		p[number].Body[9].Op = impl.InsGo
	}
	return p
}

// As many stones as there may be, and as many places.
func TestLayOfTheGreatest(t *testing.T) {
	p := greatest(t)
	l, code := impl.LayOf(p, 10)
	if code != impl.LayFine || impl.LayMany(l) != 400 || impl.LaySize(p, l) != 800 {
		t.Errorf("%d: %d stones, %d places", code, impl.LayMany(l), impl.LaySize(p, l))
	}
	last := p[39].Body[9].Name
	for from, want := range map[int]int{800: -1, 799: 799, 789: 799, 788: -1} {
		checkTo(t, p, l, 10, from, last, want)
	}
	checkLayOf(t, p, 9, impl.LayFar)
	for _, reach := range []int{9, 10, 11, 30, 99, 100} {
		checkLayByModel(t, p, reach)
	}
}

// Some stones, mixed, that a program may have as well as those that LayOf tells.
func TestLayToOfMixedLays(t *testing.T) {
	for _, count := range []int{1, 2, 5, 9} {
		for mix := range 12 {
			p := thinProgram(t, count, uint32(count*100+mix))
			stones := make([][]string, count)
			for number := range stones {
				for n := range count {
					if (number*5+n*3+mix)%4 == 0 {
						stones[number] = append(stones[number], p[(n*7+mix)%count].Name)
					}
				}
				slices.Sort(stones[number])
				stones[number] = slices.Compact(stones[number])
			}
			for _, reach := range []int{1, 3, 7, 20, 100} {
				checkToByModel(t, p, stones, reach)
			}
		}
	}
}

// spoilLay writes into all lists of one, and into their spare room.
func spoilLay(l impl.Lay) {
	for at := range l.At[:cap(l.At)] {
		l.At[:cap(l.At)][at] = 7777
	}
	for _, names := range l.Stones {
		spoil(names)
	}
	for at := range l.Stones[:cap(l.Stones)] {
		l.Stones[:cap(l.Stones)][at] = nil
	}
}

// roomyLay is a copy of one with marks behind the ends of its lists.
func roomyLay(l impl.Lay) impl.Lay {
	wide := impl.Lay{At: roomy(l.At, 5555)}
	for _, names := range l.Stones {
		wide.Stones = append(wide.Stones, roomy(names, "mark"))
	}
	wide.Stones = roomy(wide.Stones, []string{"mark"})
	return wide
}

// withRoom is one with what stands behind the ends of its lists.
func withRoom(l impl.Lay) impl.Lay {
	wide := impl.Lay{At: l.At[:len(l.At)+3]}
	for _, names := range l.Stones {
		wide.Stones = append(wide.Stones, names[:len(names)+3])
	}
	wide.Stones = append(wide.Stones, l.Stones[len(l.Stones):len(l.Stones)+3]...)
	return wide
}

// What is told shares no memory with what is told again, nor two of its lists with each other.
func TestLayOfIsNew(t *testing.T) {
	for _, p := range [][]impl.Fun{
		readProgram(t, "fun a\nret\n"), readProgram(t, layText), chain(t, 6), greatest(t),
		readProgram(t, "fun a\ngo z\n"), readProgram(t, "fun a\nret\n", "fun a\nret\n"), chain(t, 41), nil,
	} {
		for _, reach := range []int{0, 1, 2, 3, 4, 5, 10, 101} {
			wide, was := roomyUnit(p), roomyUnit(p)
			got, code := impl.LayOf(wide, reach)
			again, _ := impl.LayOf(wide, reach)
			if shareRoom(got.At, again.At) || shareRoom(got.Stones, again.Stones) || anyShare(got.Stones, again.Stones) || listsShare(got.Stones) {
				t.Errorf("LayOf of %q within %d shares memory", programText(p), reach)
			}
			want := copyLay(again)
			spoilLay(got)
			if more, end := impl.LayOf(wide, reach); end != code || !layIs(more, want) || !layIs(again, want) || !sameRoom(wide, was) {
				t.Errorf("LayOf of %q within %d is %v, and was %v", programText(p), reach, more, want)
			}
		}
	}
}

// Nothing is written into what is handed in, nor behind its ends.
func TestLayLeavesAllAsItWas(t *testing.T) {
	p := readProgram(t, layText)
	for _, l := range []impl.Lay{layWith(p), layWith(p, "c", "a"), layWith(p, "c b", "a", "a c b"), {}, layWith(p, "z"), layWith(p, "a a"), layWith(p[:2], "b"), layWith(p, "", "", "a b c")} {
		program, was := roomyUnit(p), roomyUnit(p)
		wide, wideWas := roomyLay(l), roomyLay(l)
		for reach := range 7 {
			impl.LayOk(program, reach, wide)
			for from := -1; from < 16; from++ {
				impl.LayTo(program, wide, reach, from, "a")
				impl.LayTo(program, wide, reach, from, "c")
			}
		}
		impl.LaySize(program, wide)
		impl.LayMany(wide)
		impl.LaySame(wide, l)
		impl.LaySame(l, wide)
		for number := range 4 {
			impl.LayStone(program, wide, number, 0)
		}
		if !layIs(withRoom(wide), withRoom(wideWas)) || !sameRoom(program, was) {
			t.Errorf("%v has been turned into %v", l, wide)
		}
	}
}

// Functions that share their instructions, and lists of stones that are one, are asked as others are.
func TestLayOfSharedLists(t *testing.T) {
	body := fun(t, "fun q", "say", "call h", "ret").Body
	p := []impl.Fun{{Name: "f", Body: body}, {Name: "g", Weak: true, Body: body[1:]}, {Name: "h", Body: body}}
	checkLayOf(t, p, 3, impl.LayFine, "h")
	for reach := 1; reach <= 6; reach++ {
		checkLayByModel(t, p, reach)
	}
	names := []string{"g", "h", "f"}
	shared := impl.Lay{At: []int{0, 6, 10}, Stones: [][]string{names, names[:2], names[1:]}}
	if !impl.LayOk(p, 3, shared) || impl.LaySize(p, shared) != 15 || impl.LayStone(p, shared, 2, 1) != 14 {
		t.Errorf("%v", shared)
	}
	checkTo(t, p, shared, 3, 10, "g", 8)
	checkTo(t, p, shared, 4, 10, "g", 6)
}
