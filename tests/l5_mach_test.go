package tests

import (
	"math"
	"reflect"
	"slices"
	"strconv"
	"strings"
	"testing"

	"loop.example/stepstone/impl"
)

// machText has each kind of instruction, and one that is called, one that goes on at itself, and one that nothing names.
const machText = "fun main\nsay\nadd 7\ncall f\nif g\nret\ngo main\nend\nfun f\nadd -7\nret\nfun g\nif g\ngo g\nweak h\nend\n"

// Places in machText.
var (
	atSay  = impl.Spot{}
	atAdd  = impl.Spot{Pc: 1}
	atCall = impl.Spot{Pc: 2}
	atIf   = impl.Spot{Pc: 3}
	atRet  = impl.Spot{Pc: 4}
	atGo   = impl.Spot{Pc: 5}
	atEnd  = impl.Spot{Pc: 6}
	inF    = impl.Spot{Fun: 1}
	inG    = impl.Spot{Fun: 2}
	inH    = impl.Spot{Fun: 3}
)

var machForm = impl.Mach{Code: impl.MachForm}

// spots is so many places of machText, no two neighbours of which are the same.
func spots(count int) []impl.Spot {
	var list []impl.Spot
	for n := range count {
		list = append(list, []impl.Spot{atIf, {Fun: 1, Pc: 1}, inH, atSay, {Fun: 2, Pc: 1}}[n%5])
	}
	return list
}

// numbers is so many numbers that can be said.
func numbers(count int) []int {
	var list []int
	for n := range count {
		list = append(list, []int{0, -1000, 1000, 1, -7}[n%5])
	}
	return list
}

// copyMach is the same in memory of its own.
func copyMach(m impl.Mach) impl.Mach {
	m.Stack, m.Outs = slices.Clone(m.Stack), slices.Clone(m.Outs)
	return m
}

// machIs says, part by part and otherwise than by MachSame, whether two are the same.
func machIs(a impl.Mach, b impl.Mach) bool {
	for _, m := range []*impl.Mach{&a, &b} {
		if len(m.Stack) == 0 {
			m.Stack = nil
		}
		if len(m.Outs) == 0 {
			m.Outs = nil
		}
	}
	return reflect.DeepEqual(a, b)
}

func checkStep(t *testing.T, p []impl.Fun, m impl.Mach, want impl.Mach) {
	t.Helper()
	if got := impl.MachStep(p, m); !machIs(got, want) {
		t.Errorf("MachStep of %q at %v is %v, not %v", programText(p), m, got, want)
	}
}

func checkMachOk(t *testing.T, p []impl.Fun, m impl.Mach, want bool) {
	t.Helper()
	if got := impl.MachOk(p, m); got != want {
		t.Errorf("MachOk of %q and %v is %v", programText(p), m, got)
	}
	if !want {
		checkStep(t, p, m, machForm)
	} else if got := impl.MachStep(p, m); !impl.MachOk(p, got) || m.Code == impl.MachGoes && got.Code == impl.MachForm {
		t.Errorf("MachStep of %q at %v is %v", programText(p), m, got)
	}
}

func TestMachConstants(t *testing.T) {
	codes := []int{impl.MachGoes, impl.MachFine, impl.MachDeep, impl.MachOff, impl.MachFull, impl.MachForm}
	if !slices.Equal(codes, []int{0, 1, 2, 3, 4, 5}) {
		t.Error("codes")
	}
	if impl.MachCall != 5 || impl.MachOuts != 30 || impl.MachFuel != 200 {
		t.Error("bounds")
	}
}

// notPrograms are functions that are no program, each for another reason.
func notPrograms(t *testing.T) [][]impl.Fun {
	t.Helper()
	list := [][]impl.Fun{
		nil, {}, {{}}, chain(t, 41), make([]impl.Fun, 1<<16),
		readProgram(t, "fun a\ngo z\n"), readProgram(t, "fun a\nend\nfun b\ncall z\nret\n"),
		readProgram(t, "fun a\nend\n", "fun a\nend\n"), readProgram(t, "fun a\nend\n", "weak b\nret\n", "fun b\nret\n"),
		{fun(t, "fun a", "say")}, {fun(t, "fun a", "end"), fun(t, "fun b")}, {fun(t, "fun A", "end")},
		{fun(t, "fun a", "say", "say", "say", "say", "say", "say", "say", "say", "say", "say", "ret")},
	}
	for _, i := range wrongIns {
		list = append(list, []impl.Fun{fun(t, "fun a", "end"), {Name: "b", Body: []impl.Ins{i, {Op: impl.InsRet}}}})
	}
	return list
}

func TestMachOfNoProgram(t *testing.T) {
	for _, p := range notPrograms(t) {
		for code := impl.MachGoes; code <= impl.MachForm; code++ {
			checkMachOk(t, p, impl.Mach{Code: code}, false)
		}
		for _, fuel := range []int{-1, 0, 1, 200, 201} {
			if got := impl.MachRun(p, fuel); !machIs(got, machForm) {
				t.Errorf("MachRun of %v, %d is %v", p, fuel, got)
			}
		}
	}
	for _, count := range []int{1, 5, 6, 40} {
		p := chain(t, count)
		checkMachOk(t, p, impl.Mach{At: impl.Spot{Fun: count - 1}}, true)
		if got := impl.MachRun(p, 200); !machIs(got, impl.Mach{At: impl.Spot{Fun: 200 % count}}) {
			t.Errorf("MachRun of %d functions in a ring is %v", count, got)
		}
	}
}

func TestMachOkByPlaces(t *testing.T) {
	p := readProgram(t, machText)
	place := func(s impl.Spot, want bool) {
		t.Helper()
		checkMachOk(t, p, impl.Mach{At: s}, want)
		for count := range impl.MachCall {
			for at := range count + 1 {
				checkMachOk(t, p, impl.Mach{At: atRet, Stack: slices.Insert(spots(count), at, s)}, want)
				checkMachOk(t, p, impl.Mach{At: atSay, Stack: slices.Insert(spots(count), at, s), Code: impl.MachOff}, want)
			}
		}
	}
	for number, f := range p {
		for pc := range f.Body {
			place(impl.Spot{Fun: number, Pc: pc}, true)
		}
		for _, pc := range []int{-1, -2, len(f.Body), len(f.Body) + 1, 10, 11, math.MinInt, math.MaxInt} {
			place(impl.Spot{Fun: number, Pc: pc}, false)
		}
	}
	for _, number := range []int{-1, -2, len(p), len(p) + 1, 40, math.MinInt, math.MaxInt} {
		for _, pc := range []int{-1, 0, 1, 6, 7} {
			place(impl.Spot{Fun: number, Pc: pc}, false)
		}
	}
}

func TestMachOkByNumbers(t *testing.T) {
	p := readProgram(t, machText)
	for _, n := range []int{0, 1, -1, 999, -999, 1000, -1000, 1001, -1001, math.MaxInt, math.MinInt} {
		fine := n >= -1000 && n <= 1000
		checkMachOk(t, p, impl.Mach{Acc: n}, fine)
		checkMachOk(t, p, impl.Mach{Acc: n, Code: impl.MachFine}, fine)
		for _, count := range []int{0, 1, 2, 29} {
			for _, at := range []int{0, count / 2, count} {
				checkMachOk(t, p, impl.Mach{Outs: slices.Insert(numbers(count), at, n)}, fine)
			}
		}
	}
}

func TestMachOkByLengthsAndCodes(t *testing.T) {
	p := readProgram(t, machText)
	for _, s := range []impl.Spot{atSay, atCall, atRet, atEnd, inF, inG} {
		for _, count := range []int{0, 1, 4, 5, 6, 7, 30, 31, 1 << 16} {
			checkMachOk(t, p, impl.Mach{At: s, Stack: spots(count)}, count <= 5)
			checkMachOk(t, p, impl.Mach{At: s, Outs: numbers(count)}, count <= 30)
			checkMachOk(t, p, impl.Mach{At: s, Outs: numbers(30), Stack: spots(count)}, count <= 5)
			checkMachOk(t, p, impl.Mach{At: s, Outs: numbers(count), Stack: spots(5)}, count <= 30)
		}
		for _, code := range []int{-2, -1, 0, 1, 2, 3, 4, 5, 6, 7, math.MinInt, math.MaxInt} {
			checkMachOk(t, p, impl.Mach{At: s, Code: code}, code >= 0 && code <= 5)
			checkMachOk(t, p, impl.Mach{At: s, Stack: spots(5), Outs: numbers(30), Code: code}, code >= 0 && code <= 5)
		}
	}
	checkMachOk(t, p, impl.Mach{Stack: []impl.Spot{}, Outs: []int{}}, true)
}

func TestMachSame(t *testing.T) {
	base := impl.Mach{At: impl.Spot{Fun: 1, Pc: 2}, Acc: 3, Stack: []impl.Spot{{Fun: 4, Pc: 5}, {Fun: 6, Pc: 7}}, Outs: []int{8, 9}, Code: 1}
	turns := []func(*impl.Mach){
		func(m *impl.Mach) { m.At.Fun = 2 },
		func(m *impl.Mach) { m.At.Pc = 1 },
		func(m *impl.Mach) { m.At = impl.Spot{Fun: 2, Pc: 1} },
		func(m *impl.Mach) { m.Acc = -3 },
		func(m *impl.Mach) { m.Code = 0 },
		func(m *impl.Mach) { m.Stack[0].Fun = 0 },
		func(m *impl.Mach) { m.Stack[0].Pc = 0 },
		func(m *impl.Mach) { m.Stack[1].Fun = 0 },
		func(m *impl.Mach) { m.Stack[1].Pc = 0 },
		func(m *impl.Mach) { slices.Reverse(m.Stack) },
		func(m *impl.Mach) { m.Stack = m.Stack[:1] },
		func(m *impl.Mach) { m.Stack = m.Stack[1:] },
		func(m *impl.Mach) { m.Stack = nil },
		func(m *impl.Mach) { m.Stack = append(m.Stack, impl.Spot{}) },
		func(m *impl.Mach) { m.Outs[0] = 0 },
		func(m *impl.Mach) { m.Outs[1] = 0 },
		func(m *impl.Mach) { slices.Reverse(m.Outs) },
		func(m *impl.Mach) { m.Outs = m.Outs[:1] },
		func(m *impl.Mach) { m.Outs = m.Outs[1:] },
		func(m *impl.Mach) { m.Outs = nil },
		func(m *impl.Mach) { m.Outs = append(m.Outs, 0) },
		func(m *impl.Mach) { *m = impl.Mach{} },
	}
	all := []impl.Mach{base}
	for _, turn := range turns {
		m := copyMach(base)
		turn(&m)
		all = append(all, m)
	}
	for i, a := range all {
		for j, b := range all {
			if got := impl.MachSame(copyMach(a), copyMach(b)); got != (i == j) {
				t.Errorf("MachSame of %v and %v is %v", a, b, got)
			}
		}
	}
	for _, a := range []impl.Mach{{}, {Stack: []impl.Spot{}}, {Outs: []int{}}, {Stack: []impl.Spot{}, Outs: []int{}}, {Stack: make([]impl.Spot, 0, 9), Outs: make([]int, 0, 9)}} {
		if !impl.MachSame(a, impl.Mach{}) || !impl.MachSame(impl.Mach{}, a) {
			t.Errorf("%v is not nothing", a)
		}
	}
	// What is not ok is held against another part by part too.
	odd := impl.Mach{At: impl.Spot{Fun: -1, Pc: math.MaxInt}, Acc: math.MinInt, Stack: make([]impl.Spot, 99), Outs: []int{5000}, Code: 77}
	other := copyMach(odd)
	if !impl.MachSame(odd, other) {
		t.Error("what is not ok is not itself")
	}
	if other.Stack[98].Pc = 1; impl.MachSame(odd, other) {
		t.Error("what is not ok is the same as another")
	}
}

func TestMachStepSay(t *testing.T) {
	p := readProgram(t, machText)
	for _, count := range []int{0, 1, 28, 29} {
		for _, acc := range []int{0, 5, 1000, -1000} {
			m := impl.Mach{Acc: acc, Stack: spots(2), Outs: numbers(count)}
			checkStep(t, p, m, impl.Mach{At: atAdd, Acc: acc, Stack: spots(2), Outs: append(numbers(count), acc)})
		}
	}
	checkStep(t, p, impl.Mach{Acc: 9, Stack: spots(5), Outs: numbers(30)}, impl.Mach{Acc: 9, Stack: spots(5), Outs: numbers(30), Code: impl.MachFull})
}

// sums is what is held, what is added to it, and what is held then.
var sums = []struct{ acc, n, want int }{
	{0, 0, 0}, {0, 5, 5}, {3, -5, -2}, {-3, 5, 2}, {-3, 3, 0},
	{999, 1, 1000}, {1000, 1, 1000}, {999, 2, 1000}, {1000, 1000, 1000}, {1000, 0, 1000}, {1000, -1, 999}, {1000, -1000, 0},
	{-999, -1, -1000}, {-1000, -1, -1000}, {-999, -2, -1000}, {-1000, -1000, -1000}, {-1000, 0, -1000}, {-1000, 1, -999}, {-1000, 1000, 0},
}

func TestMachStepAdd(t *testing.T) {
	for _, x := range sums {
		p := readProgram(t, "fun a\nsay\nadd "+strconv.Itoa(x.n)+"\nend\n")
		stack := []impl.Spot{{Pc: 2}}
		checkStep(t, p, impl.Mach{At: atAdd, Acc: x.acc, Stack: stack, Outs: numbers(30)}, impl.Mach{At: impl.Spot{Pc: 2}, Acc: x.want, Stack: stack, Outs: numbers(30)})
	}
}

func TestMachStepCall(t *testing.T) {
	p := readProgram(t, machText)
	for count := range impl.MachCall {
		m := impl.Mach{At: atCall, Acc: -4, Stack: spots(count), Outs: numbers(30)}
		checkStep(t, p, m, impl.Mach{At: inF, Acc: -4, Stack: append(spots(count), atIf), Outs: numbers(30)})
	}
	// One too deep.
	m := impl.Mach{At: atCall, Acc: -4, Stack: spots(5), Outs: numbers(3)}
	checkStep(t, p, m, impl.Mach{At: atCall, Acc: -4, Stack: spots(5), Outs: numbers(3), Code: impl.MachDeep})
	// The function of that name, be it itself, ahead, behind, or weak; the place right behind, be it the last.
	for text, want := range map[string]impl.Spot{"fun a\nend\nfun b\nsay\ncall b\nret\n": {Fun: 1}, "fun a\nend\nfun b\nsay\ncall a\nret\n": {}, "fun a\nend\nfun b\nsay\ncall c\nret\nweak c\nend\n": {Fun: 2}} {
		checkStep(t, readProgram(t, text), impl.Mach{At: impl.Spot{Fun: 1, Pc: 1}}, impl.Mach{At: want, Stack: []impl.Spot{{Fun: 1, Pc: 2}}})
	}
}

func TestMachStepGo(t *testing.T) {
	p := readProgram(t, machText)
	for _, acc := range []int{-1, 0, 1} {
		checkStep(t, p, impl.Mach{At: atGo, Acc: acc, Stack: spots(5), Outs: numbers(30)}, impl.Mach{Acc: acc, Stack: spots(5), Outs: numbers(30)})
		checkStep(t, p, impl.Mach{At: impl.Spot{Fun: 2, Pc: 1}, Acc: acc}, impl.Mach{At: inG, Acc: acc})
	}
	// To itself, of which the place is not turned, and yet it is not the next.
	itself := readProgram(t, "fun a\ngo a\nsay\nend\nfun b\ngo b\nend\n")
	checkStep(t, itself, impl.Mach{Acc: 2}, impl.Mach{Acc: 2})
	checkStep(t, itself, impl.Mach{At: inF}, impl.Mach{At: inF})
	if got := impl.MachRun(itself, 200); !machIs(got, impl.Mach{}) {
		t.Errorf("what goes on at itself is %v", got)
	}
}

func TestMachStepIf(t *testing.T) {
	p := readProgram(t, machText)
	for acc, above := range map[int]bool{1: true, 0: false, -1: false, 1000: true, -1000: false, 2: true} {
		m := impl.Mach{At: atIf, Acc: acc, Stack: spots(5), Outs: numbers(30)}
		want := copyMach(m)
		// From an if that stands first in its function, and names that, one comes to itself.
		itself := impl.Mach{At: inG, Acc: acc}
		if want.At = atRet; above {
			want.At = inG
		} else {
			itself.At = impl.Spot{Fun: 2, Pc: 1}
		}
		checkStep(t, p, m, want)
		checkStep(t, p, impl.Mach{At: inG, Acc: acc}, itself)
	}
}

func TestMachStepRet(t *testing.T) {
	p := readProgram(t, machText)
	for _, at := range []impl.Spot{atRet, {Fun: 1, Pc: 1}} {
		// From the outermost.
		m := impl.Mach{At: at, Acc: 8, Outs: numbers(30)}
		checkStep(t, p, m, impl.Mach{At: at, Acc: 8, Outs: numbers(30), Code: impl.MachOff})
		checkStep(t, p, impl.Mach{At: at, Stack: []impl.Spot{}}, impl.Mach{At: at, Code: impl.MachOff})
		for count := 1; count <= impl.MachCall; count++ {
			m := impl.Mach{At: at, Acc: 8, Stack: spots(count), Outs: numbers(2)}
			checkStep(t, p, m, impl.Mach{At: spots(count)[count-1], Acc: 8, Stack: spots(count)[:count-1], Outs: numbers(2)})
		}
		// To itself, which is where one is then, and not the next.
		checkStep(t, p, impl.Mach{At: at, Stack: []impl.Spot{inH, at}}, impl.Mach{At: at, Stack: []impl.Spot{inH}})
	}
}

func TestMachStepEnd(t *testing.T) {
	p := readProgram(t, machText)
	for _, at := range []impl.Spot{atEnd, inH} {
		for count := range impl.MachCall + 1 {
			m := impl.Mach{At: at, Acc: -8, Stack: spots(count), Outs: numbers(30 - count)}
			want := copyMach(m)
			want.Code = impl.MachFine
			checkStep(t, p, m, want)
		}
	}
}

// One that has ended stays as it is, wherever it is, whatever is to be done there.
func TestMachStepOfEnded(t *testing.T) {
	p := readProgram(t, machText)
	for code := impl.MachFine; code <= impl.MachForm; code++ {
		for number, f := range p {
			for pc := range f.Body {
				for _, count := range []int{0, 1, 5} {
					m := impl.Mach{At: impl.Spot{Fun: number, Pc: pc}, Acc: 1, Stack: spots(count), Outs: numbers(count * 6), Code: code}
					checkStep(t, p, m, copyMach(m))
				}
			}
		}
	}
}

func TestMachRunByFuel(t *testing.T) {
	p := readProgram(t, "fun a\nadd 1\ngo a\n")
	for _, fuel := range []int{0, 1, 2, 3, 99, 100, 199, 200} {
		if got := impl.MachRun(p, fuel); !machIs(got, impl.Mach{At: impl.Spot{Pc: fuel % 2}, Acc: (fuel + 1) / 2}) {
			t.Errorf("MachRun with the fuel %d is %v", fuel, got)
		}
	}
	for _, text := range []string{"fun a\nadd 1\ngo a\n", "fun a\nend\n", "fun a\nret\n", machText} {
		if got := impl.MachRun(readProgram(t, text), 0); !machIs(got, impl.Mach{}) {
			t.Errorf("the beginning of %q is %v", text, got)
		}
		for _, fuel := range []int{-1, -2, -200, 201, 202, math.MinInt, math.MaxInt} {
			if got := impl.MachRun(readProgram(t, text), fuel); !machIs(got, machForm) {
				t.Errorf("MachRun of %q with the fuel %d is %v", text, fuel, got)
			}
		}
	}
}

// Programs that end: after how many steps, and as what.
func TestMachRunStaysWhereItEnded(t *testing.T) {
	five := []impl.Spot{{Pc: 1}, {Fun: 1, Pc: 2}, {Fun: 1, Pc: 2}, {Fun: 1, Pc: 2}, {Fun: 1, Pc: 2}}
	for _, x := range []struct {
		text  string
		steps int
		want  impl.Mach
	}{
		{"fun a\nend\n", 1, impl.Mach{Code: impl.MachFine}},
		{"fun a\nadd 4\nsay\ncall b\nret\nfun b\nadd 1\nsay\nend\n", 6, impl.Mach{At: impl.Spot{Fun: 1, Pc: 2}, Acc: 5, Stack: []impl.Spot{{Pc: 3}}, Outs: []int{4, 5}, Code: impl.MachFine}},
		{"fun a\nret\n", 1, impl.Mach{Code: impl.MachOff}},
		{"fun a\nsay\ncall b\nret\nfun b\nadd -3\nret\n", 5, impl.Mach{At: impl.Spot{Pc: 2}, Acc: -3, Outs: []int{0}, Code: impl.MachOff}},
		{"fun a\ncall b\nend\nfun b\nsay\ncall b\nend\n", 11, impl.Mach{At: impl.Spot{Fun: 1, Pc: 1}, Stack: five, Outs: []int{0, 0, 0, 0, 0}, Code: impl.MachDeep}},
		{"fun a\nsay\ngo a\n", 61, impl.Mach{Outs: make([]int, 30), Code: impl.MachFull}},
		{"fun a\nadd 1\ncall b\ngo a\nfun b\nsay\nret\n", 30*5 + 3, impl.Mach{At: inF, Acc: 31, Stack: []impl.Spot{{Pc: 2}}, Outs: upTo(30), Code: impl.MachFull}},
	} {
		p := readProgram(t, x.text)
		if got := impl.MachRun(p, x.steps-1); got.Code != impl.MachGoes {
			t.Errorf("%q has ended after %d steps: %v", x.text, x.steps-1, got)
		}
		for fuel := x.steps; fuel <= impl.MachFuel; fuel++ {
			if got := impl.MachRun(p, fuel); !machIs(got, x.want) {
				t.Errorf("MachRun of %q with the fuel %d is %v, not %v", x.text, fuel, got, x.want)
			}
		}
		checkStep(t, p, x.want, copyMach(x.want))
	}
}

// upTo is the numbers from 1 on.
func upTo(last int) []int {
	var list []int
	for n := range last {
		list = append(list, n+1)
	}
	return list
}

// What takes as many steps as there is fuel has ended, and what takes one more has not.
func TestMachRunEndsWithItsFuel(t *testing.T) {
	for _, x := range []struct {
		head  string
		steps int
	}{
		{"fun a\nadd 98\ngo b\n", 199}, {"fun a\nsay\nadd 98\ngo b\n", 200}, {"fun a\nadd 99\ngo b\n", 201}, {"fun a\nsay\nadd 99\ngo b\n", 202},
	} {
		p := readProgram(t, x.head+"fun b\nadd -1\nif b\nend\n")
		want := impl.MachGoes
		if x.steps <= impl.MachFuel {
			want = impl.MachFine
		}
		if got := impl.MachRun(p, impl.MachFuel); got.Code != want {
			t.Errorf("what takes %d steps is %v", x.steps, got)
		}
		if got := impl.MachRun(p, min(x.steps-1, impl.MachFuel)); got.Code != impl.MachGoes {
			t.Errorf("what takes %d steps is %v ahead of the last", x.steps, got)
		}
	}
}

// lineMach runs the text of a program, line by line, otherwise than by functions and places in them.
type lineMach struct {
	lines []string
	line  int
	acc   int
	back  []int
	outs  []int
	code  int
}

func lineMachOf(p []impl.Fun) *lineMach {
	return &lineMach{lines: strings.Split(programText(p), "\n"), line: 1}
}

// label is the line right behind the one with which the function of that name begins.
func (m *lineMach) label(name string) int {
	return 1 + slices.IndexFunc(m.lines, func(line string) bool { return line == "fun "+name || line == "weak "+name })
}

func (m *lineMach) step() {
	word, rest, _ := strings.Cut(m.lines[m.line], " ")
	switch {
	case m.code != 0:
	case word == "end":
		m.code = 1
	case word == "call" && len(m.back) == 5:
		m.code = 2
	case word == "ret" && len(m.back) == 0:
		m.code = 3
	case word == "say" && len(m.outs) == 30:
		m.code = 4
	case word == "call":
		m.back, m.line = append(m.back, m.line+1), m.label(rest)
	case word == "go", word == "if" && m.acc > 0:
		m.line = m.label(rest)
	case word == "ret":
		m.line, m.back = m.back[len(m.back)-1], m.back[:len(m.back)-1]
	default:
		switch word {
		case "say":
			m.outs = append(m.outs, m.acc)
		case "add":
			n, _ := strconv.Atoi(rest)
			m.acc = max(-1000, min(1000, m.acc+n))
		}
		m.line++
	}
}

// spot is a line as a place.
func (m *lineMach) spot(line int) impl.Spot {
	s := impl.Spot{Fun: -1}
	for _, text := range m.lines[:line] {
		s.Pc++
		if strings.HasPrefix(text, "fun ") || strings.HasPrefix(text, "weak ") {
			s = impl.Spot{Fun: s.Fun + 1}
		}
	}
	return s
}

func (m *lineMach) mach() impl.Mach {
	all := impl.Mach{At: m.spot(m.line), Acc: m.acc, Outs: slices.Clone(m.outs), Code: m.code}
	for _, line := range m.back {
		all.Stack = append(all.Stack, m.spot(line))
	}
	return all
}

// checkRuns asks, for each fuel up to a most, that a run is what the lines do, and what one more step makes of the run ahead; it tells how it ends.
func checkRuns(t *testing.T, p []impl.Fun, most int) int {
	t.Helper()
	lines := lineMachOf(p)
	stepped := impl.MachRun(p, 0)
	for fuel := range most + 1 {
		got, want := impl.MachRun(p, fuel), lines.mach()
		if !machIs(got, want) || !impl.MachOk(p, got) || !impl.MachSame(got, want) {
			t.Errorf("MachRun of %q with the fuel %d is %v, not %v", programText(p), fuel, got, want)
			break
		}
		if !machIs(stepped, got) {
			t.Errorf("%q: %d steps are %v, and a run of that fuel %v", programText(p), fuel, stepped, got)
			break
		}
		stepped = impl.MachStep(p, stepped)
		lines.step()
	}
	return stepped.Code
}

// Each program of two functions, of up to three and of two instructions of these, does line by line what its text says.
func TestMachOfEachSmallProgram(t *testing.T) {
	inner := []string{"say", "add 1", "add -1", "call a", "call b", "if a", "if b"}
	last := []string{"ret", "end", "go a", "go b"}
	var firsts, seconds []impl.Fun
	for _, z := range last {
		seconds = append(seconds, fun(t, "weak b", z))
		for _, x := range inner {
			seconds = append(seconds, fun(t, "weak b", x, z))
			for _, y := range inner {
				firsts = append(firsts, fun(t, "fun a", x, y, z))
			}
		}
	}
	codes := map[int]int{}
	for _, a := range firsts {
		for _, b := range seconds {
			codes[checkRuns(t, []impl.Fun{a, b}, 12)]++
		}
	}
	for _, code := range []int{impl.MachGoes, impl.MachFine, impl.MachDeep, impl.MachOff} {
		if codes[code] < 100 {
			t.Errorf("the code %d is told %d times only", code, codes[code])
		}
	}
}

// mixedProgram is a program of so many functions whose instructions are mixed by a number, the same for the same number.
func mixedProgram(t *testing.T, count int, mix uint32) []impl.Fun {
	t.Helper()
	pick := func(n int) int {
		mix = mix*1664525 + 1013904223
		return int(mix>>16) % n
	}
	var p []impl.Fun
	for n := range count {
		var lines []string
		for range pick(impl.FunLong) {
			line := []string{"say", "say", "add " + strconv.Itoa(pick(9)-4), "add " + strconv.Itoa(pick(2001)-1000), "call ", "if "}[pick(6)]
			if strings.HasSuffix(line, " ") {
				line += numbered(pick(count))
			}
			lines = append(lines, line)
		}
		last := []string{"ret", "ret", "ret", "end", "go " + numbered(pick(count))}[pick(5)]
		p = append(p, fun(t, "fun "+numbered(n), append(lines, last)...))
	}
	return p
}

// Greater programs do so too, up to the most fuel.
func TestMachOfGreatPrograms(t *testing.T) {
	codes := map[int]int{}
	for count := 1; count <= 40; count++ {
		for mix := range 4 {
			codes[checkRuns(t, mixedProgram(t, count, uint32(count*100+mix)), impl.MachFuel)]++
		}
	}
	for code := impl.MachGoes; code <= impl.MachFull; code++ {
		if codes[code] < 5 {
			t.Errorf("the code %d is told %d times only", code, codes[code])
		}
	}
}

// spoilMach writes into all lists of one, and into their spare room.
func spoilMach(m impl.Mach) {
	for at := range m.Stack[:cap(m.Stack)] {
		m.Stack[:cap(m.Stack)][at] = impl.Spot{Fun: 77, Pc: 77}
	}
	for at := range m.Outs[:cap(m.Outs)] {
		m.Outs[:cap(m.Outs)][at] = 7777
	}
}

// roomyMach is a copy of one with marks behind the ends of its lists.
func roomyMach(m impl.Mach) impl.Mach {
	m.Stack, m.Outs = roomy(m.Stack, impl.Spot{Fun: 55, Pc: 55}), roomy(m.Outs, 5555)
	return m
}

func sameRoomMach(a impl.Mach, b impl.Mach) bool {
	return machIs(a, b) && slices.Equal(a.Stack[:len(a.Stack)+3], b.Stack[:len(b.Stack)+3]) && slices.Equal(a.Outs[:len(a.Outs)+3], b.Outs[:len(b.Outs)+3])
}

func machsShare(a impl.Mach, b impl.Mach) bool {
	return shareRoom(a.Stack, b.Stack) || shareRoom(a.Outs, b.Outs)
}

// listsOverlap says whether Stack and Outs of one lie in the same memory, though they are lists of other things.
func listsOverlap(m impl.Mach) bool {
	stack, outs := reflect.ValueOf(m.Stack), reflect.ValueOf(m.Outs)
	stackEnd := stack.Pointer() + uintptr(stack.Cap())*stack.Type().Elem().Size()
	outsEnd := outs.Pointer() + uintptr(outs.Cap())*outs.Type().Elem().Size()
	return stack.Pointer() < outsEnd && outs.Pointer() < stackEnd
}

// Nothing is written into what is handed in, nor behind its ends; what is answered shares no memory with it, nor with another answer.
func TestMachStepLeavesAllAsItWas(t *testing.T) {
	p, program := roomyUnit(readProgram(t, machText)), roomyUnit(readProgram(t, machText))
	ats := []impl.Spot{atSay, atAdd, atCall, atIf, atRet, atGo, atEnd, inF, inG, inH, {Fun: 9}}
	for _, at := range ats {
		for code := impl.MachGoes; code <= impl.MachForm+1; code++ {
			for _, calls := range []int{0, 1, 4, 5, 6} {
				for _, outs := range []int{0, 1, 29, 30, 31} {
					one := impl.Mach{At: at, Acc: 1, Stack: spots(calls), Outs: numbers(outs), Code: code}
					m, was := roomyMach(one), roomyMach(one)
					impl.MachOk(p, m)
					impl.MachSame(m, m)
					got, again := impl.MachStep(p, m), impl.MachStep(p, m)
					if machsShare(got, m) || machsShare(got, again) || listsOverlap(got) {
						t.Errorf("MachStep of %v shares memory", one)
					}
					spoilMach(got)
					if !sameRoomMach(m, was) || !sameRoom(p, program) {
						t.Errorf("%v has been turned into %v, or its program into %v", one, m, p)
					}
				}
			}
		}
	}
}

func TestMachRunLeavesAllAsItWas(t *testing.T) {
	for _, text := range []string{machText, "fun a\nsay\ngo a\n", "fun a\nsay\ncall a\nret\n", "fun a\nret\n", "fun a\nend\n", "fun a\ngo z\n"} {
		p, was := roomyUnit(readProgram(t, text)), roomyUnit(readProgram(t, text))
		for _, fuel := range []int{-1, 0, 1, 2, 9, 60, 200, 201} {
			got, again := impl.MachRun(p, fuel), impl.MachRun(p, fuel)
			want := copyMach(again)
			if machsShare(got, again) || listsOverlap(got) {
				t.Errorf("MachRun of %q, %d shares memory", text, fuel)
			}
			spoilMach(got)
			if more := impl.MachRun(p, fuel); !machIs(again, want) || !machIs(more, want) || !sameRoom(p, was) {
				t.Errorf("MachRun of %q, %d is %v, and was %v", text, fuel, more, want)
			}
		}
	}
}

// One whose lists have parts of one memory, and functions that share their instructions, are stepped as others are.
func TestMachOfSharedLists(t *testing.T) {
	body := fun(t, "fun q", "call a", "say", "ret").Body
	p := []impl.Fun{{Name: "a", Body: body[1:]}, {Name: "b", Body: body}}
	stack, outs := make([]impl.Spot, 5), make([]int, 30)
	m := impl.Mach{At: inF, Stack: stack[:2], Outs: outs[:3]}
	got := impl.MachStep(p, m)
	if !machIs(got, impl.Mach{Stack: []impl.Spot{{}, {}, {Fun: 1, Pc: 1}}, Outs: make([]int, 3)}) || machsShare(got, m) {
		t.Errorf("%v", got)
	}
	more := impl.MachStep(p, got)
	if more.Outs = append(more.Outs, 9); len(got.Outs) != 3 || machsShare(more, got) {
		t.Errorf("%v, %v", got, more)
	}
	if !slices.Equal(stack, make([]impl.Spot, 5)) || !slices.Equal(outs, make([]int, 30)) {
		t.Errorf("%v, %v are written behind their ends", stack, outs)
	}
}
