package tests

import (
	"math"
	"slices"
	"strconv"
	"strings"
	"testing"

	"loop.example/stepstone/impl"
)

// Places in cpuText.
const (
	farToAdd  = 0
	placeSay  = 1
	placeAdd  = 2
	placeCall = 3
	placeIf   = 4
	placeGo   = 5
	placeRet  = 6
	placeEnd  = 7
	farToSub  = 10
	sayToFar  = 14
	lastFar   = 15
)

// stops is so many places of cpuText, stones among them, no two neighbours of which are the same.
func stops(count int) []int {
	var list []int
	for n := range count {
		list = append(list, []int{placeRet, farToSub, placeEnd, placeSay, lastFar}[n%5])
	}
	return list
}

// noImages is places that are none, each for another reason.
func noImages(t *testing.T) [][]impl.Cell {
	t.Helper()
	list := [][]impl.Cell{
		nil, {}, {{}}, slices.Repeat(cells(t, "end\n"), 801), make([]impl.Cell, 1<<16), slices.Repeat([]impl.Cell{{Op: impl.CellFar}}, 10), {{Op: 1 << 32, N: 1 << 40}, {Op: impl.InsEnd}},
		around(300, 0, impl.Cell{Op: impl.InsGo, N: 101}), around(300, 200, impl.Cell{Op: impl.InsCall, N: -101}),
	}
	for _, text := range []string{
		"say\n", "far 0\n", "far 1\nfar 0\n", "end\nadd 0\n", "end\nif -1\n", "end\ncall 0\n", "go 1\n", "go -1\n", "add 1001\nend\n", "add -1001\nend\n", "end 1\n", "say -1\nend\n", "ret 16\nend\n", "far 2\nend\n", "far -1\nend\n",
	} {
		list = append(list, cells(t, text))
	}
	return list
}

func TestCpuOfNoImage(t *testing.T) {
	for _, c := range noImages(t) {
		for code := impl.MachGoes; code <= impl.MachForm; code++ {
			checkCpuOk(t, c, impl.Cpu{Code: code}, false)
		}
		for _, fuel := range []int{-1, 0, 1, 200, 201} {
			checkCpuRun(t, c, fuel, cpuForm)
		}
	}
}

// An image that is ok within LayReach alone is run all the same.
func TestCpuOfTheWidestImages(t *testing.T) {
	wide := around(101, 0, impl.Cell{Op: impl.InsGo, N: 100})
	wide[100] = impl.Cell{Op: impl.InsGo, N: -100}
	for fuel := range 6 {
		checkCpuRun(t, wide, fuel, impl.Cpu{Pc: fuel % 2 * 100})
	}
	// As many places as there may be, to the last of which a stone leads.
	most := around(800, 0, impl.Cell{Op: impl.CellFar, N: 799})
	checkCpuRun(t, most, 1, impl.Cpu{Pc: 799, Code: impl.MachFine})
	checkCpuOk(t, most, impl.Cpu{Pc: 799, Stack: []int{799, 0}}, true)
	checkCpuOk(t, most, impl.Cpu{Pc: 800}, false)
	checkCpuOk(t, most, impl.Cpu{Stack: []int{800}}, false)
	// All numbers that a place may have, and each is added as it is.
	for n := -1000; n <= 1000; n++ {
		checkCpuRun(t, []impl.Cell{{Op: impl.InsAdd, N: n}, {Op: impl.InsEnd}}, 1, impl.Cpu{Pc: 1, Acc: n})
	}
	// All ways from the middle, and stones to all places.
	for n := -100; n <= 100; n++ {
		checkCpuStep(t, around(201, 100, impl.Cell{Op: impl.InsGo, N: n}), impl.Cpu{Pc: 100}, impl.Cpu{Pc: 100 + n})
	}
	for at := 1; at < 800; at++ {
		checkCpuStep(t, around(800, 0, impl.Cell{Op: impl.CellFar, N: at}), impl.Cpu{}, impl.Cpu{Pc: at, Code: impl.MachFine})
	}
}

func TestCpuOkByPlaces(t *testing.T) {
	c := cells(t, cpuText)
	place := func(at int, want bool) {
		t.Helper()
		checkCpuOk(t, c, impl.Cpu{Pc: at}, want)
		for count := range impl.MachCall {
			for n := range count + 1 {
				checkCpuOk(t, c, impl.Cpu{Pc: placeRet, Stack: slices.Insert(stops(count), n, at)}, want)
				checkCpuOk(t, c, impl.Cpu{Pc: farToAdd, Stack: slices.Insert(stops(count), n, at), Code: impl.MachOff}, want)
			}
		}
	}
	for at := range c {
		place(at, true)
	}
	for _, at := range []int{-1, -2, len(c), len(c) + 1, 799, 800, math.MinInt, math.MaxInt} {
		place(at, false)
	}
}

func TestCpuOkByNumbers(t *testing.T) {
	c := cells(t, cpuText)
	for _, n := range []int{0, 1, -1, 999, -999, 1000, -1000, 1001, -1001, math.MaxInt, math.MinInt} {
		fine := n >= -1000 && n <= 1000
		checkCpuOk(t, c, impl.Cpu{Acc: n}, fine)
		checkCpuOk(t, c, impl.Cpu{Acc: n, Code: impl.MachFine}, fine)
		for _, count := range []int{0, 1, 2, 29} {
			for _, at := range []int{0, count / 2, count} {
				checkCpuOk(t, c, impl.Cpu{Outs: slices.Insert(numbers(count), at, n)}, fine)
			}
		}
	}
}

func TestCpuOkByLengthsAndCodes(t *testing.T) {
	c := cells(t, cpuText)
	for at := range c {
		for _, count := range []int{0, 1, 4, 5, 6, 7, 30, 31, 1 << 12} {
			checkCpuOk(t, c, impl.Cpu{Pc: at, Stack: stops(count)}, count <= 5)
			checkCpuOk(t, c, impl.Cpu{Pc: at, Outs: numbers(count)}, count <= 30)
			checkCpuOk(t, c, impl.Cpu{Pc: at, Outs: numbers(30), Stack: stops(count)}, count <= 5)
			checkCpuOk(t, c, impl.Cpu{Pc: at, Outs: numbers(count), Stack: stops(5)}, count <= 30)
		}
		for _, code := range []int{-2, -1, 0, 1, 2, 3, 4, 5, 6, 7, math.MinInt, math.MaxInt} {
			checkCpuOk(t, c, impl.Cpu{Pc: at, Code: code}, code >= 0 && code <= 5)
			checkCpuOk(t, c, impl.Cpu{Pc: at, Stack: stops(5), Outs: numbers(30), Code: code}, code >= 0 && code <= 5)
		}
	}
	checkCpuOk(t, c, impl.Cpu{Stack: []int{}, Outs: []int{}}, true)
}

func TestCpuSame(t *testing.T) {
	base := impl.Cpu{Pc: 2, Acc: 3, Stack: []int{5, 6}, Outs: []int{8, 9}, Code: 1}
	all := []impl.Cpu{base}
	for _, turn := range []func(*impl.Cpu){
		func(m *impl.Cpu) { m.Pc = 1 },
		func(m *impl.Cpu) { m.Acc = -3 },
		func(m *impl.Cpu) { m.Pc, m.Acc = m.Acc, m.Pc },
		func(m *impl.Cpu) { m.Code = 0 },
		func(m *impl.Cpu) { m.Stack[0] = 0 },
		func(m *impl.Cpu) { m.Stack[1] = 0 },
		func(m *impl.Cpu) { slices.Reverse(m.Stack) },
		func(m *impl.Cpu) { m.Stack = m.Stack[:1] },
		func(m *impl.Cpu) { m.Stack = m.Stack[1:] },
		func(m *impl.Cpu) { m.Stack = nil },
		func(m *impl.Cpu) { m.Stack = append(m.Stack, 0) },
		func(m *impl.Cpu) { m.Outs[0] = 0 },
		func(m *impl.Cpu) { m.Outs[1] = 0 },
		func(m *impl.Cpu) { slices.Reverse(m.Outs) },
		func(m *impl.Cpu) { m.Outs = m.Outs[:1] },
		func(m *impl.Cpu) { m.Outs = m.Outs[1:] },
		func(m *impl.Cpu) { m.Outs = nil },
		func(m *impl.Cpu) { m.Outs = append(m.Outs, 0) },
		func(m *impl.Cpu) { m.Stack, m.Outs = m.Outs, m.Stack },
		func(m *impl.Cpu) { m.Stack, m.Outs = nil, append(m.Stack, m.Outs...) },
		func(m *impl.Cpu) { *m = impl.Cpu{} },
		func(m *impl.Cpu) {
			*m = impl.Cpu{Pc: -1, Acc: math.MinInt, Stack: make([]int, 99), Outs: []int{5000}, Code: 77}
		},
		func(m *impl.Cpu) {
			*m = impl.Cpu{Pc: -1, Acc: math.MinInt, Stack: make([]int, 98), Outs: []int{5000}, Code: 77}
		},
	} {
		m := copyCpu(base)
		turn(&m)
		all = append(all, m)
	}
	for i, a := range all {
		for j, b := range all {
			if got := impl.CpuSame(copyCpu(a), copyCpu(b)); got != (i == j) {
				t.Errorf("CpuSame of %v and %v is %v", a, b, got)
			}
		}
	}
	for _, a := range []impl.Cpu{{}, {Stack: []int{}}, {Outs: []int{}}, {Stack: make([]int, 0, 9), Outs: make([]int, 0, 9)}} {
		if !impl.CpuSame(a, impl.Cpu{}) || !impl.CpuSame(impl.Cpu{}, a) {
			t.Errorf("%v is not nothing", a)
		}
	}
}

func TestCpuStepSay(t *testing.T) {
	c := cells(t, cpuText)
	for _, count := range []int{0, 1, 28, 29} {
		for _, acc := range []int{0, 5, 1000, -1000} {
			said := append(numbers(count), acc)
			checkCpuStep(t, c, impl.Cpu{Pc: placeSay, Acc: acc, Stack: stops(2), Outs: numbers(count)}, impl.Cpu{Pc: placeAdd, Acc: acc, Stack: stops(2), Outs: said})
			// Behind it stands a stone, which leads on.
			checkCpuStep(t, c, impl.Cpu{Pc: sayToFar, Acc: acc, Outs: numbers(count)}, impl.Cpu{Pc: 13, Acc: acc, Outs: said})
		}
	}
	for _, at := range []int{placeSay, sayToFar} {
		checkCpuStep(t, c, impl.Cpu{Pc: at, Acc: 9, Stack: stops(5), Outs: numbers(30)}, impl.Cpu{Pc: at, Acc: 9, Stack: stops(5), Outs: numbers(30), Code: impl.MachFull})
	}
	// At a stone that leads there, one is there, even if nothing more can be said.
	for _, text := range []string{"far 1\nsay\nend\n", "far 1\nsay\nfar 3\nend\n"} {
		checkCpuStep(t, cells(t, text), impl.Cpu{Outs: numbers(30)}, impl.Cpu{Pc: 1, Outs: numbers(30), Code: impl.MachFull})
	}
	checkCpuStep(t, cells(t, "far 1\nsay\nfar 3\nend\n"), impl.Cpu{Acc: 2}, impl.Cpu{Pc: 3, Acc: 2, Outs: []int{2}})
}

func TestCpuStepAdd(t *testing.T) {
	for _, x := range sums {
		c := cells(t, "far 1\nadd "+strconv.Itoa(x.n)+"\nend\nadd "+strconv.Itoa(x.n)+"\nfar 2\n")
		for at, to := range map[int]int{0: 2, 1: 2, 3: 2, 4: 2} {
			want := impl.Cpu{Pc: to, Acc: x.want, Stack: []int{0, 4}, Outs: numbers(30)}
			if at == 4 {
				// A stone that leads to the end.
				want.Acc, want.Code = x.acc, impl.MachFine
			}
			checkCpuStep(t, c, impl.Cpu{Pc: at, Acc: x.acc, Stack: []int{0, 4}, Outs: numbers(30)}, want)
		}
	}
}

func TestCpuStepCall(t *testing.T) {
	c := cells(t, cpuText)
	for count := range impl.MachCall {
		want := impl.Cpu{Pc: 8, Acc: -4, Stack: append(stops(count), placeIf), Outs: numbers(30)}
		checkCpuStep(t, c, impl.Cpu{Pc: placeCall, Acc: -4, Stack: stops(count), Outs: numbers(30)}, want)
		// To a stone.
		want.Stack[count] = 12
		checkCpuStep(t, c, impl.Cpu{Pc: 11, Acc: -4, Stack: stops(count), Outs: numbers(30)}, want)
	}
	// One too deep.
	for _, at := range []int{placeCall, 11} {
		checkCpuStep(t, c, impl.Cpu{Pc: at, Acc: -4, Stack: stops(5), Outs: numbers(3)}, impl.Cpu{Pc: at, Acc: -4, Stack: stops(5), Outs: numbers(3), Code: impl.MachDeep})
	}
	// Called at a stone: the place right behind is that behind the call, be it a stone, which stays as it is.
	there := cells(t, "far 3\nend\nret\ncall 2\nfar 1\nret\n")
	checkCpuStep(t, there, impl.Cpu{}, impl.Cpu{Pc: 5, Stack: []int{4}})
	checkCpuStep(t, there, impl.Cpu{Pc: 3}, impl.Cpu{Pc: 5, Stack: []int{4}})
	checkCpuStep(t, there, impl.Cpu{Pc: 5, Stack: []int{4}}, impl.Cpu{Pc: 1})
	checkCpuStep(t, there, impl.Cpu{Stack: make([]int, 5)}, impl.Cpu{Pc: 3, Stack: make([]int, 5), Code: impl.MachDeep})
	// To itself, as deep as can be.
	itself := cells(t, "call 0\nend\n")
	checkCpuRun(t, itself, 5, impl.Cpu{Stack: []int{1, 1, 1, 1, 1}})
	checkCpuRun(t, itself, 6, impl.Cpu{Stack: []int{1, 1, 1, 1, 1}, Code: impl.MachDeep})
}

func TestCpuStepGo(t *testing.T) {
	c := cells(t, cpuText)
	for _, acc := range []int{-1, 0, 1} {
		// To a stone, to itself.
		checkCpuStep(t, c, impl.Cpu{Pc: placeGo, Acc: acc, Stack: stops(5), Outs: numbers(30)}, impl.Cpu{Pc: 8, Acc: acc, Stack: stops(5), Outs: numbers(30)})
		checkCpuStep(t, c, impl.Cpu{Pc: 13, Acc: acc}, impl.Cpu{Pc: 13, Acc: acc})
		checkCpuStep(t, c, impl.Cpu{Pc: lastFar, Acc: acc}, impl.Cpu{Pc: 13, Acc: acc})
		// To itself by a stone.
		checkCpuStep(t, cells(t, "go 1\nfar 0\n"), impl.Cpu{Acc: acc}, impl.Cpu{Acc: acc})
		checkCpuStep(t, cells(t, "far 1\ngo -1\n"), impl.Cpu{Acc: acc}, impl.Cpu{Pc: 1, Acc: acc})
	}
	checkCpuRun(t, cells(t, "go 0\n"), 200, impl.Cpu{})
	checkCpuStep(t, cells(t, "end\nsay\ngo -2\n"), impl.Cpu{Pc: 2}, impl.Cpu{})
	checkCpuStep(t, cells(t, "go 2\nsay\nend\n"), impl.Cpu{}, impl.Cpu{Pc: 2})
}

func TestCpuStepIf(t *testing.T) {
	c := cells(t, cpuText)
	for acc, above := range map[int]bool{1: true, 0: false, -1: false, 1000: true, -1000: false, 2: true} {
		// To a stone, or on.
		m := impl.Cpu{Pc: placeIf, Acc: acc, Stack: stops(5), Outs: numbers(30)}
		want := copyCpu(m)
		// To itself, or to a stone behind.
		itself, other := impl.Cpu{Acc: acc}, impl.Cpu{Pc: 2, Acc: acc}
		if want.Pc = placeGo; above {
			want.Pc = placeAdd
		} else {
			itself.Pc, other.Pc = 3, 3
		}
		checkCpuStep(t, c, m, want)
		checkCpuStep(t, cells(t, "if 0\nfar 3\nsay\nend\n"), impl.Cpu{Acc: acc}, itself)
		checkCpuStep(t, cells(t, "if 2\nfar 3\nsay\nend\n"), impl.Cpu{Acc: acc}, other)
	}
}

func TestCpuStepRet(t *testing.T) {
	c := cells(t, cpuText)
	for _, at := range []int{placeRet, 9} {
		// From the outermost.
		checkCpuStep(t, c, impl.Cpu{Pc: at, Acc: 8, Outs: numbers(30)}, impl.Cpu{Pc: at, Acc: 8, Outs: numbers(30), Code: impl.MachOff})
		checkCpuStep(t, c, impl.Cpu{Pc: at, Stack: []int{}}, impl.Cpu{Pc: at, Code: impl.MachOff})
		for count := 1; count <= impl.MachCall; count++ {
			// Where one returns to a stone, one is where it leads; the stones in Stack stay.
			back := []int{placeRet, 8, placeEnd, placeSay, 13}[count-1]
			checkCpuStep(t, c, impl.Cpu{Pc: at, Acc: 8, Stack: stops(count), Outs: numbers(2)}, impl.Cpu{Pc: back, Acc: 8, Stack: stops(count)[:count-1], Outs: numbers(2)})
		}
		for place, cell := range c {
			want := place
			if cell.Op == impl.CellFar {
				want = cell.N
			}
			checkCpuStep(t, c, impl.Cpu{Pc: at, Stack: []int{lastFar, place}}, impl.Cpu{Pc: want, Stack: []int{lastFar}})
		}
	}
	there := cells(t, "far 1\nret\nend\n")
	checkCpuStep(t, there, impl.Cpu{}, impl.Cpu{Pc: 1, Code: impl.MachOff})
	checkCpuStep(t, there, impl.Cpu{Stack: []int{0}}, impl.Cpu{Pc: 1})
	checkCpuStep(t, there, impl.Cpu{Stack: []int{0, 2}}, impl.Cpu{Pc: 2, Stack: []int{0}})
}

func TestCpuStepEnd(t *testing.T) {
	c := cells(t, cpuText)
	for count := range impl.MachCall + 1 {
		m := impl.Cpu{Pc: placeEnd, Acc: -8, Stack: stops(count), Outs: numbers(30 - count)}
		want := copyCpu(m)
		want.Code = impl.MachFine
		checkCpuStep(t, c, m, want)
	}
	checkCpuStep(t, cells(t, "far 1\nend\n"), impl.Cpu{}, impl.Cpu{Pc: 1, Code: impl.MachFine})
	checkCpuStep(t, cells(t, "end\nfar 0\n"), impl.Cpu{Pc: 1}, impl.Cpu{Code: impl.MachFine})
}

// One that has ended stays as it is, wherever it is, at a stone too.
func TestCpuStepOfEnded(t *testing.T) {
	c := cells(t, cpuText)
	for code := impl.MachFine; code <= impl.MachForm; code++ {
		for at := range c {
			for _, count := range []int{0, 1, 5} {
				m := impl.Cpu{Pc: at, Acc: 1, Stack: stops(count), Outs: numbers(count * 6), Code: code}
				checkCpuStep(t, c, m, copyCpu(m))
			}
		}
	}
}

func TestCpuRunByFuel(t *testing.T) {
	c := cells(t, "add 1\ngo -1\n")
	for _, fuel := range []int{0, 1, 2, 3, 99, 100, 199, 200} {
		checkCpuRun(t, c, fuel, impl.Cpu{Pc: fuel % 2, Acc: (fuel + 1) / 2})
	}
	// At a stone one begins, and is where it leads when something has been done.
	far := cells(t, "far 2\nend\nadd 1\ngo -3\n")
	checkCpuRun(t, far, 0, impl.Cpu{})
	for _, fuel := range []int{1, 2, 3, 99, 100, 199, 200} {
		checkCpuRun(t, far, fuel, impl.Cpu{Pc: 2 + fuel%2, Acc: (fuel + 1) / 2})
	}
	for _, text := range []string{"add 1\ngo -1\n", "end\n", "ret\n", "far 1\nend\n", cpuText} {
		c := cells(t, text)
		checkCpuRun(t, c, 0, impl.Cpu{})
		for _, fuel := range []int{-1, -2, -200, 201, 202, math.MinInt, math.MaxInt} {
			checkCpuRun(t, c, fuel, cpuForm)
		}
	}
}

// Images that end: after how many steps, and as what.
func TestCpuRunStaysWhereItEnded(t *testing.T) {
	for _, x := range []struct {
		text  string
		steps int
		want  impl.Cpu
	}{
		{"end\n", 1, impl.Cpu{Code: impl.MachFine}},
		{"far 1\nend\n", 1, impl.Cpu{Pc: 1, Code: impl.MachFine}},
		{"far 2\nret\nadd 4\nsay\ncall 2\nend\nadd 1\nsay\nfar 5\n", 6, impl.Cpu{Pc: 5, Acc: 5, Stack: []int{5}, Outs: []int{4, 5}, Code: impl.MachFine}},
		{"ret\n", 1, impl.Cpu{Code: impl.MachOff}},
		{"say\ncall 2\nret\nadd -3\nfar 6\nend\nret\n", 5, impl.Cpu{Pc: 2, Acc: -3, Outs: []int{0}, Code: impl.MachOff}},
		{"call 2\nend\nfar 3\nsay\ncall -2\nend\n", 11, impl.Cpu{Pc: 4, Stack: []int{1, 5, 5, 5, 5}, Outs: []int{0, 0, 0, 0, 0}, Code: impl.MachDeep}},
		{"say\nfar 3\nend\ngo -3\n", 61, impl.Cpu{Outs: make([]int, 30), Code: impl.MachFull}},
		{"add 1\ncall 2\ngo -2\nfar 4\nsay\nret\n", 30*5 + 3, impl.Cpu{Pc: 4, Acc: 31, Stack: []int{2}, Outs: upTo(30), Code: impl.MachFull}},
	} {
		c := cells(t, x.text)
		if got := impl.CpuRun(c, x.steps-1); got.Code != impl.MachGoes {
			t.Errorf("%q has ended after %d steps: %v", x.text, x.steps-1, got)
		}
		for fuel := x.steps; fuel <= impl.MachFuel; fuel++ {
			checkCpuRun(t, c, fuel, x.want)
		}
		checkCpuStep(t, c, x.want, copyCpu(x.want))
	}
}

// What takes as many steps as there is fuel has ended, and what takes one more has not; stones cost nothing.
func TestCpuRunEndsWithItsFuel(t *testing.T) {
	for _, x := range []struct {
		head  string
		steps int
	}{
		{"add 98\ngo 1\n", 199}, {"say\nadd 98\ngo 1\n", 200}, {"add 99\ngo 1\n", 201}, {"say\nadd 99\ngo 1\n", 202},
	} {
		begin := strings.Count(x.head, "\n")
		for _, text := range []string{
			x.head + "add -1\nif -1\nend\n",
			x.head + "add -1\nif 2\nend\nfar " + strconv.Itoa(begin) + "\n",
			x.head + "far " + strconv.Itoa(begin+1) + "\nadd -1\nif -2\nfar " + strconv.Itoa(begin+4) + "\nend\n",
		} {
			c := cells(t, text)
			want := impl.MachGoes
			if x.steps <= impl.MachFuel {
				want = impl.MachFine
			}
			if got := impl.CpuRun(c, impl.MachFuel); got.Code != want {
				t.Errorf("what takes %d steps is %v", x.steps, got)
			}
			if got := impl.CpuRun(c, min(x.steps-1, impl.MachFuel)); got.Code != impl.MachGoes {
				t.Errorf("what takes %d steps is %v ahead of the last", x.steps, got)
			}
		}
	}
}

// lineCpu runs the text of an image, line by line.
type lineCpu struct {
	lines []string
	cpu   impl.Cpu
}

// stepOver goes on where the line of a stone says.
func (m *lineCpu) stepOver() {
	if rest, far := strings.CutPrefix(m.lines[m.cpu.Pc], "far "); far {
		m.cpu.Pc, _ = strconv.Atoi(rest)
	}
}

func (m *lineCpu) step() {
	k := &m.cpu
	if k.Code != 0 {
		return
	}
	m.stepOver()
	word, rest, _ := strings.Cut(m.lines[k.Pc], " ")
	n, _ := strconv.Atoi(rest)
	switch {
	case word == "end":
		k.Code = 1
	case word == "call" && len(k.Stack) == 5:
		k.Code = 2
	case word == "ret" && len(k.Stack) == 0:
		k.Code = 3
	case word == "say" && len(k.Outs) == 30:
		k.Code = 4
	case word == "call":
		k.Stack, k.Pc = append(k.Stack, k.Pc+1), k.Pc+n
	case word == "go", word == "if" && k.Acc > 0:
		k.Pc += n
	case word == "ret":
		k.Pc, k.Stack = k.Stack[len(k.Stack)-1], k.Stack[:len(k.Stack)-1]
	case word == "say":
		k.Outs = append(k.Outs, k.Acc)
		k.Pc++
	case word == "add":
		k.Acc = max(-1000, min(1000, k.Acc+n))
		k.Pc++
	default:
		k.Pc++
	}
	m.stepOver()
}

// checkCpuRuns asks, for each fuel up to a most, that a run is what the lines do, and what one more step makes of the run ahead; it tells how it ends.
func checkCpuRuns(t *testing.T, c []impl.Cell, most int) int {
	t.Helper()
	lines := &lineCpu{lines: strings.Split(cellLines(c), "\n")}
	stepped := impl.CpuRun(c, 0)
	for fuel := range most + 1 {
		got := impl.CpuRun(c, fuel)
		if !cpuIs(got, lines.cpu) || !impl.CpuOk(c, got) || !impl.CpuSame(got, lines.cpu) {
			t.Errorf("CpuRun of %q with the fuel %d is %v, not %v", cellLines(c), fuel, got, lines.cpu)
			break
		}
		if !cpuIs(stepped, got) {
			t.Errorf("%q: %d steps are %v, and a run of that fuel %v", cellLines(c), fuel, stepped, got)
			break
		}
		stepped = impl.CpuStep(c, stepped)
		lines.step()
	}
	return stepped.Code
}

// smallCells is places of each kind that may stand in an image of so many.
func smallCells(count int) []impl.Cell {
	list := []impl.Cell{{Op: impl.InsSay}, {Op: impl.InsRet}, {Op: impl.InsEnd}, {Op: impl.InsAdd, N: 1}, {Op: impl.InsAdd, N: -1}, {Op: 9}}
	for n := -1; n <= count; n++ {
		list = append(list, impl.Cell{Op: impl.CellFar, N: n})
	}
	for n := -count; n <= count; n++ {
		list = append(list, impl.Cell{Op: impl.InsCall, N: n}, impl.Cell{Op: impl.InsGo, N: n}, impl.Cell{Op: impl.InsIf, N: n})
	}
	return list
}

// All places of up to three: which are an image, and what it does from each place.
func TestImageOfEachFewPlaces(t *testing.T) {
	codes := map[int]int{}
	for count := 1; count <= 3; count++ {
		kinds := smallCells(count)
		each := make([]int, count)
		for {
			c := make([]impl.Cell, count)
			for at, kind := range each {
				c[at] = kinds[kind]
			}
			for _, reach := range []int{1, 2, 100} {
				if got := impl.ImageOk(c, reach); got != imageModelOk(c, reach) {
					t.Errorf("ImageOk of %q within %d is %v", cellLines(c), reach, got)
				}
			}
			if imageModelOk(c, 100) {
				codes[checkCpuRuns(t, c, 9)]++
				checkFromEach(t, c)
			}
			if !next(each, len(kinds)) {
				break
			}
		}
	}
	for _, code := range []int{impl.MachGoes, impl.MachFine, impl.MachDeep, impl.MachOff} {
		if codes[code] < 100 {
			t.Errorf("the code %d is told %d times only", code, codes[code])
		}
	}
}

// next counts on, digit by digit, and says whether there is one more number.
func next(digits []int, base int) bool {
	for at := range digits {
		if digits[at]++; digits[at] < base {
			return true
		}
		digits[at] = 0
	}
	return false
}

// checkFromEach asks for a step from each place, stones included, with calls that return to each, and as many as there may be.
func checkFromEach(t *testing.T, c []impl.Cell) {
	t.Helper()
	for at := range c {
		for _, stack := range [][]int{nil, {at}, {0, len(c) - 1}, {at, 0, 0, 0, at}} {
			m := impl.Cpu{Pc: at, Acc: len(stack) - 1, Stack: stack, Outs: numbers(28 + len(stack)%3)}
			lines := &lineCpu{lines: strings.Split(cellLines(c), "\n"), cpu: copyCpu(m)}
			lines.step()
			checkCpuStep(t, c, m, lines.cpu)
		}
	}
}

// mixedImage is an image of so many places that are mixed by a number, the same for the same number.
func mixedImage(count int, mix uint32) []impl.Cell {
	pick := func(n int) int {
		mix = mix*1664525 + 1013904223
		return int(mix>>16) % n
	}
	way := func(at int) int {
		first, last := max(0, at-100), min(count-1, at+100)
		return first + pick(last-first+1) - at
	}
	c := []impl.Cell{}
	for at := range count {
		op := []int{impl.InsSay, impl.InsSay, impl.InsAdd, impl.InsAdd, impl.InsCall, impl.InsCall, impl.InsIf, impl.InsGo, impl.InsRet, impl.InsRet, impl.InsEnd, impl.CellFar, impl.CellFar, impl.CellFar}[pick(14)]
		if count%3 > 0 && (op == impl.InsEnd || op == impl.InsRet || op == impl.InsCall) && pick(5) > 0 {
			// One that goes on longer, as fewer of its places end it.
			op = impl.InsIf
		}
		cell := impl.Cell{Op: op}
		switch op {
		case impl.InsAdd:
			cell.N = []int{pick(9) - 4, pick(2001) - 1000}[pick(2)]
		case impl.InsCall, impl.InsIf, impl.InsGo:
			cell.N = way(at)
		}
		c = append(c, cell)
	}
	c[count-1] = []impl.Cell{{Op: impl.InsEnd}, {Op: impl.InsRet}, {Op: impl.InsGo, N: way(count - 1)}}[pick(3)]
	for at := range c {
		for c[at].Op == impl.CellFar {
			if to := pick(count); c[to].Op != impl.CellFar {
				c[at].N = to
				break
			}
		}
	}
	return c
}

// Greater images do what their lines say, up to the most fuel, and are read as they were.
func TestImageOfManyPlaces(t *testing.T) {
	codes := map[int]int{}
	for n := range 120 {
		count := 1 + n*n%800
		if n%10 == 9 {
			count = 800
		}
		c := mixedImage(count, uint32(n*1000))
		checkImageOk(t, c, 100, true)
		codes[checkCpuRuns(t, c, impl.MachFuel)]++
	}
	for code := impl.MachGoes; code <= impl.MachFull; code++ {
		if codes[code] < 5 {
			t.Errorf("the code %d is told %d times only", code, codes[code])
		}
	}
}

// placed is where a program is, as places of its image.
func placed(l impl.Lay, m impl.Mach) impl.Cpu {
	all := impl.Cpu{Pc: l.At[m.At.Fun] + m.At.Pc, Acc: m.Acc, Outs: slices.Clone(m.Outs), Code: m.Code}
	for _, s := range m.Stack {
		all.Stack = append(all.Stack, l.At[s.Fun]+s.Pc)
	}
	return all
}

// checkStepByStep asks that the image does at each step what the program does, and tells how it ends; -1, if there is no image.
func checkStepByStep(t *testing.T, p []impl.Fun, reach int, l impl.Lay, most int) int {
	t.Helper()
	c := impl.ImageOf(p, reach, l)
	if !impl.ImageOk(c, reach) {
		return -1
	}
	m := impl.MachRun(p, 0)
	stepped := impl.Cpu{}
	for fuel := range most + 1 {
		want := placed(l, m)
		if got := impl.CpuRun(c, fuel); !cpuIs(got, want) || !cpuIs(stepped, want) {
			t.Errorf("%q within %d as %v: after %d steps %v, by steps %v, and of the program %v", programText(p), reach, l, fuel, got, stepped, want)
			break
		}
		m = impl.MachStep(p, m)
		stepped = impl.CpuStep(c, stepped)
	}
	return m.Code
}

// Step by step the same: each program of two functions at reaches at which there are stones, and at which there are none.
func TestStepByStepOfEachSmallProgram(t *testing.T) {
	inner := []string{"say", "add 1", "add -1", "call a", "call b", "if a", "if b"}
	last := []string{"ret", "end", "go a", "go b"}
	block := fun(t, "fun c", "say", "say", "add 1", "call b", "if a", "ret")
	codes, stones := map[int]int{}, map[int]int{}
	for _, z := range last {
		for _, x := range inner {
			for _, y := range inner {
				for _, end := range last {
					p := []impl.Fun{fun(t, "fun a", x, y, z), block, fun(t, "weak b", y, end)}
					for _, reach := range []int{2, 3, 4, 6, 9} {
						if l, code := impl.LayOf(p, reach); code == impl.LayFine {
							codes[checkStepByStep(t, p, reach, l, 14)]++
							stones[impl.LayMany(l)]++
						}
					}
				}
			}
		}
	}
	for code := impl.MachGoes; code <= impl.MachOff; code++ {
		if codes[code] < 50 {
			t.Errorf("the code %d is told %d times only", code, codes[code])
		}
	}
	for many := range 3 {
		if stones[many] < 50 {
			t.Errorf("%d stones are laid %d times only", many, stones[many])
		}
	}
}

// Step by step the same: greater programs at many reaches, and with all stones that there may be.
func TestStepByStepOfGreatPrograms(t *testing.T) {
	codes, stones := map[int]int{}, map[int]int{}
	for count := 1; count <= 40; count++ {
		for mix, reach := range []int{3, 5, 8, 10, 12, 15, 20, 30, 50, 70, 100} {
			p := mixedProgram(t, count, uint32(count*100+mix))
			if mix%2 == 1 {
				p = thinProgram(t, count, uint32(count*100+mix))
			}
			l, code := impl.LayOf(p, reach)
			if code == impl.LayFine {
				codes[checkStepByStep(t, p, reach, l, impl.MachFuel)]++
				stones[min(10, impl.LayMany(l))]++
			}
			all := layWith(p, slices.Repeat([]string{namesOf(p)}, count)...)
			codes[checkStepByStep(t, p, 100, all, 60)]++
		}
	}
	for code := -1; code <= impl.MachFull; code++ {
		if codes[code] < 5 {
			t.Errorf("the code %d is told %d times only", code, codes[code])
		}
	}
	for _, many := range []int{0, 1, 2, 5, 10} {
		if stones[many] < 5 {
			t.Errorf("%d stones are laid %d times only", many, stones[many])
		}
	}
}

// Step by step the same, from wherever a program is: with calls that return to each place behind a call.
func TestStepByStepFromEachPlace(t *testing.T) {
	p := readProgram(t, machText)
	for _, stones := range [][]string{nil, {"g f h", "main", "h f"}, {"", "", "f g main", "main g h f"}} {
		l := layWith(p, stones...)
		for reach := 1; reach <= 30; reach++ {
			c := impl.ImageOf(p, reach, l)
			if c == nil {
				continue
			}
			for number, f := range p {
				for pc := range f.Body {
					for calls := range impl.MachCall + 1 {
						m := impl.Mach{At: impl.Spot{Fun: number, Pc: pc}, Acc: calls - 2, Stack: spots(calls), Outs: numbers(25 + calls)}
						checkCpuStep(t, c, placed(l, m), placed(l, impl.MachStep(p, m)))
					}
				}
			}
		}
	}
}

// spoilNumbers writes into a list and into its spare room.
func spoilNumbers(list []int) {
	for at := range list[:cap(list)] {
		list[:cap(list)][at] = 7777
	}
}

// roomyCpu is a copy of one with marks behind the ends of its lists.
func roomyCpu(m impl.Cpu) impl.Cpu {
	m.Stack, m.Outs = roomy(m.Stack, 5555), roomy(m.Outs, 5555)
	return m
}

func sameRoomCpu(a impl.Cpu, b impl.Cpu) bool {
	return cpuIs(a, b) && slices.Equal(a.Stack[:len(a.Stack)+3], b.Stack[:len(b.Stack)+3]) && slices.Equal(a.Outs[:len(a.Outs)+3], b.Outs[:len(b.Outs)+3])
}

// cpusShare says whether lists of two have memory in common, or the two lists of the first.
func cpusShare(a impl.Cpu, b impl.Cpu) bool {
	return shareRoom(a.Stack, b.Stack) || shareRoom(a.Outs, b.Outs) || shareRoom(a.Stack, b.Outs) || shareRoom(a.Outs, b.Stack) || shareRoom(a.Stack, a.Outs)
}

var markCell = impl.Cell{Op: 77, N: 77}

// Nothing is written into what is handed in, nor behind its ends; what is answered shares no memory with it, nor with another answer.
func TestCpuStepLeavesAllAsItWas(t *testing.T) {
	c, image := roomy(cells(t, cpuText), markCell), roomy(cells(t, cpuText), markCell)
	for at := -1; at <= len(c); at++ {
		for code := impl.MachGoes; code <= impl.MachForm+1; code++ {
			for _, calls := range []int{0, 1, 4, 5, 6} {
				for _, outs := range []int{0, 1, 29, 30, 31} {
					one := impl.Cpu{Pc: at, Acc: 1, Stack: stops(calls), Outs: numbers(outs), Code: code}
					m, was := roomyCpu(one), roomyCpu(one)
					impl.CpuOk(c, m)
					impl.CpuSame(m, m)
					got, again := impl.CpuStep(c, m), impl.CpuStep(c, m)
					if cpusShare(got, m) || cpusShare(got, again) {
						t.Errorf("CpuStep of %v shares memory", one)
					}
					spoilNumbers(got.Stack)
					spoilNumbers(got.Outs)
					if !sameRoomCpu(m, was) || !slices.Equal(c[:len(c)+3], image[:len(c)+3]) {
						t.Errorf("%v has been turned into %v, or its image into %v", one, m, c)
					}
				}
			}
		}
	}
}

func TestImageLeavesAllAsItWas(t *testing.T) {
	for _, one := range [][]impl.Cell{nil, cells(t, cpuText), cells(t, "far 0\n"), cells(t, "say\nfar 3\nend\ngo -3\n"), mixedImage(800, 5)} {
		c, was := roomy(one, markCell), roomy(one, markCell)
		for _, fuel := range []int{-1, 0, 1, 2, 9, 60, 200, 201} {
			got, again := impl.CpuRun(c, fuel), impl.CpuRun(c, fuel)
			want := copyCpu(again)
			if cpusShare(got, again) {
				t.Errorf("CpuRun of %q, %d shares memory", cellLines(one), fuel)
			}
			spoilNumbers(got.Stack)
			spoilNumbers(got.Outs)
			if more := impl.CpuRun(c, fuel); !cpuIs(again, want) || !cpuIs(more, want) {
				t.Errorf("CpuRun of %q, %d is %v, and was %v", cellLines(one), fuel, more, want)
			}
		}
		impl.ImageOk(c, 100)
		impl.ImageSame(c, c)
		text := impl.ImageText(c)
		read, fine := impl.ImageRead(text)
		again, _ := impl.ImageRead(text)
		if shareRoom(read, again) || fine && !slices.Equal(read, one) {
			t.Errorf("ImageRead of %q shares memory", text)
		}
		for at := range read {
			read[at] = markCell
		}
		if more, _ := impl.ImageRead(text); !slices.Equal(more, again) || !slices.Equal(c[:len(c)+3], was[:len(c)+3]) {
			t.Errorf("%q has been turned into %q", cellLines(was), cellLines(c))
		}
	}
}

func TestImageOfLeavesAllAsItWas(t *testing.T) {
	p := readProgram(t, layText)
	for _, l := range []impl.Lay{layWith(p), layWith(p, "c b", "a", "a c b"), {}, layWith(p, "z"), layWith(p, "a a"), layWith(p, "", "", "a b c")} {
		program, was := roomyUnit(p), roomyUnit(p)
		wide, wideWas := roomyLay(l), roomyLay(l)
		for _, reach := range []int{0, 1, 2, 3, 5, 10, 100, 101} {
			got, again := impl.ImageOf(program, reach, wide), impl.ImageOf(program, reach, wide)
			if want := slices.Clone(again); shareRoom(got, again) {
				t.Errorf("ImageOf within %d as %v shares memory", reach, l)
			} else {
				for at := range got[:cap(got)] {
					got[:cap(got)][at] = markCell
				}
				if more := impl.ImageOf(program, reach, wide); !slices.Equal(again, want) || !slices.Equal(more, want) {
					t.Errorf("ImageOf within %d as %v is %v, and was %v", reach, l, more, want)
				}
			}
		}
		if !layIs(withRoom(wide), withRoom(wideWas)) || !sameRoom(program, was) {
			t.Errorf("%v has been turned into %v", l, wide)
		}
	}
}

// One whose lists are parts of one memory is stepped as another one is.
func TestCpuOfSharedLists(t *testing.T) {
	c := cells(t, cpuText)
	shared := []int{1, 2, 3, 4, 5, 6, 7, 8}
	m := impl.Cpu{Pc: placeCall, Stack: shared[:2], Outs: shared[:3]}
	got := impl.CpuStep(c, m)
	if !cpuIs(got, impl.Cpu{Pc: 8, Stack: []int{1, 2, 4}, Outs: []int{1, 2, 3}}) || cpusShare(got, m) {
		t.Errorf("%v", got)
	}
	said := impl.CpuStep(c, impl.Cpu{Pc: placeSay, Acc: 9, Stack: shared[1:3], Outs: shared[:3]})
	if !cpuIs(said, impl.Cpu{Pc: placeAdd, Acc: 9, Stack: []int{2, 3}, Outs: []int{1, 2, 3, 9}}) {
		t.Errorf("%v", said)
	}
	back := impl.CpuStep(c, impl.Cpu{Pc: placeRet, Stack: shared[:3], Outs: shared[2:5]})
	if back.Stack = append(back.Stack, 77); !cpuIs(back, impl.Cpu{Pc: 3, Stack: []int{1, 2, 77}, Outs: []int{3, 4, 5}}) {
		t.Errorf("%v", back)
	}
	if !slices.Equal(shared, []int{1, 2, 3, 4, 5, 6, 7, 8}) {
		t.Errorf("%v", shared)
	}
}
