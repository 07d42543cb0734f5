package tests

import (
	"math"
	"regexp"
	"strconv"
	"strings"
	"testing"

	"loop.example/stepstone/impl"
)

// insTexts holds each kind of instruction with its text, at its edges too.
var insTexts = []struct {
	ins  impl.Ins
	text string
}{
	{impl.Ins{Op: impl.InsSay}, "say"},
	{impl.Ins{Op: impl.InsAdd, N: -1000}, "add -1000"},
	{impl.Ins{Op: impl.InsAdd, N: -999}, "add -999"},
	{impl.Ins{Op: impl.InsAdd, N: -10}, "add -10"},
	{impl.Ins{Op: impl.InsAdd, N: -1}, "add -1"},
	{impl.Ins{Op: impl.InsAdd, N: 0}, "add 0"},
	{impl.Ins{Op: impl.InsAdd, N: 1}, "add 1"},
	{impl.Ins{Op: impl.InsAdd, N: 100}, "add 100"},
	{impl.Ins{Op: impl.InsAdd, N: 1000}, "add 1000"},
	{impl.Ins{Op: impl.InsCall, Name: "a"}, "call a"},
	{impl.Ins{Op: impl.InsCall, Name: "abcdef"}, "call abcdef"},
	{impl.Ins{Op: impl.InsGo, Name: "z"}, "go z"},
	{impl.Ins{Op: impl.InsGo, Name: "uvwxyz"}, "go uvwxyz"},
	{impl.Ins{Op: impl.InsIf, Name: "main"}, "if main"},
	{impl.Ins{Op: impl.InsIf, Name: "if"}, "if if"},
	{impl.Ins{Op: impl.InsRet}, "ret"},
	{impl.Ins{Op: impl.InsEnd}, "end"},
}

func TestInsConstants(t *testing.T) {
	ops := []int{impl.InsSay, impl.InsAdd, impl.InsCall, impl.InsGo, impl.InsIf, impl.InsRet, impl.InsEnd}
	for at, op := range ops {
		if op != at+1 {
			t.Errorf("Op %d is %d", at+1, op)
		}
	}
	if impl.InsMost != 1000 || impl.NameMax != 6 {
		t.Error("bounds")
	}
}

func TestInsTextAndBack(t *testing.T) {
	for _, x := range insTexts {
		if !impl.InsOk(x.ins) {
			t.Errorf("%v is not ok", x.ins)
		}
		if text := impl.InsText(x.ins); text != x.text {
			t.Errorf("%v is written %q, not %q", x.ins, text, x.text)
		}
		if i, ok := impl.InsRead(x.text); !ok || i != x.ins {
			t.Errorf("%q is read as %v, %v", x.text, i, ok)
		}
	}
}

func TestInsEachNumber(t *testing.T) {
	for n := -impl.InsMost - 20; n <= impl.InsMost+20; n++ {
		want := n >= -impl.InsMost && n <= impl.InsMost
		text := "add " + strconv.Itoa(n)
		i := impl.Ins{Op: impl.InsAdd, N: n}
		if impl.InsOk(i) != want {
			t.Errorf("InsOk of %v", i)
		}
		got, ok := impl.InsRead(text)
		if want && (impl.InsText(i) != text || !ok || got != i) {
			t.Errorf("%q: %q, %v, %v", text, impl.InsText(i), got, ok)
		}
		if !want && (impl.InsText(i) != "" || ok || got != impl.Ins{}) {
			t.Errorf("%q, past the bounds: %q, %v, %v", text, impl.InsText(i), got, ok)
		}
	}
}

func TestNameOk(t *testing.T) {
	for _, s := range []string{"a", "z", "m", "main", "say", "abcdef", "zzzzzz"} {
		if !impl.NameOk(s) {
			t.Errorf("%q is a name", s)
		}
	}
	wrong := []string{
		"", "abcdefg", strings.Repeat("a", 1000), "A", "aB", "Main", "a1", "0", " ", " a", "a ", "a b",
		"a\n", "\n", "a\x00", "\x00", "\xff", "a\xffb", "é", "aé", "ａ", "a-b", "a_b", "`", "{", "a{",
		"\u0430", "日", "\ufffd", "ſ", "ı",
	}
	for _, s := range wrong {
		if impl.NameOk(s) {
			t.Errorf("%q is no name", s)
		}
	}
}

func TestNameOkOfEachByte(t *testing.T) {
	for b := 0; b < 256; b++ {
		want := b >= 'a' && b <= 'z'
		one := string([]byte{byte(b)})
		for _, s := range []string{one, "a" + one, one + "a", "ab" + one + "cd", "abcde" + one} {
			if impl.NameOk(s) != want {
				t.Errorf("NameOk of %q", s)
			}
		}
	}
}

// insNone holds texts that no instruction has.
var insNone = []string{
	"", " ", "\n", "-", "0", "a", "fly", "far", "fun", "name", "saysay", "sa", "s",
	"say ", " say", "say\n", "\nsay", "say\t", "say  ", "say a", "say 0", "say 1", "say\x00", "Say", "SAY", "say\r\n",
	"ret ", " ret", "ret 0", "ret a", "ret\n", "Ret", "ret ret",
	"end ", " end", "end 0", "end a", "end\n", "END",
	"add", "add ", " add 1", "add  1", "add 1 ", "add 1\n", "add\t1", "add\n1", "add1", "add 1 2", "add 1a", "add a1", "add a", "add - 1",
	"add 00", "add 01", "add 007", "add 0001", "add -0", "add -01", "add -00", "add +0", "add +1", "add --1", "add -", "add +", "add 1-", "add 1-1",
	"add 1001", "add -1001", "add 10000", "add 9999999999", "add 1e3", "add 0x1", "add 1_0", "add 1.0", "add .5", "add ١", "add １", "add \xff", "add 1\xff",
	"add 9223372036854775807", "add 9223372036854775808", "add -9223372036854775808", "add -9223372036854775809",
	"add 18446744073709551616", "add 18446744073709551617", "add -18446744073709551617", "add 4294967297",
	"Add 1", "ADD 1", "aDd 1",
	"call", "call ", " call a", "call  a", "call a ", "call a b", "call a\n", "call\ta", "call\na", "calla", "call A", "call aB", "call a1", "call 1", "call -1",
	"call abcdefg", "call abcdef ", "call é", "call \xff", "call a\xff", "call a\x00", "Call a", "CALL a", "call ABC",
	"go", "go ", " go a", "go  a", "go a ", "go a b", "go a\n", "go A", "go 1", "go abcdefg", "Go a", "goa", "goto a",
	"if", "if ", " if a", "if  a", "if a ", "if a b", "if a\n", "if A", "if 1", "if abcdefg", "If a", "ifa", "if a go b",
}

func TestInsReadOfNone(t *testing.T) {
	long := []string{
		"add " + strings.Repeat("1", 500), "add -" + strings.Repeat("9", 500), "add " + strings.Repeat("0", 500) + "1",
		"call " + strings.Repeat("a", 500), strings.Repeat("say", 500), strings.Repeat(" ", 500), "say" + strings.Repeat(" ", 500),
	}
	for _, s := range append(long, insNone...) {
		if i, ok := impl.InsRead(s); ok || i != (impl.Ins{}) {
			t.Errorf("%q is read as %v, %v", s, i, ok)
		}
	}
}

// insForm is what the texts of instructions look like, but for the bounds of N.
var insForm = regexp.MustCompile(`\A(?:say|ret|end|add (0|-?[1-9][0-9]{0,3})|(?:call|go|if) [a-z]{1,6})\z`)

func isInsText(s string) bool {
	m := insForm.FindStringSubmatch(s)
	if m == nil || m[1] == "" {
		return m != nil
	}
	n, err := strconv.Atoi(m[1])
	return err == nil && n >= -1000 && n <= 1000
}

func checkInsRead(t *testing.T, s string) {
	t.Helper()
	i, ok := impl.InsRead(s)
	if ok != isInsText(s) {
		t.Errorf("%q is read: %v", s, ok)
	}
	if ok && (!impl.InsOk(i) || impl.InsText(i) != s) {
		t.Errorf("%q is read as %v, which is written %q", s, i, impl.InsText(i))
	}
	if !ok && i != (impl.Ins{}) {
		t.Errorf("%q is none, and is read as %v", s, i)
	}
}

// Each text with a byte put in, turned or taken away is read just if it has the form.
func TestInsReadOfTurnedTexts(t *testing.T) {
	for _, x := range insTexts {
		for at := 0; at <= len(x.text); at++ {
			checkInsRead(t, x.text[:at])
			for b := 0; b < 256; b++ {
				one := string([]byte{byte(b)})
				checkInsRead(t, x.text[:at]+one+x.text[at:])
				if at < len(x.text) {
					checkInsRead(t, x.text[:at]+one+x.text[at+1:])
				}
			}
			if at < len(x.text) {
				checkInsRead(t, x.text[:at]+x.text[at+1:])
			}
		}
	}
}

func TestInsReadOfShortNumbers(t *testing.T) {
	const marks = "-+ 019"
	texts := []string{"add "}
	for range 5 {
		for _, s := range texts {
			checkInsRead(t, s)
		}
		var next []string
		for _, s := range texts {
			for _, r := range marks {
				next = append(next, s+string(r))
			}
		}
		texts = next
	}
}

func TestInsNotOk(t *testing.T) {
	wrong := []impl.Ins{
		{}, {Op: -1}, {Op: 8}, {Op: 9}, {Op: math.MaxInt}, {Op: math.MinInt}, {Op: 1 << 32}, {Op: 1<<32 + 1}, {Op: 257}, {Op: -255},
		{Op: 0, N: 1}, {Op: 0, Name: "a"}, {Op: 8, N: 1}, {Op: 8, Name: "a"},
		{Op: impl.InsSay, N: 1}, {Op: impl.InsSay, N: -1}, {Op: impl.InsSay, Name: "a"},
		{Op: impl.InsRet, N: 1}, {Op: impl.InsRet, Name: "a"}, {Op: impl.InsEnd, N: -1}, {Op: impl.InsEnd, Name: "a"},
		{Op: impl.InsAdd, N: 1001}, {Op: impl.InsAdd, N: -1001}, {Op: impl.InsAdd, N: math.MaxInt}, {Op: impl.InsAdd, N: math.MinInt},
		{Op: impl.InsAdd, Name: "a"}, {Op: impl.InsAdd, N: 1, Name: "a"}, {Op: impl.InsAdd, N: 1, Name: " "},
	}
	for _, op := range []int{impl.InsCall, impl.InsGo, impl.InsIf} {
		wrong = append(wrong, impl.Ins{Op: op}, impl.Ins{Op: op, N: 1}, impl.Ins{Op: op, N: 1, Name: "a"}, impl.Ins{Op: op, N: -1, Name: "a"})
		for _, name := range []string{"abcdefg", "A", "a b", "a ", " a", "a\n", "1", "\xff", "é"} {
			wrong = append(wrong, impl.Ins{Op: op, Name: name})
		}
	}
	for _, i := range wrong {
		if impl.InsOk(i) {
			t.Errorf("%v is ok", i)
		}
		if text := impl.InsText(i); text != "" {
			t.Errorf("%v is written %q", i, text)
		}
	}
}

func TestInsRefsAndLast(t *testing.T) {
	for op := -2; op <= 10; op++ {
		refs := op == 3 || op == 4 || op == 5
		last := op == 4 || op == 6 || op == 7
		for _, i := range []impl.Ins{{Op: op}, {Op: op, Name: "a"}, {Op: op, N: 5}, {Op: op, N: 2000, Name: "A"}} {
			if impl.InsRefs(i) != refs {
				t.Errorf("InsRefs of %v", i)
			}
			if impl.InsLast(i) != last {
				t.Errorf("InsLast of %v", i)
			}
		}
	}
	for _, op := range []int{math.MaxInt, math.MinInt, 1<<32 + 4, 256 + 4, -4} {
		if i := (impl.Ins{Op: op, Name: "a"}); impl.InsRefs(i) || impl.InsLast(i) {
			t.Errorf("%v is of no kind", i)
		}
	}
}

func TestInsSum(t *testing.T) {
	for _, x := range [][3]int{
		{0, 0, 0}, {1, 2, 3}, {-5, 3, -2}, {5, -3, 2}, {-1, -1, -2},
		{999, 1, 1000}, {999, 2, 1000}, {1000, 0, 1000}, {1000, 1, 1000}, {1000, 1000, 1000}, {500, 500, 1000}, {500, 501, 1000},
		{-999, -1, -1000}, {-999, -2, -1000}, {-1000, 0, -1000}, {-1000, -1, -1000}, {-1000, -1000, -1000},
		{1000, -1000, 0}, {1000, -1, 999}, {-1000, 1, -999},
		{1001, 0, 1000}, {1001, -1, 999}, {2000, -2000, 0}, {5000, -300, 700}, {-5000, 300, -700}, {2000, -1, 999}, {-1001, 1, -999},
		{math.MaxInt, 0, 1000}, {math.MinInt, 0, -1000}, {math.MaxInt, 1, 1000}, {math.MinInt, -1, -1000},
		{math.MaxInt, math.MaxInt, 1000}, {math.MinInt, math.MinInt, -1000}, {math.MaxInt, math.MinInt, 0}, {math.MaxInt, -1, 999}, {math.MinInt, 1, -999},
		{1 << 62, 1 << 62, 1000}, {-1 << 62, -1 << 62, -1000},
	} {
		if got := impl.InsSum(x[0], x[1]); got != x[2] {
			t.Errorf("InsSum(%d, %d) is %d, not %d", x[0], x[1], got, x[2])
		}
		if got := impl.InsSum(x[1], x[0]); got != x[2] {
			t.Errorf("InsSum(%d, %d) is %d, not %d", x[1], x[0], got, x[2])
		}
	}
}
