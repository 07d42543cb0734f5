package impl

import "strconv"

// Ins is an instruction: it says the number that is held, adds to it, calls by a name, goes on at a name, goes on there if the number is above 0, returns, or ends.
type Ins struct {
	Op   int
	N    int
	Name string
}

// Kinds of instructions.
const (
	InsSay = iota + 1
	InsAdd
	InsCall
	InsGo
	InsIf
	InsRet
	InsEnd
)

// Bounds of instructions.
const (
	InsMost = 1000
	NameMax = 6
)

// insKind is an Op, so that what all instructions of one Op share is asked of it alone.
type insKind int

// word is what the text of such an instruction begins with; the empty text of no kind.
func (k insKind) word() string {
	switch k {
	case InsSay:
		return "say"
	case InsAdd:
		return "add"
	case InsCall:
		return "call"
	case InsGo:
		return "go"
	case InsIf:
		return "if"
	case InsRet:
		return "ret"
	case InsEnd:
		return "end"
	}
	return ""
}

func (k insKind) isKind() bool { return k >= InsSay && k <= InsEnd }

func (k insKind) hasNumber() bool { return k == InsAdd }

func (k insKind) hasName() bool { return k == InsCall || k == InsGo || k == InsIf }

func (k insKind) isLast() bool { return k == InsGo || k == InsRet || k == InsEnd }

// NameOk says whether a text is a name.
func NameOk(s string) bool {
	if len(s) < 1 || len(s) > NameMax {
		return false
	}
	for _, r := range s {
		if !isLetter(r) {
			return false
		}
	}
	return true
}

// InsOk says whether an instruction is one.
func InsOk(i Ins) bool {
	kind := insKind(i.Op)
	switch {
	case kind.hasNumber():
		return i.N == cutNumber(i.N) && i.Name == ""
	case kind.hasName():
		return i.N == 0 && NameOk(i.Name)
	}
	return kind.isKind() && i.N == 0 && i.Name == ""
}

// InsRefs says whether an instruction names something.
func InsRefs(i Ins) bool { return insKind(i.Op).hasName() }

// InsLast says whether nothing goes on behind an instruction.
func InsLast(i Ins) bool { return insKind(i.Op).isLast() }

// InsText writes an instruction.
func InsText(i Ins) string {
	if !InsOk(i) {
		return ""
	}
	kind := insKind(i.Op)
	switch {
	case kind.hasNumber():
		return kind.word() + " " + strconv.Itoa(i.N)
	case kind.hasName():
		return kind.word() + " " + i.Name
	}
	return kind.word()
}

// InsRead reads an instruction.
func InsRead(text string) (Ins, bool) {
	word, rest := splitWord(text)
	kind := kindOfWord(word)
	i := Ins{Op: int(kind)}
	fine := true
	switch {
	case kind.hasNumber():
		i.N, fine = readNumber(rest)
	case kind.hasName():
		i.Name = rest
	default:
		fine = word == text // even a space behind all is too much
	}
	if !fine || !InsOk(i) {
		return Ins{}, false
	}
	return i, true
}

// InsSum is a number with another one added, within its bounds.
func InsSum(a int, b int) int {
	// Both are cut ahead of adding, as the sum of two ints may not be an int.
	return cutNumber(cutNumber(a) + cutNumber(b))
}

func isLetter(r rune) bool { return r >= 'a' && r <= 'z' }

func isDigit(r rune) bool { return r >= '0' && r <= '9' }

// cutNumber is the number within the bounds that is nearest.
func cutNumber(n int) int {
	switch {
	case n < -InsMost:
		return -InsMost
	case n > InsMost:
		return InsMost
	}
	return n
}

// kindOfWord is the kind whose texts begin with a word; 0, if there is none.
func kindOfWord(word string) insKind {
	for kind := insKind(InsSay); kind.isKind(); kind++ {
		if kind.word() == word {
			return kind
		}
	}
	return 0
}

// splitWord is what stands ahead of the first space of a text, and what stands behind it.
func splitWord(text string) (string, string) {
	for at, r := range text {
		if r == ' ' {
			return text[:at], text[at+1:]
		}
	}
	return text, ""
}

// readNumber is the number within the bounds of which this is the text, if there is one.
func readNumber(text string) (int, bool) {
	n, sign := 0, 1
scan:
	for at, r := range text {
		switch {
		case r == '-' && at == 0:
			sign = -1
		case isDigit(r):
			n = n*10 + sign*int(r-'0')
			if n != cutNumber(n) {
				break scan // a text of many digits would go past an int
			}
		default:
			break scan
		}
	}
	// A number has one text: needless zeros, -0, and what the scan broke off at are none.
	if n != cutNumber(n) || strconv.Itoa(n) != text {
		return 0, false
	}
	return n, true
}
