package tests

import (
	"slices"
	"strings"
	"testing"

	"loop.example/stepstone/impl"
)

// shareRoom says whether two lists have a place in common, their spare room included.
func shareRoom[T any](a []T, b []T) bool {
	a, b = a[:cap(a)], b[:cap(b)]
	places := map[*T]bool{}
	for at := range a {
		places[&a[at]] = true
	}
	for at := range b {
		if places[&b[at]] {
			return true
		}
	}
	return false
}

// roomy is a copy of a list with marks behind its end, to see what is written there.
func roomy[T any](list []T, mark T) []T {
	wide := append(slices.Clone(list), mark, mark, mark)
	return wide[:len(list)]
}

var markIns = impl.Ins{Op: 77, N: 77, Name: "mark"}

// roomyUnit is a copy of a unit with marks behind the ends of all its lists.
func roomyUnit(u []impl.Fun) []impl.Fun {
	var wide []impl.Fun
	for _, f := range u {
		wide = append(wide, impl.Fun{Name: f.Name, Weak: f.Weak, Body: roomy(f.Body, markIns)})
	}
	return roomy(wide, impl.Fun{Name: "mark", Weak: true, Body: roomy([]impl.Ins{markIns}, markIns)})
}

// sameRoom says whether two units are the same in all their lists, with what stands behind their ends.
func sameRoom(a []impl.Fun, b []impl.Fun) bool {
	return len(a) == len(b) && slices.EqualFunc(a[:min(cap(a), len(a)+3)], b[:min(cap(b), len(b)+3)], func(f impl.Fun, g impl.Fun) bool {
		return f.Name == g.Name && f.Weak == g.Weak && len(f.Body) == len(g.Body) &&
			slices.Equal(f.Body[:min(cap(f.Body), len(f.Body)+3)], g.Body[:min(cap(g.Body), len(g.Body)+3)])
	})
}

// checkOwn fails if two lists of a unit share room.
func checkOwn(t *testing.T, u []impl.Fun) {
	t.Helper()
	for i := range u {
		for j := range u[:i] {
			if shareRoom(u[i].Body, u[j].Body) {
				t.Errorf("functions %d and %d share memory", j, i)
			}
		}
	}
}

// fun makes a function of the texts of its instructions.
func fun(t *testing.T, head string, lines ...string) impl.Fun {
	t.Helper()
	word, name, _ := strings.Cut(head, " ")
	f := impl.Fun{Name: name, Weak: word == "weak"}
	for _, line := range lines {
		i, ok := impl.InsRead(line)
		if !ok {
			t.Fatalf("%q", line)
		}
		f.Body = append(f.Body, i)
	}
	return f
}
