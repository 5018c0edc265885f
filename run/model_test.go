package run_test

import (
	"math/rand"
	"strings"
	"testing"

	"querist/api"
)

// A writer makes random programs and queries as text.
type writer struct{ *rand.Rand }

func (w writer) pick(l ...string) string { return l[w.Intn(len(l))] }

func (w writer) list(n int, element func() string) string {
	l := make([]string, n)
	for i := range l {
		l[i] = element()
	}
	return strings.Join(l, ",")
}

func (w writer) leaf() string { return w.pick("X", "Y", "Z", "U", "X", "Y", "a", "b", "0", "1") }

func (w writer) term() string {
	if w.Intn(3) > 0 {
		return w.leaf()
	}
	return w.pick("f", "g") + "(" + w.list(1+w.Intn(3), w.leaf) + ")"
}

// The numbers of arguments of these predicates are those of their names, so that most goals have clauses.
func (w writer) head() string {
	switch name := w.pick("one", "two", "two", "three", "none"); name {
	case "one":
		return name + "(" + w.term() + ")"
	case "two":
		return name + "(" + w.list(2, w.term) + ")"
	case "three":
		return name + "(" + w.list(3, w.leaf) + ")"
	default:
		return name
	}
}

func (w writer) goal() string {
	switch w.Intn(10) {
	case 0:
		return "!"
	case 1:
		return w.pick("fail", "true", "true")
	case 2, 3:
		return "eq(" + w.list(2, w.term) + ")"
	case 4:
		return w.pick("less(0,1)", "less(X,1)", "less(X,Y)", "add(1,2,X)", "add(X,1,Y)", "add(X,-1,X)")
	}
	return w.head()
}

func (w writer) body() string { return w.list(1+w.Intn(4), w.goal) }

func (w writer) program() string {
	l := []string{"one(X).", "two(X,g(X,Y)).", "three(1,X,Y).", "none."}[w.Intn(4)*w.Intn(2):]
	for range 2 + w.Intn(9) {
		c := w.head()
		if w.Intn(3) > 0 {
			c += " :- " + w.body()
		}
		l = append(l, c+".")
	}
	w.Shuffle(len(l), func(i, j int) { l[i], l[j] = l[j], l[i] })
	return strings.Join(l, " ")
}

// P6.1: the events are those of solve.All, whenever the heap is collected.
func TestRandomPrograms(t *testing.T) {
	w := writer{rand.New(rand.NewSource(6))}
	kinds := map[int]int{}
	for range 3000 {
		p, q, vars := parse(t, w.program(), w.body()+".")
		// The fuel is more often large than small.
		fuel := api.MaxFuel - w.Intn(api.MaxFuel+1)*w.Intn(3)/2
		for _, e := range events(t, p, q, vars, fuel, []int{0, 1, 2 + w.Intn(20)}) {
			kinds[e.Kind]++
		}
		if t.Failed() {
			return
		}
	}
	if kinds[api.Answer] < 1000 || kinds[api.Done] < 1000 || kinds[api.Fuel] < 100 || kinds[api.Fault] < 100 || kinds[api.Enough] < 20 {
		t.Errorf("too few events of a kind: %v", kinds)
	}
}

// Programs that build lists and come back to their choice points over and over.
func TestRandomSearches(t *testing.T) {
	const program = "app(nil,X,X). app(c(A,X),Y,c(A,Z)) :- app(X,Y,Z). " +
		"mem(X,L) :- app(A,c(X,B),L). " +
		"sel(X,c(X,L),L). sel(X,c(Y,L),c(Y,M)) :- sel(X,L,M). " +
		"rev(nil,X,X). rev(c(A,X),Y,Z) :- rev(X,c(A,Y),Z). " +
		"len(nil,0). len(c(A,X),N) :- len(X,M), add(M,1,N). " +
		"once(X,L) :- mem(X,L), !. " +
		"not(X,L) :- mem(X,L), !, fail. not(X,L)."
	w := writer{rand.New(rand.NewSource(7))}
	item := func() string { return w.pick("A", "B", "1", "2", "f(A)", "f(2)", "f(B)") }
	list := func() string {
		s := w.pick("nil", "nil", "nil", "L")
		for range w.Intn(4) { // two of these fit into a goal
			s = "c(" + item() + "," + s + ")"
		}
		return s
	}
	goal := func() string {
		switch name := w.pick("app", "mem", "sel", "rev", "len", "once", "not", "mem", "less"); name {
		case "app", "rev":
			return name + "(" + w.pick("L", "M", list()) + "," + w.pick("L", "M") + "," + w.pick("L", "M", list()) + ")"
		case "sel":
			return name + "(" + item() + "," + w.pick("L", list()) + ",M)"
		case "len":
			return name + "(" + w.pick("L", "M") + ",N)"
		case "less":
			return "less(N,3)"
		default:
			return name + "(" + item() + "," + w.pick("L", "M", list()) + ")"
		}
	}
	kinds := map[int]int{}
	for range 1200 {
		p, q, vars := parse(t, program, "eq(L,"+list()+"),"+w.list(1+w.Intn(4), goal)+".")
		for _, e := range events(t, p, q, vars, api.MaxFuel, []int{0, 1, 2 + w.Intn(20)}) {
			kinds[e.Kind]++
		}
		if t.Failed() {
			return
		}
	}
	if kinds[api.Answer] < 1000 || kinds[api.Done] < 200 || kinds[api.Enough] < 50 {
		t.Errorf("too few events of a kind: %v", kinds)
	}
}

// With each period other goals come after a collection.
func TestAllPeriods(t *testing.T) {
	p, q, vars := parse(t, "p(X,Y) :- q(X), q(Y), less(X,Y), r(X,Y). q(1). q(2). q(3). r(X,Y) :- add(X,Y,Z), s(Z), !. r(X,X). s(4). s(5).", "p(X,Y), eq(Z,f(X,Y,W)).")
	var periods []int
	for every := range api.MaxFuel {
		periods = append(periods, every)
	}
	const want = "[1 3 f(1,3,A) A] [2 3 f(2,3,A) A] done"
	if got := lines(events(t, p, q, vars, api.MaxFuel, periods)); got != want {
		t.Errorf("%s, not %s", got, want)
	}
}
