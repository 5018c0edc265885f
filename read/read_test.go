package read_test

import (
	"math"
	"math/rand"
	"reflect"
	"regexp"
	"runtime/debug"
	"strings"
	"testing"

	"querist/api"
	"querist/read"
	"querist/term"
)

func variable(n int) api.Term { return api.Term{Kind: api.Var, N: n} }

func atom(s string) api.Term { return api.Term{Kind: api.Atom, S: s} }

func number(n int) api.Term { return api.Term{Kind: api.Int, N: n} }

func comp(s string, args ...api.Term) api.Term {
	return api.Term{Kind: api.Comp, S: s, Args: args}
}

// nested is the text of n terms, each of them the argument of the one before.
func nested(n int) string {
	return strings.Repeat("f(", n-1) + "a" + strings.Repeat(")", n-1)
}

func wantProgram(t *testing.T, s string, want []api.Clause) {
	t.Helper()
	l, e := read.Program(s)
	if e != api.OK || len(l) != len(want) || len(l) > 0 && !reflect.DeepEqual(l, want) {
		t.Errorf("Program(%q) = %+v, %d, not %+v", s, l, e, want)
	}
}

func wantProgramError(t *testing.T, s string, want api.Errno) {
	t.Helper()
	if l, e := read.Program(s); e != want || len(l) != 0 {
		t.Errorf("Program(%q) = %+v, %d, not %d", s, l, e, want)
	}
}

func wantQuery(t *testing.T, s string, want []api.Term, vars int) {
	t.Helper()
	if l, n, e := read.Query(s); e != api.OK || n != vars || !reflect.DeepEqual(l, want) {
		t.Errorf("Query(%q) = %+v, %d, %d, not %+v, %d", s, l, n, e, want, vars)
	}
}

func wantQueryError(t *testing.T, s string, want api.Errno) {
	t.Helper()
	if l, n, e := read.Query(s); e != want || n != 0 || len(l) != 0 {
		t.Errorf("Query(%q) = %+v, %d, %d, not %d", s, l, n, e, want)
	}
}

// P2.1
func TestTerms(t *testing.T) {
	a, x, y, z := atom("a"), variable(0), variable(1), variable(2)
	for _, c := range []struct {
		s    string
		want api.Term
		vars int
	}{
		{"a", a, 0},
		{"z", atom("z"), 0},
		{"abcdefgh", atom("abcdefgh"), 0},
		{"!", atom("!"), 0},
		{"A", x, 1},
		{"Z", x, 1},
		{"Xyz", x, 1},
		{"Averylongvariable", x, 1},
		{"0", number(0), 0},
		{"9", number(9), 0},
		{"10", number(10), 0},
		{"-1", number(-1), 0},
		{"-909", number(-909), 0},
		{"1099511627776", number(api.MaxNumber), 0},
		{"-1099511627776", number(-api.MaxNumber), 0},
		{"f(a)", comp("f", a), 0},
		{"f(!)", comp("f", atom("!")), 0},
		{"f(a,a,a,a)", comp("f", a, a, a, a), 0},
		{"f(1,0,-1)", comp("f", number(1), number(0), number(-1)), 0},
		{"f(g(a,X),-2)", comp("f", comp("g", a, x), number(-2)), 1},
		{"f(X,X)", comp("f", x, x), 1},
		{"f(X,x)", comp("f", x, atom("x")), 1},
		{"f(Xy,X,Xyz,Xy)", comp("f", x, y, z, x), 3},
		{"f(Z,g(Y,Z),X,Y)", comp("f", x, comp("g", y, x), z, y), 3},
		{"f(g(Y),X)", comp("f", comp("g", x), y), 2},
		{" \t f \n(\r\n a ,\tX ) ", comp("f", a, x), 1},
		{"\nf\r(\t-1 , 2\n)", comp("f", number(-1), number(2)), 0},
	} {
		wantProgram(t, "p("+c.s+").", []api.Clause{{Head: comp("p", c.want), Vars: c.vars}})
		wantQuery(t, "p("+c.s+").", []api.Term{comp("p", c.want)}, c.vars)
		if term.Goal(c.want) {
			wantProgram(t, "p:-"+c.s+".", []api.Clause{{Head: atom("p"), Body: []api.Term{c.want}, Vars: c.vars}})
			wantQuery(t, c.s+".", []api.Term{c.want}, c.vars)
		}
	}
}

func TestTextsThatAreNoTerms(t *testing.T) {
	for _, s := range []string{
		"", " ", ",", "a,", ",a", "a,,a", "a a", "a.", "(", ")", "(a)", "()", "a()", "a(", "a)", "a(a", "a(a))", "a(a,)", "a(,a)",
		"A(a)", "1(a)", "!(a)", "f(a)(a)", "!a", "a!", "!!", "aB", "AB", "ABc", "aBc", "a1", "1a", "A1", "1A", "1 2", "1-1", "a-1",
		"007", "00", "01", "-0", "-00", "-01", "-007", "-", "- 1", "--1", "1-", "+1", "1.5", "-a", "-A",
		"1099511627777", "-1099511627777", "9223372036854775807", "-9223372036854775808", "18446744073709551617", "99999999999999999999999999",
		":-", ":", "a:-a", ": -", "#", "_", "_a", "a_b", "X_", "'a'", "\"a\"", "[a]", "a;a", "a\x00", "\x00", "\x0b", "a\x0b", "a\x0c", "\xa0", "\u00a0a", "ä", "É", "\xff", "%a", "@", "[", "`", "{", "/", "~",
		"abcdefghi", "abcdefghi(a)", "f(abcdefghi)", "a(a,a,a,a,a)", "f(a(a,a,a,a,a))",
	} {
		wantProgramError(t, "p("+s+").", api.ErrForm)
		wantQueryError(t, "p("+s+").", api.ErrForm)
	}
}

// Each byte by itself, as a token and as white space.
func TestBytes(t *testing.T) {
	for b := range 256 {
		s := string([]byte{byte(b)})
		token := b >= 'a' && b <= 'z' || b >= 'A' && b <= 'Z' || b >= '0' && b <= '9' || b == '!'
		if _, _, e := read.Query("p(" + s + ")."); (e == api.OK) != token || e != api.OK && e != api.ErrForm {
			t.Errorf("%q: %d", s, e)
		}
		white := b == ' ' || b == '\n' || b == '\r' || b == '\t'
		if _, _, e := read.Query(s + "p" + s + "." + s); (e == api.OK) != white || e != api.OK && e != api.ErrForm {
			t.Errorf("%q: %d", s, e)
		}
	}
}

func TestNestedTerms(t *testing.T) {
	want := atom("a")
	for range api.MaxNodes - 1 {
		want = comp("f", want)
	}
	s := nested(api.MaxNodes)
	wantProgram(t, s+".", []api.Clause{{Head: want}})
	wantProgram(t, "a:-"+s+","+s+".", []api.Clause{{Head: atom("a"), Body: []api.Term{want, want}}})
	wantQuery(t, s+".", []api.Term{want}, 0)
	for _, n := range []int{api.MaxNodes + 1, 100, 600} {
		wantProgramError(t, nested(n)+".", api.ErrForm)
		wantProgramError(t, "a:-a,"+nested(n)+".", api.ErrForm)
		wantQueryError(t, "a,"+nested(n)+".", api.ErrForm)
	}
	wantProgramError(t, strings.Repeat("f(", 1000), api.ErrForm)
	wantQueryError(t, strings.Repeat("f(", 1000), api.ErrForm)
}

// P2.2
func TestProgram(t *testing.T) {
	a, x, y, z, v := atom("a"), variable(0), variable(1), variable(2), variable(3)
	fact := api.Clause{Head: a}
	for _, c := range []struct {
		s    string
		want []api.Clause
	}{
		{"", nil},
		{" \n\r\t", nil},
		{"a.", []api.Clause{fact}},
		{"\ta\t.\t", []api.Clause{fact}},
		{"a.a.", []api.Clause{fact, fact}},
		{"a.\na.\n\na.\n", []api.Clause{fact, fact, fact}},
		{"a:-a.", []api.Clause{{Head: a, Body: []api.Term{a}}}},
		{"a :- a , ! , true .", []api.Clause{{Head: a, Body: []api.Term{a, atom("!"), atom("true")}}}},
		{"app(nil,X,X). app(cons(A,X),Y,cons(A,Z)) :- app(X,Y,Z).", []api.Clause{
			{Head: comp("app", atom("nil"), x, x), Vars: 1},
			{Head: comp("app", comp("cons", x, y), z, comp("cons", x, v)), Body: []api.Term{comp("app", y, z, v)}, Vars: 4},
		}},
		{"p(1). p(2). r(X) :- p(X), !.", []api.Clause{
			{Head: comp("p", number(1))},
			{Head: comp("p", number(2))},
			{Head: comp("r", x), Body: []api.Term{comp("p", x), atom("!")}, Vars: 1},
		}},
		// The variables of a clause are its own, also those that occur in the Body only.
		{"a:-f(Y,X).f(X,Y):-g(Z,Y,X).", []api.Clause{
			{Head: a, Body: []api.Term{comp("f", x, y)}, Vars: 2},
			{Head: comp("f", x, y), Body: []api.Term{comp("g", z, y, x)}, Vars: 3},
		}},
		{"p(A,B,C,D):-q(E,F,G,H),r(A).", []api.Clause{{
			Head: comp("p", x, y, z, v),
			Body: []api.Term{comp("q", variable(4), variable(5), variable(6), variable(7)), comp("r", x)},
			Vars: api.MaxVars,
		}}},
		{"a:-a,a,a,a,a.", []api.Clause{{Head: a, Body: []api.Term{a, a, a, a, a}}}},
		{"eq(a).true(a).", []api.Clause{{Head: comp("eq", a)}, {Head: comp("true", a)}}},
		{"a:-eq(X,less).", []api.Clause{{Head: a, Body: []api.Term{comp("eq", x, atom("less"))}, Vars: 1}}},
	} {
		wantProgram(t, c.s, c.want)
	}
}

func TestTextsThatAreNoPrograms(t *testing.T) {
	wide := "f(f(a,a,a,a),f(a,a,a,a),f(a,a,a,a),f(a,a,a,a))" // 21 nodes
	if _, e := read.Program("g(" + wide + ",a,a). a:-g(a," + wide + ",a)."); e != api.OK {
		t.Error("24 nodes")
	}
	for _, s := range []string{
		".", "a", "a..", ".a.", "a.a", "a. .", "a b.", "a,b.", "a:-", "a:-.", "a:-b", "a:-b,.", "a:-,b.", "a:-b,,c.", "a:-b c.", "a:-b:-c.", ":-a.", ":-.", "a:- -.", "a: -b.", "a-:b.", "a-b.", "a:b.", "a:.", "a::-b.", "a:-b.)", "a(b).:-", "a.#", "#a.", "a.b.c",
		"X.", "1.", "-1.", "X:-a.", "a:-X.", "a:-a,X.", "a:-1.", "a:-a,-1.", "P(x).", "a:-P(x).",
		"!.", "true.", "fail.", "eq(X,X).", "less(a,b).", "add(a,b,c).", "!:-a.", "true:-true.", "eq(X,Y):-p(X,Y).",
		"abcdefghi.", "a:-abcdefghi.", "a(a,a,a,a,a).", "a:-a(a,a,a,a,a).", "a:-a,a,a,a,a,a.",
		"p(A,B,C,D):-q(E,F,G,H),r(I).", "p(A,B,C,D):-q(E,F,G,H),r(I),s(J,K,L,M).",
		"g(" + wide + ",a,a,a).", "a:-g(" + wide + ",a,a,a).", "a:-a,g(" + wide + "," + wide + ").",
	} {
		wantProgramError(t, s, api.ErrForm)
		wantProgramError(t, "a."+s, api.ErrForm)
		wantProgramError(t, s+"\na:-a.", api.ErrForm)
	}
}

func TestLongPrograms(t *testing.T) {
	var most []api.Clause
	for range api.MaxClauses {
		most = append(most, api.Clause{Head: atom("a")})
	}
	s := strings.Repeat("a.", api.MaxClauses)
	wantProgram(t, s, most)
	wantProgramError(t, s+"a.", api.ErrLong)
	wantProgramError(t, strings.Repeat("a.", 1000), api.ErrLong)
	// An error of form comes before too many clauses, wherever it is.
	for _, end := range []string{"a", "!.", "a.#", "a(", "a.X.", "a(01)."} {
		wantProgramError(t, s+end, api.ErrForm)
		wantProgramError(t, "#"+s+"a.", api.ErrForm)
	}
	// A text that is too long has no other error.
	gap := func(n int) string { return "a." + strings.Repeat(" ", n-4) + "a." }
	wantProgram(t, gap(api.MaxSource), most[:2])
	wantProgramError(t, gap(api.MaxSource+1), api.ErrLong)
	wantProgram(t, strings.Repeat(" ", api.MaxSource), nil)
	wantProgramError(t, strings.Repeat(" ", api.MaxSource+1), api.ErrLong)
	wantProgramError(t, strings.Repeat("#", api.MaxSource), api.ErrForm)
	wantProgramError(t, strings.Repeat("#", api.MaxSource+1), api.ErrLong)
	wantProgramError(t, strings.Repeat("a(", 1<<20), api.ErrLong)
}

// P2.3
func TestQuery(t *testing.T) {
	a, x, y := atom("a"), variable(0), variable(1)
	for _, c := range []struct {
		s    string
		want []api.Term
		vars int
	}{
		{"app(X,Y,cons(1,nil)).", []api.Term{comp("app", x, y, comp("cons", number(1), atom("nil")))}, 2},
		{"a.", []api.Term{a}, 0},
		{"\n a\r,\ta .\n\n", []api.Term{a, a}, 0},
		{"a,a,a,a,a.", []api.Term{a, a, a, a, a}, 0},
		{"p(Y),q(X,Y),!.", []api.Term{comp("p", x), comp("q", y, x), atom("!")}, 2},
		{"eq(X,Y),true,fail,less(1,2),add(1,X,Y).", []api.Term{comp("eq", x, y), atom("true"), atom("fail"), comp("less", number(1), number(2)), comp("add", number(1), x, y)}, 2},
		{"p(A,B,C,D),q(E,F,G,H).", []api.Term{comp("p", x, y, variable(2), variable(3)), comp("q", variable(4), variable(5), variable(6), variable(7))}, api.MaxVars},
	} {
		wantQuery(t, c.s, c.want, c.vars)
	}
	// Numbers of variables do not go on from one call to the next.
	wantQuery(t, "p(Z).", []api.Term{comp("p", x)}, 1)
}

func TestTextsThatAreNoQueries(t *testing.T) {
	for _, s := range []string{
		"", " ", ".", ",.", "a", "a,", "a,.", ",a.", "a,,a.", "a a.", "a..", "a.a.", "a.a", "a.,", "a.#", "a.:-", "a. b.", "a.!", "a.1", "a.X", ":-a.", "a:-a.", "a:-.", "a(.", "a(a.", "a).", "#", "a#.",
		"X.", "1.", "-1.", "a,X.", "a,1.", "X,a.", "X(a).", "f(00).", "f(-0).",
		"a,a,a,a,a,a.", "abcdefghi.", "a(a,a,a,a,a).", "p(A,B,C,D),q(E,F,G,H),r(I).", "p(A,B,C,D),q(E,F,G,H),r(I,J,K,L).",
	} {
		wantQueryError(t, s, api.ErrForm)
	}
}

func TestLongQueries(t *testing.T) {
	gap := func(n int) string { return "a," + strings.Repeat("\n", n-4) + "a." }
	wantQuery(t, gap(api.MaxSource), []api.Term{atom("a"), atom("a")}, 0)
	wantQueryError(t, gap(api.MaxSource+1), api.ErrLong)
	wantQueryError(t, strings.Repeat("a,", 999)+"a.", api.ErrForm)
	wantQueryError(t, strings.Repeat("#", api.MaxSource), api.ErrForm)
	wantQueryError(t, strings.Repeat("#", api.MaxSource+1), api.ErrLong)
	wantQueryError(t, strings.Repeat("a(", 1<<20), api.ErrLong)
}

// A grammar recognizes programs and queries that are too short to exceed a limit: tokens are replaced by letters, and compound terms by t, from the innermost ones on.
type grammar struct{ space, token, number, compound, program, query *regexp.Regexp }

func newGrammar() grammar {
	return grammar{
		regexp.MustCompile(`^[ \n\r\t]*`),
		regexp.MustCompile(`^([A-Z][a-z]*|[a-z]+|-?[0-9]+|[(),.!]|:-)`),
		regexp.MustCompile(`^(0|-?[1-9][0-9]*)$`),
		regexp.MustCompile(`w\([vwnt!](,[vwnt!])*\)`),
		regexp.MustCompile(`^([wt](:-[wt!](,[wt!])*)?\.)*$`),
		regexp.MustCompile(`^[wt!](,[wt!])*\.$`),
	}
}

func (g grammar) terms(s string) string {
	out := ""
	for {
		s = s[len(g.space.FindString(s)):]
		if s == "" {
			break
		}
		token := g.token.FindString(s)
		if token == "" {
			return "#"
		}
		s = s[len(token):]
		switch b := token[0]; {
		case b >= 'A' && b <= 'Z':
			out += "v"
		case b >= 'a' && b <= 'z':
			out += "w"
		case g.number.MatchString(token):
			out += "n"
		case b >= '0' && b <= '9' || b == '-':
			return "#"
		default:
			out += token
		}
	}
	for g.compound.MatchString(out) {
		out = g.compound.ReplaceAllString(out, "t")
	}
	return out
}

// All texts of a few bytes, by themselves and in the place of terms.
func TestAllShortTexts(t *testing.T) {
	g := newGrammar()
	texts := []string{""}
	start := 0
	for range 4 {
		end := len(texts)
		for _, s := range texts[start:end] {
			for _, b := range "pX01-(),.!: " {
				texts = append(texts, s+string(b))
			}
		}
		start = end
	}
	result := func(ok bool) api.Errno {
		if ok {
			return api.OK
		}
		return api.ErrForm
	}
	for _, s := range texts {
		for _, s := range []string{s, "p(" + s + ").", "p:-" + s + ".", "q" + s + "."} {
			terms := g.terms(s)
			if _, e := read.Program(s); e != result(g.program.MatchString(terms)) {
				t.Errorf("Program(%q): %d", s, e)
			}
			if _, _, e := read.Query(s); e != result(g.query.MatchString(terms)) {
				t.Errorf("Query(%q): %d", s, e)
			}
		}
	}
}

// writer makes up clauses, with their text: variables in the order in which they are numbered, and white space between tokens.
type writer struct {
	random *rand.Rand
	out    strings.Builder
	vars   int
}

func (w *writer) write(tokens ...string) {
	for _, s := range tokens {
		for w.random.Intn(3) == 0 {
			w.out.WriteByte(" \n\r\t"[w.random.Intn(4)])
		}
		w.out.WriteString(s)
	}
}

func (w *writer) term(kind, depth int) api.Term {
	switch kind {
	case api.Var:
		n := w.random.Intn(min(w.vars+1, api.MaxVars))
		w.vars = max(w.vars, n+1)
		w.write([]string{"X", "Xx", "Y", "A", "Abcabcabcabc", "Z", "B", "Ba"}[n])
		return variable(n)
	case api.Int:
		i := w.random.Intn(5)
		w.write([]string{"0", "12", "-30", "1099511627776", "-1099511627776"}[i])
		return number([]int{0, 12, -30, api.MaxNumber, -api.MaxNumber}[i])
	}
	s := []string{"p", "q", "abcdefgh", "z"}[w.random.Intn(4)]
	w.write(s)
	if kind == api.Atom {
		return atom(s)
	}
	t := comp(s)
	for i := range 1 + w.random.Intn(3) {
		w.write([]string{"(", ",", ",", ","}[i])
		kind := w.random.Intn(4)
		if depth == 0 {
			kind = w.random.Intn(3)
		}
		t.Args = append(t.Args, w.term(kind, depth-1))
	}
	w.write(")")
	return t
}

func (w *writer) goal() api.Term {
	return w.term([]int{api.Atom, api.Comp}[w.random.Intn(2)], 1)
}

func (w *writer) goals() []api.Term {
	l := []api.Term{w.goal()}
	for w.random.Intn(3) > 0 && len(l) < api.MaxBody {
		w.write(",")
		l = append(l, w.goal())
	}
	return l
}

func (w *writer) clause() api.Clause {
	w.vars = 0
	c := api.Clause{Head: w.goal()}
	if w.random.Intn(2) == 0 {
		w.write(":-")
		c.Body = w.goals()
	}
	w.write(".")
	c.Vars = w.vars
	return c
}

func TestManyTexts(t *testing.T) {
	random := rand.New(rand.NewSource(2))
	for range 2000 {
		w := &writer{random: random}
		var l []api.Clause
		for range random.Intn(4) {
			l = append(l, w.clause())
		}
		w.write("")
		wantProgram(t, w.out.String(), l)
		w = &writer{random: random}
		q := w.goals()
		w.write(".", "")
		wantQuery(t, w.out.String(), q, w.vars)
		// What is printed is read again.
		var printed []string
		for _, x := range q {
			printed = append(printed, read.Print(x))
		}
		wantQuery(t, strings.Join(printed, ",")+".", q, w.vars)
	}
}

// P2.4
func TestPrint(t *testing.T) {
	a := atom("a")
	other := api.Term{Kind: 4, N: 1, S: "s", Args: []api.Term{a}}
	for _, c := range []struct {
		t    api.Term
		want string
	}{
		{variable(0), "A"},
		{variable(1), "B"},
		{variable(7), "H"},
		{variable(25), "Z"},
		{variable(26), "Zz"},
		{variable(27), "Zz"},
		{variable(-1), "Zz"},
		{variable(1 << 32), "Zz"},
		{variable(math.MaxInt), "Zz"},
		{variable(math.MinInt), "Zz"},
		{api.Term{Kind: api.Var, N: 2, S: "s", Args: []api.Term{a}}, "C"},
		{number(0), "0"},
		{number(12), "12"},
		{number(-30), "-30"},
		{number(math.MaxInt), "9223372036854775807"},
		{number(math.MinInt), "-9223372036854775808"},
		{api.Term{Kind: api.Int, N: 2, S: "s", Args: []api.Term{a}}, "2"},
		{a, "a"},
		{atom("!"), "!"},
		{atom(""), ""},
		{atom("No name,"), "No name,"},
		{atom("\xff"), "\xff"},
		{api.Term{Kind: api.Atom, N: 5, S: "a"}, "a"},
		{api.Term{Kind: api.Atom, S: "a", Args: []api.Term{variable(1), number(2)}}, "a(B,2)"},
		{comp("f"), "f"},
		{api.Term{Kind: api.Comp, S: "f", Args: []api.Term{}}, "f"},
		{comp("f", a), "f(a)"},
		{comp("f", a, variable(0), number(-1), atom("!")), "f(a,A,-1,!)"},
		{comp("f", comp("g", a, comp("h", a)), comp("g", comp("h"), comp("h", a), a)), "f(g(a,h(a)),g(h,h(a),a))"},
		{comp("f", comp("f", comp("f", a))), "f(f(f(a)))"},
		{comp("", a, a, a, a, a, a), "(a,a,a,a,a,a)"},
		{comp("!", a), "!(a)"},
		{other, ""},
		{api.Term{Kind: -1, S: "s"}, ""},
		{api.Term{Kind: math.MinInt, S: "s"}, ""},
		{comp("f", other), "f()"},
		{comp("f", other, a, other, other), "f(,a,,)"},
		{comp("f", variable(99), comp("g", variable(25))), "f(Zz,g(Z))"},
	} {
		if got := read.Print(c.t); got != c.want {
			t.Errorf("Print(%+v) = %q, not %q", c.t, got, c.want)
		}
	}
	for n := range 26 {
		if got := read.Print(variable(n)); got != "ABCDEFGHIJKLMNOPQRSTUVWXYZ"[n:n+1] {
			t.Errorf("variable %d: %q", n, got)
		}
	}
}

// A term may be deeper than the call stack allows: the lower limit here stands for still deeper terms.
func TestPrintDeepTerms(t *testing.T) {
	defer debug.SetMaxStack(debug.SetMaxStack(1 << 24))
	const depth = 1 << 20
	x, y := number(7), number(7)
	for range depth {
		x, y = comp("f", x), comp("g", atom("a"), y, atom("b"))
	}
	if s := read.Print(x); s != strings.Repeat("f(", depth)+"7"+strings.Repeat(")", depth) {
		t.Errorf("%d bytes", len(s))
	}
	if s := read.Print(y); s != strings.Repeat("g(a,", depth)+"7"+strings.Repeat(",b)", depth) {
		t.Errorf("%d bytes", len(s))
	}
}

// The lists of a result can be changed without changing another one, and Print changes none.
func TestListsAreSeparate(t *testing.T) {
	l, _ := read.Program("p(f(X),f(X)):-p(f(X),f(X)).p(f(X),f(X)).")
	m, _ := read.Program("p(f(X),f(X)):-p(f(X),f(X)).p(f(X),f(X)).")
	read.Print(l[0].Head)
	args := l[0].Head.Args[0].Args
	args = args[:cap(args)]
	for i := range args {
		args[i] = atom("x")
	}
	m[0].Head.Args[0].Args[0] = atom("x")
	if !reflect.DeepEqual(l, m) {
		t.Errorf("%+v", l)
	}
}
