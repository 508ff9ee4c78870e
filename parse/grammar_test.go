package parse_test

import (
	"math/rand"
	"slices"
	"strings"
	"testing"

	"turnstile/api"
	"turnstile/lex"
	"turnstile/parse"
)

// grammar is the language's, as rows of what a thing is. SIZE is a number of 1 or more, ZERO is 0, HUGE is 2^63; NEVER is no token: an expression that may not stand at the beginning of a statement is read to its end there, but nothing may stand behind it.
const grammar = `
text =
text = text thing
thing = record NAME { fields }
thing = shared field
thing = func NAME ( params ) result list
thing = thread list
fields = field
fields = fields field
field = NAME type ;
params =
params = some
some = NAME type
some = some , NAME type
result =
result = type
type = int
type = NAME
type = [ SIZE ] element
element = int
element = NAME
list = { stmts }
stmts =
stmts = stmts stmt
stmt = var NAME type ;
stmt = var NAME type = expr ;
stmt = if expr list
stmt = if expr list else list
stmt = while expr list
stmt = atomic list
stmt = print expr ;
stmt = return ;
stmt = return expr ;
stmt = place = expr ;
stmt = called ;
stmt = expr NEVER
place = NAME
place = head behind
place = ( place )
called = call
called = ( called )
call = NAME ( args )
args =
args = more
more = expr
more = more , expr
expr = operand
expr = expr sign operand
sign = ||
sign = &&
sign = ==
sign = !=
sign = <
sign = <=
sign = >
sign = >=
sign = +
sign = -
sign = *
sign = /
sign = %
operand = ahead head
operand = ahead head behind
ahead =
ahead = ahead -
ahead = ahead !
head = SIZE
head = ZERO
head = - SIZE
head = - ZERO
head = - HUGE
head = nil
head = NAME
head = call
head = new NAME
head = new [ SIZE ] element
head = ( expr )
behind = . NAME
behind = [ expr ]
behind = behind . NAME
behind = behind [ expr ]
`

type rule struct {
	left  string
	right []string
}

// state is how far a rule has been read, and from which token on.
type state struct{ rule, at, from int }

// oracle says of rows of tokens whether there is a text that begins so, by all rules at once: it is written apart from the program, and for any grammar.
type oracle struct {
	rules []rule
	lefts map[string][]int
	empty map[string]bool
	sets  [][]state
}

func newOracle() *oracle {
	o := &oracle{lefts: map[string][]int{}, empty: map[string]bool{}}
	for _, line := range strings.Split(strings.TrimSpace(grammar), "\n") {
		words := strings.Fields(line)
		o.lefts[words[0]] = append(o.lefts[words[0]], len(o.rules))
		o.empty[words[0]] = o.empty[words[0]] || len(words) == 2
		o.rules = append(o.rules, rule{words[0], words[2:]})
	}
	return o
}

// begin forgets all tokens.
func (o *oracle) begin(of string) {
	o.sets = nil
	var first []state
	for _, r := range o.lefts[of] {
		first = append(first, state{r, 0, 0})
	}
	o.add(first)
}

// asked is what a state asks for next; empty, if its rule is read to its end.
func (o *oracle) asked(s state) string {
	if right := o.rules[s.rule].right; s.at < len(right) {
		return right[s.at]
	}
	return ""
}

// add adds a set of states, and all that follow from them.
func (o *oracle) add(set []state) {
	here := len(o.sets)
	seen := map[state]bool{}
	for _, s := range set {
		seen[s] = true
	}
	put := func(s state) {
		if !seen[s] {
			seen[s] = true
			set = append(set, s)
		}
	}
	for i := 0; i < len(set); i++ {
		s := set[i]
		asked := o.asked(s)
		if asked == "" && s.from < here {
			for _, u := range o.sets[s.from] {
				if o.asked(u) == o.rules[s.rule].left {
					put(state{u.rule, u.at + 1, u.from})
				}
			}
		}
		for _, r := range o.lefts[asked] {
			put(state{r, 0, here})
		}
		// What may be nothing is passed over here, so a rule of nothing need not look for who asks.
		if o.empty[asked] {
			put(state{s.rule, s.at + 1, s.from})
		}
	}
	o.sets = append(o.sets, set)
}

// feed takes one more token, if it may stand there.
func (o *oracle) feed(token string) bool {
	var next []state
	for _, s := range o.sets[len(o.sets)-1] {
		if o.asked(s) == token {
			next = append(next, state{s.rule, s.at + 1, s.from})
		}
	}
	if len(next) == 0 {
		return false
	}
	o.add(next)
	return true
}

// back goes back to where so many tokens have been taken.
func (o *oracle) back(n int) { o.sets = o.sets[:n+1] }

// done says whether the tokens are a whole text.
func (o *oracle) done(of string) bool {
	for _, s := range o.sets[len(o.sets)-1] {
		if s.from == 0 && o.asked(s) == "" && o.rules[s.rule].left == of {
			return true
		}
	}
	return false
}

// may are the tokens that may stand next, each one once for each rule that asks for it.
func (o *oracle) may() (l []string) {
	for _, s := range o.sets[len(o.sets)-1] {
		if k := o.asked(s); k != "" && o.lefts[k] == nil && k != "NEVER" {
			l = append(l, k)
		}
	}
	return l
}

// sortOf is what the grammar calls a token.
func sortOf(t api.Token) string {
	switch {
	case t.Kind == api.TkName:
		return "NAME"
	case t.Kind == api.TkNumber && t.N == 0:
		return "ZERO"
	case t.Kind == api.TkNumber && t.N < 0:
		return "HUGE"
	case t.Kind == api.TkNumber:
		return "SIZE"
	}
	return t.Text
}

// textOf is a token of such a sort.
func textOf(sort string) string {
	switch sort {
	case "NAME":
		return "ab"
	case "ZERO":
		return "0"
	case "HUGE":
		return "9223372036854775808"
	case "SIZE":
		return "7"
	}
	return sort
}

// sorts are all sorts of tokens.
func sorts() []string {
	l := []string{"NAME", "ZERO", "HUGE", "SIZE"}
	l = append(l, strings.Fields("record shared func thread var if else while atomic print return new nil int")...)
	return append(l, strings.Fields("== != <= >= && || { } ( ) [ ] . , ; = < > + - * / % !")...)
}

// trial holds the program against the oracle.
type trial struct {
	*oracle
	*testing.T
	of string
}

func newTrial(t *testing.T, of string) *trial { return &trial{newOracle(), t, of} }

// try asks the program what is wrong with these tokens, one on a line: the first one that the oracle does not take, which has so many of them already.
func (r *trial) try(tokens []string) {
	r.Helper()
	n := len(r.sets) - 1
	for n < len(tokens) && r.feed(tokens[n]) {
		n++
	}
	right := n == len(tokens) && r.done(r.of)
	text := ""
	for _, k := range tokens {
		text += textOf(k) + "\n"
	}
	line, e := r.ask(text)
	if right && (e != api.OK || line != 0) {
		r.Errorf("%s is refused with the error %d at %d", short(text), e, line)
	}
	if !right && (e != api.ErrSyntax || line != n && r.of == "text") {
		r.Errorf("%s: the error %d at %d, not %d at %d", short(text), e, line, api.ErrSyntax, n)
	}
}

func (r *trial) ask(text string) (int, api.Errno) {
	if r.of == "text" {
		_, _, line, e := parse.Program(text)
		return line, e
	}
	_, e := parse.Expr(text)
	return 0, e
}

// around tries all texts that are made of one by ending it early, by leaving a token out, by another token in its stead, by one more; as far as the text is right.
func (r *trial) around(text string) {
	r.Helper()
	l, _, e := lex.Tokens(text)
	if e != api.OK {
		r.Fatalf("%s: no tokens", short(text))
	}
	var tokens []string
	for _, t := range l {
		tokens = append(tokens, sortOf(t))
	}
	r.begin(r.of)
	r.try(tokens)
	for i, k := range tokens {
		ahead, behind := tokens[:i], tokens[i+1:]
		r.from(i, ahead)
		r.from(i, ahead, behind)
		for _, s := range sorts() {
			r.from(i, ahead, []string{s}, behind)
			r.from(i, ahead, []string{s, k}, behind)
		}
		r.back(i)
		if !r.feed(k) {
			return
		}
	}
	for _, s := range sorts() {
		r.from(len(tokens), tokens, []string{s})
	}
}

// from tries tokens of which the oracle has taken so many before.
func (r *trial) from(n int, tokens ...[]string) {
	r.Helper()
	r.back(n)
	r.try(slices.Concat(tokens...))
}

func TestEachTokenInEachPlace(t *testing.T) {
	r := newTrial(t, "text")
	r.around(wholeText)
	for _, s := range []string{
		"thread { (a) = 1; (f()); ((a.b)) = (1); -5.f = 1; -5[a] = 1; (a + b).f = -a; }", "thread { f(1) + 2; }", "thread { if a { } else if b { } }",
		"thread { a[b] = c[0]; new r.f = 1; nil[1] = 2; new [2]int[0] = 1; f(g(a), h())[b].c = !-!1; }", "record r { a [2]r; } record q { b int; c r; }",
	} {
		r.around(s)
	}
	r = newTrial(t, "expr")
	for _, s := range []string{
		"a + b * -5 == !(c.d[e - 1] || nil != new [3]int) && f(a, -9223372036854775808) % 0", "-(-5.f)[new r.g]", "f(g(), h(1)(2))", "((((a))))",
	} {
		r.around(s)
	}
}

// TestTokensByChance goes on from what may stand there to what may stand there, and now and then to what may not.
func TestTokensByChance(t *testing.T) {
	chance := rand.New(rand.NewSource(4))
	all := sorts()
	for _, of := range []string{"text", "expr"} {
		r := newTrial(t, of)
		for range 4000 {
			var tokens []string
			r.begin(of)
			for range 1 + chance.Intn(40) {
				may := r.may()
				if chance.Intn(50) == 0 || len(may) == 0 {
					may = all
				}
				tokens = append(tokens, may[chance.Intn(len(may))])
				if !r.feed(tokens[len(tokens)-1]) {
					break
				}
			}
			r.from(0, tokens)
			r.from(0, tokens[:len(tokens)-1])
		}
	}
}
