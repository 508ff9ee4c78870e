package shape_test

import (
	"slices"
	"strings"
	"testing"

	"turnstile/api"
	"turnstile/types"
)

// answers answers what is to be answered of a program, as the chapter's words say it: told apart from the program's own ways.
func (a ask) answers(p api.Program) answer {
	if _, e := types.Check(p); e != api.OK {
		return no(api.ErrArg)
	}
	switch a.call {
	case "words":
		return is(len(p.Shared))
	case "shared":
		for i := range p.Shared {
			if p.Shared[i].Name == a.name {
				return is(i + 1)
			}
		}
	case "size":
		return sizeAnswers(p, a.t)
	case "offset":
		for _, r := range p.Records {
			for i := range r.Fields {
				if r.Name == a.name && r.Fields[i].Name == a.another {
					return is(i)
				}
			}
		}
	}
	return no(api.ErrGone)
}

func sizeAnswers(p api.Program, t api.Type) answer {
	isRef := t.Kind == api.TyRef && isName(t.Name) && t.N == 0
	isArray := t.Kind == api.TyArray && (t.Name == "" || isName(t.Name)) && t.N >= 1 && t.N <= 64
	if !isRef && !isArray {
		return no(api.ErrType)
	}
	at := slices.IndexFunc(p.Records, func(r api.Record) bool { return r.Name == t.Name })
	if at < 0 && t.Name != "" {
		return no(api.ErrGone)
	}
	if isArray {
		return is(t.N)
	}
	return is(len(p.Records[at].Fields))
}

// isName says whether a text is a name, by the words of the document.
func isName(s string) bool {
	if len(s) < 1 || len(s) > 16 || s[0] < 'a' || s[0] > 'z' {
		return false
	}
	if strings.Trim(s, "abcdefghijklmnopqrstuvwxyz0123456789_") != "" {
		return false
	}
	return !slices.Contains(strings.Fields("record shared func thread var if else while atomic print return new nil int"), s)
}

// TestWholeProgram holds the chapter's words for whatever may be asked of a program that has all.
func TestWholeProgram(t *testing.T) {
	p := readTaken(t, wholeText)
	told := map[answer]bool{}
	for _, a := range asks(someNames()) {
		want := a.answers(p)
		told[want] = true
		a.test(t, "the whole program", p, want)
	}
	for _, want := range []answer{no(api.ErrGone), no(api.ErrType), is(0), is(1), is(4), is(5), is(6), is(8), is(64)} {
		if !told[want] {
			t.Errorf("nothing asked answers %v", want)
		}
	}
}
