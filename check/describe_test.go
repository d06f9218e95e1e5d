package check_test

import (
	"fmt"
	"reflect"
	"strconv"
	"strings"
	"testing"

	"rushlight/api"
	"rushlight/check"
	"rushlight/tree"
)

// fns is the names of the functions of words.
var fns = strings.Fields("none add sub mul div rem and or xor shl shr eq ne lt gt le ge neg not zero")

// describe is a term as text: its kind; what its fields say, a * for Ptr; its operands. Fields that the kind has no meaning for are told behind a !.
func describe(t api.Term) string {
	rest := t
	star := ""
	if t.Ptr {
		star = "*"
	}
	size, num := strconv.Itoa(t.Size), strconv.FormatUint(uint64(t.Num), 10)
	rest.Kind, rest.Ptr, rest.Kids = 0, false, nil
	s := ""
	switch t.Kind {
	case api.TmConst:
		s, rest.Num = num+star, 0
	case api.TmAddr:
		s, rest.Var, rest.Global, star = "v"+strconv.Itoa(t.Var), 0, false, strings.TrimPrefix("-"+star, "-*")
		if t.Global {
			s = "g" + s[1:]
		}
		s += star
	case api.TmLoad, api.TmStore:
		s, rest.Size = []string{"load", "store"}[t.Kind-api.TmLoad]+size+star, 0
	case api.TmUnary, api.TmBinary:
		s, rest.Fn = fns[t.Fn]+star, 0
	case api.TmAnd, api.TmOr, api.TmCond:
		s = []string{"both", "either", "cond"}[t.Kind-api.TmAnd] + star
	case api.TmCall:
		s, rest.Var = "call"+strconv.Itoa(t.Var)+star, 0
	case api.TmOut, api.TmIn:
		s = []string{"out", "in"}[t.Kind-api.TmOut] + star
	case api.TmField:
		s, rest.Num, rest.Size = "part"+num+":"+size+strings.TrimPrefix("-"+star, "-*"), 0, 0
	case api.TmIndex:
		s, rest.Size = "index"+size+strings.TrimPrefix("-"+star, "-*"), 0
		if t.Fn == api.FnSub {
			s, rest.Fn = "back"+s, 0
		}
	case api.TmStep:
		s, rest.Num, rest.Size, rest.Post = "step"+strconv.Itoa(int(int32(t.Num)))+":"+size+star, 0, 0, false
		if t.Post {
			s = "post" + s
		}
	case api.TmUpdate:
		s, rest.Fn, rest.Size, rest.Num = fns[t.Fn]+"to"+size+star, 0, 0, 0
		if t.Num > 0 {
			s += "by" + num
		}
	case api.TmCut:
		s = "cut" + star
	default:
		s = "kind" + strconv.Itoa(t.Kind)
	}
	if !reflect.DeepEqual(rest, api.Term{}) {
		s += fmt.Sprintf("!%+v", rest)
	}
	if len(t.Kids) > 0 {
		s += "(" + describeAll(t.Kids) + ")"
	}
	return s
}

// describeAll is terms as text.
func describeAll(l []api.Term) string {
	var texts []string
	for _, t := range l {
		texts = append(texts, describe(t))
	}
	return strings.Join(texts, ", ")
}

// describeActs is acts as text.
func describeActs(l []api.Act) string {
	var texts []string
	for _, a := range l {
		texts = append(texts, describeAct(a))
	}
	return strings.Join(texts, "; ")
}

// describeAct is an act as text: its kind, its terms, and what it contains in braces.
func describeAct(a api.Act) string {
	rest := a
	rest.Kind, rest.A = 0, nil
	terms := describeAll(a.A)
	if terms != "" {
		terms = " " + terms
	}
	s := ""
	switch a.Kind {
	case api.AcExpr:
		s = "do" + terms
	case api.AcIf:
		s, rest.Body, rest.Else = "if"+terms+" {"+describeActs(a.Body)+"} {"+describeActs(a.Else)+"}", nil, nil
	case api.AcLoop:
		s, rest.Body, rest.Post, rest.First = "loop"+terms+" {"+describeActs(a.Body)+"} "+describeAll(a.Post), nil, nil, false
		if a.First {
			s = "first" + s
		}
	case api.AcSwitch:
		s, rest.Cases = "switch"+terms+" {"+describeCases(a.Cases)+"}", nil
	case api.AcReturn, api.AcBreak, api.AcContinue:
		s = []string{"return", "break", "continue"}[a.Kind-api.AcReturn] + terms
	case api.AcBlock:
		s, rest.Body = "{"+describeActs(a.Body)+"}"+terms, nil
	case api.AcNew:
		s, rest.Var = "new"+strconv.Itoa(a.Var)+terms, 0
	default:
		s = "kind" + strconv.Itoa(a.Kind)
	}
	s = strings.TrimSpace(s)
	if !reflect.DeepEqual(rest, api.Act{}) {
		s += fmt.Sprintf("!%+v", rest)
	}
	return s
}

// describeCases is the cases of a switch as text.
func describeCases(l []api.Choice) string {
	var texts []string
	for _, x := range l {
		label := strconv.FormatUint(uint64(x.Num), 10)
		if x.Default {
			label = strings.TrimSuffix("default"+label, "0")
		}
		texts = append(texts, label+": {"+describeActs(x.Body)+"}")
	}
	return strings.Join(texts, " ")
}

// parse is the tree of a text that must have one.
func parse(t *testing.T, s string) api.Program {
	t.Helper()
	p, pos, e := tree.Read(s)
	if e != api.OK {
		t.Fatalf("%.300q: no tree: %v at %v", s, e, pos)
	}
	return p
}

// unit is the unit of a text that must have one.
func unit(t *testing.T, s string) api.Unit {
	t.Helper()
	u, pos, e := check.Check(parse(t, s))
	if e != api.OK || pos != (api.Pos{}) {
		t.Fatalf("%.300q: %v at %v", s, e, pos)
	}
	return u
}

// fails reports as a fault a text that does not have this error, at the position that a $ marks in it, and nothing beside them.
func fails(t *testing.T, s string, want api.Errno) {
	t.Helper()
	ahead, behind, marked := strings.Cut(s, "$")
	if !marked {
		t.Fatalf("%q: no mark", s)
	}
	at := api.Pos{Line: 1 + strings.Count(ahead, "\n"), Col: len(ahead) - strings.LastIndex(ahead, "\n")}
	u, pos, e := check.Check(parse(t, ahead+behind))
	if !reflect.DeepEqual(u, api.Unit{}) || pos != at || e != want {
		t.Errorf("%.300q: %v at %v, not %v at %v", s, e, pos, want, at)
	}
}
