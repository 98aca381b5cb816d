package check_test

import (
	"fmt"
	"slices"
	"strings"

	"drawloom/api"
)

// The chapter's rules, written down once more without the program's way: a program becomes the list of what is checked, in order, and each of these is judged by what stands before it in the list.

// What is checked of a name, or of a position.
const (
	aTitle    = iota // of a function or a kernel
	aWord            // a variable or an integer parameter is declared
	aCells           // a buffer or a shared array is declared
	wantWord         // a variable or an integer parameter is used
	wantCells        // a buffer or a shared array is used
	aCall            // a function is called
	misplaced        // something is not allowed at its position
)

// event is something that is checked. Where is the list of statements in which it stands; it begins with the lists around it.
type event struct {
	kind, unit, kids int
	where, name      string
}

// lister writes down what is checked in a program.
type lister struct {
	events []event
	unit   int
	kernel bool
}

func (l *lister) add(kind int, where, name string, kids int) {
	l.events = append(l.events, event{kind, l.unit, kids, where, name})
}

func (l *lister) program(p api.Program) {
	for _, f := range p.Funcs {
		l.add(aTitle, "", f.Name, len(f.Params))
		for _, name := range f.Params {
			l.add(aWord, "", name, 0)
		}
		l.stmts(f.Body, "/")
		l.unit++
	}
	l.kernel = true
	for _, k := range p.Kernels {
		l.add(aTitle, "", k.Name, 0)
		for _, x := range k.Params {
			l.add(map[bool]int{false: aWord, true: aCells}[x.Buffer], "", x.Name, 0)
		}
		for _, a := range k.Shared {
			l.add(aCells, "", a.Name, 0)
		}
		l.stmts(k.Body, "/")
		l.unit++
	}
}

func (l *lister) stmts(list []api.Stmt, where string) {
	for i, s := range list {
		l.place(s, where)
		switch s.Kind {
		case api.SSet:
			l.add(wantWord, where, s.Name, 0)
		case api.SPut, api.SAtomic:
			l.add(wantCells, where, s.Name, 0)
		}
		l.exprs(s.Exprs, where)
		if s.Kind == api.SLet || s.Kind == api.SCollect {
			l.add(aWord, where, s.Name, 0)
		}
		inner := fmt.Sprint(where, i)
		if s.Kind == api.SWhile {
			inner += "loop"
		}
		l.stmts(s.Body, inner+"body/")
		l.stmts(s.Else, inner+"else/")
	}
}

// place writes down whether a statement is not allowed where it stands.
func (l *lister) place(s api.Stmt, where string) {
	wrong := false
	switch s.Kind {
	case api.SBreak, api.SContinue:
		wrong = !strings.Contains(where, "loop")
	case api.SReturn:
		wrong = l.kernel && len(s.Exprs) == 1 || !l.kernel && len(s.Exprs) == 0
	case api.SPut, api.SAtomic, api.SBarrier, api.SCollect:
		wrong = !l.kernel
	}
	if wrong {
		l.add(misplaced, where, "", 0)
	}
}

func (l *lister) exprs(list []api.Expr, where string) {
	for _, x := range list {
		if !l.kernel && (x.Kind == api.ELoad || x.Kind == api.ESpecial) {
			l.add(misplaced, where, "", 0)
		}
		switch x.Kind {
		case api.EName:
			l.add(wantWord, where, x.Name, 0)
		case api.ELoad:
			l.add(wantCells, where, x.Name, 0)
		case api.ECall:
			l.add(aCall, where, x.Name, len(x.Kids))
		}
		l.exprs(x.Kids, where)
	}
}

// visible reports whether a declaration of one of some kinds stands before an event, in a list in which the event stands too.
func visible(before []event, x event, kinds ...int) bool {
	return slices.ContainsFunc(before, func(y event) bool {
		return slices.Contains(kinds, y.kind) && y.unit == x.unit && y.name == x.name && strings.HasPrefix(x.where, y.where)
	})
}

// judge returns the violation of an event; funcs is the number of functions.
func judge(before []event, x event, funcs int) api.Errno {
	titles := func(y event) bool { return y.kind == aTitle && y.name == x.name }
	switch x.kind {
	case aTitle:
		if slices.ContainsFunc(before, titles) {
			return api.ErrTwice
		}
	case aWord, aCells:
		if visible(before, x, aWord, aCells) {
			return api.ErrTwice
		}
	case wantWord, wantCells:
		if !visible(before, x, x.kind-wantWord+aWord) {
			return api.ErrName
		}
	case aCall:
		at := slices.IndexFunc(before, titles)
		if at < 0 || before[at].unit >= min(x.unit, funcs) {
			return api.ErrName
		}
		if before[at].kids != x.kids {
			return api.ErrArg
		}
	case misplaced:
		return api.ErrPlace
	}
	return api.OK
}

// wantCheck returns what Check returns for a valid program, by the chapter.
func wantCheck(p api.Program) (string, api.Errno) {
	var l lister
	l.program(p)
	title := ""
	for i, x := range l.events {
		if x.kind == aTitle {
			title = x.name
		}
		if e := judge(l.events[:i], x, len(p.Funcs)); e != api.OK {
			return title, e
		}
	}
	return "", api.OK
}
