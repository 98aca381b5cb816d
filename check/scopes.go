package check

import "drawloom/api"

// What a name stands for.
const (
	unknown = iota // it is not visible
	word           // a variable or an integer parameter
	cells          // a buffer or a shared array
)

// scopes are the visible names with what they stand for: one map for the parameters and shared arrays, then one for each list of statements around, the innermost one last.
type scopes []map[string]int

func (s *scopes) enter() { *s = append(*s, map[string]int{}) }

func (s *scopes) leave() { *s = (*s)[:len(*s)-1] }

// find returns what a name stands for.
func (s scopes) find(name string) int {
	for _, scope := range s {
		if kind := scope[name]; kind != unknown {
			return kind
		}
	}
	return unknown
}

// declare makes a name visible in the innermost scope, unless it is visible.
func (s scopes) declare(name string, kind int) api.Errno {
	if s.find(name) != unknown {
		return api.ErrTwice
	}
	s[len(s)-1][name] = kind
	return api.OK
}
