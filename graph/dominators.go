package graph

// search is a walk from a root that is over. It numbers the nodes from 0 on in the order in which they were entered; "a node" here is its number.
type search struct {
	nodes  []int // by number
	number []int // by node of the graph, or none
	parent []int // the node from which a node was entered
	up     []int // one of those above a node in the tree of parents: that tree, with shortcuts
	least  []int // the least semidominator of the nodes from a node to up, without up
}

// dominators returns the immediate dominators of the nodes of a graph with a root, or none. They are found by semidominators and not by repeated passes over the graph, of which some graphs need as many as they have nodes: the immediate dominator of a node is the nearest one of its parent and those that dominate the parent that is not greater than its semidominator.
func dominators(g [][]int, root int) []int {
	s := newSearch(g, root)
	semi := s.semidominators(turned(g))
	above := make([]int, len(s.nodes))
	list := fill(len(g), none)
	for w := 1; w < len(s.nodes); w++ {
		a := s.parent[w]
		for a > semi[w] {
			a = above[a]
		}
		above[w] = a
		list[s.nodes[w]] = s.nodes[a]
	}
	return list
}

// postdominators returns the immediate postdominators: the immediate dominators as they are seen from behind the exits.
func postdominators(g [][]int) []int {
	list := dominators(behind(g), len(g))[:len(g)]
	for node, above := range list {
		if above == len(g) {
			list[node] = none
		}
	}
	return list
}

func newSearch(g [][]int, root int) *search {
	s := &search{number: fill(len(g), none)}
	at := none
	for node, enters := range walk(g, root, none) {
		if !enters {
			at = s.parent[at]
			continue
		}
		s.parent = append(s.parent, at)
		at = len(s.nodes)
		s.nodes = append(s.nodes, node)
		s.number[node] = at
	}
	s.up = append(s.up, s.parent...)
	s.least = make([]int, len(s.nodes))
	return s
}

// semidominators returns the semidominator of each node but the root: the least node from which a path leads to it that passes only greater nodes in between.
func (s *search) semidominators(before [][]int) []int {
	semi := make([]int, len(s.nodes))
	for w := len(s.nodes) - 1; w > 0; w-- {
		found := s.parent[w]
		for _, node := range before[s.nodes[w]] {
			if v := s.number[node]; v != none {
				found = min(found, s.begin(v, w))
			}
		}
		semi[w] = found
		s.least[w] = found
	}
	return semi
}

// begin returns the least node at which a path to v can begin that is greater than w everywhere behind its beginning, or v itself if v is not greater. The semidominators of all nodes greater than w are known.
func (s *search) begin(v, w int) int {
	if v <= w {
		return v
	}
	if s.up[v] > w {
		found := s.begin(s.up[v], w)
		s.least[v] = min(s.least[v], found)
		s.up[v] = s.up[s.up[v]]
	}
	return s.least[v]
}

// fill returns so many equal numbers.
func fill(size, number int) []int {
	list := make([]int, size)
	for i := range list {
		list[i] = number
	}
	return list
}
