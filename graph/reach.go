package graph

// Levels is of each node how many edges the shortest way from root has; -1, where there is none.
func (g *Graph) Levels(root int) []int {
	if g == nil {
		return nil
	}
	levels := make([]int, g.nodes)
	for v := range levels {
		levels[v] = -1
	}
	if !isNode(g.nodes, root) {
		return levels
	}
	levels[root] = 0
	for level := range g.nodes { // a shortest way meets no node twice
		for _, e := range g.walk() {
			if levels[e.From] == level && levels[e.To] < 0 {
				levels[e.To] = level + 1
			}
		}
	}
	return levels
}

// Joined is of each node the least one to which a way leads, along edges whichever way.
func (g *Graph) Joined() []int {
	if g == nil {
		return nil
	}
	least := make([]int, g.nodes)
	for v := range least {
		least[v] = v
	}
	for range g.nodes { // each time the least one gets on by an edge at least
		for _, e := range g.walk() {
			both := min(least[e.From], least[e.To])
			least[e.From], least[e.To] = both, both
		}
	}
	return least
}

// Reaches tells of each node, of each node, whether a way of one edge or more leads from the first one to the second one.
func (g *Graph) Reaches() [][]bool {
	if g == nil {
		return nil
	}
	reaches := make([][]bool, g.nodes)
	for v := range reaches {
		reaches[v] = make([]bool, g.nodes)
		for _, e := range g.at(v, false) {
			for to, level := range g.Levels(e.To) {
				reaches[v][to] = reaches[v][to] || level >= 0
			}
		}
	}
	return reaches
}
