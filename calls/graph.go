package calls

import (
	"iter"
	"slices"

	"entail/api"
	"entail/common"
	"entail/module"
	"entail/walk"
)

// callable is a function or a method with its node. Its number is its place among the callables.
type callable struct {
	walk.Place
	number int
	calls  []int // the numbers of those that it calls, each once
}

func (c callable) name() string {
	return c.Text
}

// graph is the callables of a flat program, in their order; of several ones with one name it has the first one.
type graph struct {
	tree      api.Tree
	declared  []string // the names of all declarations
	callables []callable
	numbers   map[string]int
}

// read returns the callables of a program, or its error.
func read(t api.Tree) (*graph, api.Errno) {
	declared, e := module.Names(t)
	if e != api.OK {
		return nil, e
	}
	g := &graph{tree: t, declared: declared, numbers: map[string]int{}}
	for p := range walk.Nodes(t) {
		if _, found := g.numbers[p.Text]; !found && isCallable(p.Op) {
			g.numbers[p.Text] = len(g.callables)
			g.callables = append(g.callables, callable{Place: p, number: len(g.callables)})
		}
	}
	for i, c := range g.callables {
		g.callables[i].calls = g.eachOnce(c)
	}
	return g, api.OK
}

// readCallable returns the callables of a program and the one with a name.
func readCallable(t api.Tree, name string) (*graph, callable, api.Errno) {
	g, e := read(t)
	if e != api.OK {
		return nil, callable{}, e
	}
	c, e := g.find(name)
	return g, c, e
}

func isCallable(op int) bool {
	return op == api.DFunction || op == api.DMethod
}

// find returns the callable with a name, or the error if there is none.
func (g *graph) find(name string) (callable, api.Errno) {
	number, found := g.numbers[name]
	switch {
	case found:
		return g.callables[number], api.OK
	case slices.Contains(g.declared, name):
		return callable{}, api.ErrKind
	}
	return callable{}, api.ErrUnknown
}

// name returns the name of the callable with a number.
func (g *graph) name(number int) string {
	return g.callables[number].Text
}

// call is a caller and what it calls.
type call struct {
	from, to int
}

// called yields the calls in a declaration, in the order of their nodes.
func (g *graph) called(c callable) iter.Seq[call] {
	return func(yield func(call) bool) {
		for node := walk.Start(g.tree, c.Index); node < c.Index; node++ {
			n := g.tree[node]
			to, found := g.numbers[n.Text]
			if found && (n.Op == api.ECall || n.Op == api.SCall) && !yield(call{c.number, to}) {
				return
			}
		}
	}
}

// eachOnce returns the numbers of what a callable calls, in the order of the first calls.
func (g *graph) eachOnce(c callable) []int {
	var out []int
	seen := map[call]bool{}
	for call := range g.called(c) {
		if !seen[call] {
			seen[call] = true
			out = append(out, call.to)
		}
	}
	return out
}

// The states of a callable in a search.
const (
	unseen = iota
	waiting
	done
)

// reached returns which callables one reaches by at least one call.
func (g *graph) reached(from callable) []bool {
	states := make([]int, len(g.callables))
	next := g.enter(from, states)
	for len(next) > 0 {
		last := len(next) - 1
		c := next[last]
		states[c.number] = done
		next = append(next[:last], g.enter(c, states)...)
	}
	return common.Transform(states, func(state int) bool { return state == done })
}

// enter returns what a callable calls and was not seen, and notes that it waits.
func (g *graph) enter(c callable, states []int) []callable {
	var out []callable
	for _, to := range c.calls {
		if states[to] == unseen {
			states[to] = waiting
			out = append(out, g.callables[to])
		}
	}
	return out
}

// component is callables that reach each other, in their order.
type component []callable

func (c component) names() []string {
	return common.Transform(c, callable.name)
}

// components returns the components in the order of their first callables.
func (g *graph) components() []component {
	reached := common.Transform(g.callables, g.reached)
	taken := make([]bool, len(g.callables))
	var out []component
	for _, c := range g.callables {
		if taken[c.number] {
			continue
		}
		var whole component
		for _, other := range g.callables {
			if other.number == c.number || reached[c.number][other.number] && reached[other.number][c.number] {
				whole = append(whole, other)
				taken[other.number] = true
			}
		}
		out = append(out, whole)
	}
	return out
}

// has reports whether the callable with a number is in a component.
func (c component) has(number int) bool {
	_, found := slices.BinarySearchFunc(c, number, func(of callable, number int) int { return of.number - number })
	return found
}

// follows reports whether a component calls only itself and what was taken.
func (c component) follows(taken []bool) bool {
	for _, from := range c {
		if slices.ContainsFunc(from.calls, func(to int) bool { return !taken[to] && !c.has(to) }) {
			return false
		}
	}
	return true
}

// ordered returns components so that each one calls only itself and those before it; where there is a choice, the first one comes first.
func (g *graph) ordered(list []component) []component {
	left := make([]component, len(list))
	copy(left, list)
	taken := make([]bool, len(g.callables))
	var out []component
search:
	for len(left) > 0 {
		for i, c := range left {
			if !c.follows(taken) {
				continue
			}
			for _, of := range c {
				taken[of.number] = true
			}
			out = append(out, c)
			left = slices.Delete(left, i, i+1)
			continue search
		}
		break search
	}
	return out
}
