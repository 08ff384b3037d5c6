package json

import "brevet/api"

// copied is a value in new memory. What is no value may be of any depth, and may even stand in itself, so it is gone through without a call in a call.
func copied(v api.Json) api.Json {
	c := copier{within: map[memory][]api.Json{}}
	whole := c.list([]api.Json{v})
	for len(c.open) > 0 {
		c.step()
	}
	return whole[0]
}

// copier copies lists. Those that are not done are open, each in the one ahead of it.
type copier struct {
	open   []copying
	within map[memory][]api.Json
}

// copying is a list's copy, of which the first ones are done.
type copying struct {
	of   memory
	kids []api.Json
	done int
}

// memory is where a list that is not empty stands.
type memory struct {
	first *api.Json
	size  int
}

// step does one more of the last open list, or closes that.
func (c *copier) step() {
	last := &c.open[len(c.open)-1]
	if last.done == len(last.kids) {
		delete(c.within, last.of)
		c.open = c.open[:len(c.open)-1]
		return
	}
	v := &last.kids[last.done]
	last.done++
	v.Names = append([]string(nil), v.Names...)
	v.Kids = c.list(v.Kids)
}

// list begins a list's copy. A list that stands in itself has the one copy that stands in itself, too.
func (c *copier) list(kids []api.Json) []api.Json {
	if len(kids) == 0 {
		return nil
	}
	of := memory{&kids[0], len(kids)}
	made, ok := c.within[of]
	if !ok {
		made = append([]api.Json(nil), kids...)
		c.within[of] = made
		c.open = append(c.open, copying{of, made, 0})
	}
	return made
}
