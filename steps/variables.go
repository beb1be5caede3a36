package steps

import "splicery/api"

// name is what a variable stands for: the name n of the slot or node id.
type name struct {
	id api.ID
	n  int
}

// binding is a name with a value.
type binding struct {
	name  name
	value api.Value
}

// variables are the values of names, which are found at once, however many there are. What a caller has bound stays among them: the body of a sound definition has no variables but those that the definition itself binds.
type variables struct {
	values map[name]api.Value
	hidden []binding // what each name that is bound stood for before, in the order in which they were bound
}

func newVariables() variables { return variables{values: map[name]api.Value{}} }

// get returns the value of a name.
func (vars *variables) get(n name) api.Value { return vars.values[n] }

// count returns how many names are bound.
func (vars *variables) count() int { return len(vars.hidden) }

// enter binds a name.
func (vars *variables) enter(n name, v api.Value) {
	vars.hidden = append(vars.hidden, binding{n, vars.values[n]})
	vars.values[n] = v
}

// leave takes the names back that were bound last, so that a number of them is left.
func (vars *variables) leave(left int) {
	for last := len(vars.hidden) - 1; last >= left; last-- {
		vars.values[vars.hidden[last].name] = vars.hidden[last].value
		vars.hidden = vars.hidden[:last]
	}
}
