package check

import (
	"promptbook/api"
	"promptbook/numbered"
	"promptbook/script"
)

// tree is a well-formed play with the numbers of its steps.
type tree struct{ *numbered.Play }

// open makes the tree of a play, if it is well formed.
func open(p api.Play) (*tree, api.Errno) {
	if err := script.CheckPlay(p); err != api.OK {
		return nil, err
	}
	t := &tree{numbered.New(p)}
	for _, n := range t.Nodes {
		if err := t.checkNode(n); err != api.OK {
			return nil, err
		}
	}
	return t, api.OK
}
