package link

import (
	"slices"

	"armillary/api"
)

// Fault returns what is wrong with the names of a module, and the node, or -1.
func (p *Program) Fault(name string) (node int, e api.Errno) {
	u, e := p.find(name)
	switch e {
	case api.ErrNil:
		return 0, e
	case api.ErrName:
		return -1, e
	}
	if node, e = u.repeated(); e != api.OK {
		return node, e
	}
	if slices.ContainsFunc(u.module.Imports, func(other string) bool { return !p.has(other) }) {
		return -1, api.ErrName
	}
	if p.depends(name, name) {
		return -1, api.ErrCycle
	}
	return p.unresolved(u)
}

// unresolved returns the first node of a module whose name does not resolve.
func (p *Program) unresolved(u unit) (node int, e api.Errno) {
	for i, n := range u.module.Nodes {
		if n.Kind != api.TName && n.Kind != api.ECall {
			continue
		}
		if _, _, _, e := p.resolve(u, i); e != api.OK {
			return i, e
		}
	}
	return 0, api.OK
}

// Owner returns the function that a node belongs to; -1 for a declared type; -2 for no node.
func (p *Program) Owner(module string, node int) int {
	u, e := p.find(module)
	switch {
	case e == api.ErrNil:
		return 0
	case e != api.OK || !u.exists(node):
		return -2
	}
	return u.owner(node)
}

// Type returns the declared type, or the type parameter, that the name at a node resolves to.
func (p *Program) Type(module string, node int) (mod string, decl, param int, e api.Errno) {
	return p.named(module, node, api.TName)
}

// Fn returns the function that the call at a node resolves to.
func (p *Program) Fn(module string, node int) (mod string, fn int, e api.Errno) {
	mod, fn, _, e = p.named(module, node, api.ECall)
	return mod, fn, e
}

// named returns what the name at a node, which must be of a kind, resolves to.
func (p *Program) named(module string, node, kind int) (mod string, decl, param int, e api.Errno) {
	u, e := p.find(module)
	if e != api.OK {
		return "", 0, 0, e
	}
	if !u.exists(node) || u.module.Nodes[node].Kind != kind {
		return "", 0, 0, api.ErrRange
	}
	return p.resolve(u, node)
}

// resolve returns what the name at a node, a TName or an ECall, resolves to: a declaration of a module, or a type parameter.
func (p *Program) resolve(u unit, node int) (mod string, decl, param int, e api.Errno) {
	n := u.module.Nodes[node]
	if n.Kind == api.TName && n.Mod == "" {
		if param := u.param(node, n.Name); param >= 0 {
			return "", -1, param, api.OK
		}
	}
	from, e := p.meant(u, n.Mod)
	if e != api.OK {
		return "", 0, 0, e
	}
	decl, ok := from.places[naming{n.Kind, n.Name}]
	if !ok {
		return "", 0, 0, api.ErrName
	}
	return from.module.Name, decl, -1, api.OK
}

// meant returns the module that is meant by what stands ahead of a name: itself, or one that it imports.
func (p *Program) meant(u unit, mod string) (unit, api.Errno) {
	if mod == "" {
		return u, api.OK
	}
	if !slices.Contains(u.module.Imports, mod) {
		return unit{}, api.ErrName
	}
	return p.find(mod)
}
