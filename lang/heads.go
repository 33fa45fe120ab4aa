package lang

import (
	"slices"

	"doppelganger/api"
)

// isResult reports whether a type may be that of a term.
func isResult(typ api.Type) bool {
	return typ == api.Com || typ == api.Exp
}

func isType(typ api.Type) bool {
	return isResult(typ) || typ == api.Val
}

// declarable reports whether a text may have some declarations.
func declarable(decls []api.Decl) bool {
	if len(decls) > api.MaxDecls {
		return false
	}
	for i, d := range decls {
		again := slices.ContainsFunc(decls[:i], func(other api.Decl) bool { return other.Name == d.Name })
		if again || !isName(d.Name) || !isResult(d.Result) || len(d.Args) > api.MaxArgs || !all(d.Args, isType) {
			return false
		}
	}
	return true
}

// bindable reports whether a head may have some parameters.
func bindable(params []api.Param) bool {
	if len(params) > api.MaxArgs {
		return false
	}
	for i, p := range params {
		again := slices.ContainsFunc(params[:i], func(other api.Param) bool { return other.Name == p.Name })
		if again || !isName(p.Name) || !isType(p.Type) {
			return false
		}
	}
	return true
}

func all[T any](items []T, holds func(T) bool) bool {
	return !slices.ContainsFunc(items, func(item T) bool { return !holds(item) })
}
