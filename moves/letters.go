package moves

import (
	"doppelganger/api"
	"doppelganger/lang"
)

// letters returns the moves that pieces with the declarations and the type of one may meet.
func letters(p *lang.Piece) []api.Move {
	list := append([]api.Move{{}}, answers(api.Move{}, p.Type())...)
	list = append(list, api.Move{Fault: true})
	for _, d := range p.Decls() {
		list = append(list, questions(d)...)
		list = append(list, answers(api.Move{Name: d.Name}, d.Result)...)
		for _, about := range requests(d) {
			list = append(list, about)
			list = append(list, answers(about, d.Args[about.Arg-1])...)
		}
	}
	return list
}

// answers returns the answers to a question about something of a type.
func answers(question api.Move, typ api.Type) []api.Move {
	question.Answer = true
	return valued(question, count(typ))
}

// questions returns the questions about a name.
func questions(d api.Decl) []api.Move {
	values := 1
	for _, typ := range d.Args {
		if typ == api.Val {
			values *= api.Width
		}
	}
	return valued(api.Move{Name: d.Name}, values)
}

// requests returns the questions about the arguments of a name that are handed over by name.
func requests(d api.Decl) []api.Move {
	var list []api.Move
	for i, typ := range d.Args {
		if typ != api.Val {
			list = append(list, api.Move{Name: d.Name, Arg: i + 1})
		}
	}
	return list
}

// valued returns a move with each of some values.
func valued(move api.Move, values int) []api.Move {
	var list []api.Move
	for value := range values {
		move.Value = value
		list = append(list, move)
	}
	return list
}

// count returns how many values something of a type may come to.
func count(typ api.Type) int {
	if typ == api.Com {
		return 1
	}
	return api.Width
}
