package print

import "shuck/api"

// Calls is, of each token, whether it is a `<` that begins the TypeArgs of a call. (Texts that are printed have few of the grammar's ways; so the tests can ask for all of them.)
func Calls(tokens []api.Token) []bool {
	w := newWalk(tokens)
	calls := make([]bool, len(tokens))
	for i, t := range tokens {
		calls[i] = is(t, "<") && w.calls(i)
	}
	return calls
}
