package cond

// conditions is how many conditions there are.
const conditions = 16

// is tells whether there is a condition of a number.
func is(n int) bool {
	return n >= 0 && n < conditions
}

// names tells the names of all conditions, each one's own first.
// It makes them anew for each call, so that a list of them can be handed out.
func names() [conditions][]string {
	return [conditions][]string{
		{"o"},
		{"no"},
		{"b", "c", "nae"},
		{"ae", "nb", "nc"},
		{"e", "z"},
		{"ne", "nz"},
		{"be", "na"},
		{"a", "nbe"},
		{"s"},
		{"ns"},
		{"p", "pe"},
		{"np", "po"},
		{"l", "nge"},
		{"ge", "nl"},
		{"le", "ng"},
		{"g", "nle"},
	}
}
