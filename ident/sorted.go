package ident

// rising reports whether each element of a list is before the next one.
func rising[T any](l []T, compare func(a, b T) int) bool {
	for i := 1; i < len(l); i++ {
		if compare(l[i-1], l[i]) >= 0 {
			return false
		}
	}
	return true
}

// sorted returns, in new memory, the elements of a list in increasing order, each once.
func sorted[T any](l []T, compare func(a, b T) int) []T {
	// Most lists are sets already. A list that is not has two elements at least, so that both its halves are shorter.
	if rising(l, compare) {
		return append(make([]T, 0, len(l)), l...)
	}
	half := len(l) / 2
	return merged(sorted(l[:half], compare), sorted(l[half:], compare), compare, func(_, _ bool) bool { return true })
}

// merged returns those elements of two increasing lists that are kept because of the lists that they are in, in increasing order, each once.
func merged[T any](l, m []T, compare func(a, b T) int, keep func(inL, inM bool) bool) []T {
	out := make([]T, 0, len(l)+len(m))
	for len(l) > 0 || len(m) > 0 {
		order := compareFirst(l, m, compare)
		inL, inM := order <= 0, order >= 0
		var x T
		if inL {
			x, l = l[0], l[1:]
		}
		if inM {
			x, m = m[0], m[1:]
		}
		if keep(inL, inM) {
			out = append(out, x)
		}
	}
	return out
}

// compareFirst compares the first elements of two lists, of which one may be empty: what it lacks comes after all others.
func compareFirst[T any](l, m []T, compare func(a, b T) int) int {
	switch {
	case len(m) == 0:
		return -1
	case len(l) == 0:
		return 1
	}
	return compare(l[0], m[0])
}
