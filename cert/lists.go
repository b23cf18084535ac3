package cert

// every tells whether all elements of a list are as asked.
func every[T any](l []T, is func(T) bool) bool {
	for _, x := range l {
		if !is(x) {
			return false
		}
	}
	return true
}

// isRising tells whether each element of a list precedes the next one.
func isRising[T any](l []T, compare func(a, b T) int) bool {
	for i := 1; i < len(l); i++ {
		if compare(l[i-1], l[i]) >= 0 {
			return false
		}
	}
	return true
}

// first returns the first element of a list that is as asked; not ok if there is none.
func first[T any](l []T, is func(T) bool) (found T, ok bool) {
	for _, x := range l {
		if is(x) {
			return x, true
		}
	}
	return found, false
}

// mapped returns what each element of a list becomes.
func mapped[T, U any](l []T, to func(T) U) []U {
	m := make([]U, len(l))
	for i, x := range l {
		m[i] = to(x)
	}
	return m
}
