package till

import "dipworks/api"

// require refuses the call with an error unless something holds. The panic leaves all that is under way at once; attempt makes it the call's error.
func require(holds bool, otherwise api.Errno) {
	if !holds {
		panic(otherwise)
	}
}

// attempt does the work of an exported function. If it is refused the result is the zero value, as rule R2 wants it.
func attempt[T any](work func() T) (result T, e api.Errno) {
	defer func() {
		if r := recover(); r != nil {
			var none T
			result, e = none, reason(r)
		}
	}()
	return work(), api.OK
}

// reason returns the error that a panic stands for.
func reason(r any) api.Errno {
	switch x := r.(type) {
	case api.Errno:
		return x
	default:
		// No other panic is known of, but none may leave the package.
		return api.ErrArg
	}
}
