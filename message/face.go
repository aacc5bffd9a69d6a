package message

import "millpond/api"

// need gives up what is at work, at whatever depth, unless something holds.
func need(holds bool, wrong api.Errno) {
	if !holds {
		panic(wrong)
	}
}

// unlessGivenUp is what do answers, or nothing, and why, if it gave up.
func unlessGivenUp[T any](do func() T) (what T, wrong api.Errno) {
	defer func() {
		if given := recover(); given != nil {
			wrong = given.(api.Errno) // nothing else is given up, and a fault of the program is not to hide here
		}
	}()
	return do(), api.OK
}
