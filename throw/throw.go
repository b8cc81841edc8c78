// Package throw has how what is wrong with what a call is given gets from where it is seen to where the call answers: it is thrown by a panic, and caught.
package throw

import "latticekeys/api"

// Unless throws what is wrong, unless what is asked for holds.
func Unless(holds bool, wrong api.Errno) {
	if !holds {
		panic(wrong)
	}
}

// Caught does a call's work; what the work throws is the call's error.
func Caught(work func()) (err error) {
	defer func() {
		switch thrown := recover().(type) {
		case nil:
		case api.Errno:
			err = thrown
		default:
			panic(thrown) // a fault of the program itself is no answer to the caller
		}
	}()
	work()
	return nil
}
