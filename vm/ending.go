package vm

import (
	"errors"
	"strconv"
)

// How a frame ends that has no fault. A fault is ended by its number.
var (
	errDone     = errors.New("it is done")
	errReverted = errors.New("it wants to be taken back")
)

// ending is the error that ends a frame: at which operation (0, too, where none is at fault), with which output, and why.
type ending struct {
	op    byte
	out   []byte
	cause error
}

func (e ending) Error() string {
	return "operation " + strconv.FormatUint(uint64(e.op), 16) + ": " + e.cause.Error()
}

func (e ending) Unwrap() error { return e.cause }
