package desk

import "errors"

// errRejected is what every rejection is.
var errRejected = errors.New("the call is rejected")

// Why a call is rejected, beside what abi says of its arguments.
var (
	errName    = errors.New("no such call")
	errStatic  = errors.New("a static call changes nothing")
	errValue   = errors.New("the call takes no value")
	errAddress = errors.New("an argument is no address")
	errKey     = errors.New("the key has more than 64 bits")
	errNonce   = errors.New("the key has no nonces left")
	errDelay   = errors.New("the delay is none, too great, or less than before")
	errStake   = errors.New("the stake is nothing, or too great")
	errUnlock  = errors.New("there is nothing to unlock, or it is being unlocked")
	errLate    = errors.New("the stake would never be unlocked")
	errLocked  = errors.New("the stake is not unlocked")
	errDeposit = errors.New("the deposit is not so great")
	errBalance = errors.New("the entry point has not so much")
)

// rejection is the error of a call: of which one, and why.
type rejection struct {
	name   string
	reason error
}

func (r rejection) Error() string { return r.name + ": " + r.reason.Error() }

func (r rejection) Unwrap() error { return r.reason }

// Is lets errors.Is tell a rejection whatever its reason is.
func (r rejection) Is(target error) bool { return target == errRejected }
