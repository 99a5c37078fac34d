package entry

// failure is the error of a verification: at which step, and why.
type failure struct {
	step  string
	cause error
}

func (f failure) Error() string { return f.step + ": " + f.cause.Error() }

func (f failure) Unwrap() error { return f.cause }
