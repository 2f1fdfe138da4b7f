// Package enclose: reckoning with intervals that hold the truth: see DOC.md.
package enclose

import "errors"

var (
	ErrFloat    = errors.New("no plain float")
	ErrOrder    = errors.New("ends in the wrong order")
	ErrRange    = errors.New("out of range")
	ErrZero     = errors.New("division by what holds 0")
	ErrNegative = errors.New("root of what is below 0")
	ErrEmpty    = errors.New("nothing in common")
	ErrName     = errors.New("no such operation")
	ErrShape    = errors.New("wrong shape")
	ErrSure     = errors.New("not sure of an answer")
)

// OpError is an error of an operation.
type OpError struct {
	Op  string
	Err error
}

// A caller may make an OpError without an Err, or hold a nil one: to ask it must not panic.
func (e *OpError) Error() string {
	if e == nil {
		return "no error"
	}
	if e.Err == nil {
		return e.Op
	}
	return e.Op + ": " + e.Err.Error()
}

func (e *OpError) Unwrap() error {
	if e == nil {
		return nil
	}
	return e.Err
}
