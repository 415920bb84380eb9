package command

import (
	"bytes"

	"voile/api"
	"voile/wire"
)

// answerShape is the shape of an answer's bytes: Code, Done, Data.
const answerShape = "14*"

// MayAnswer: may it be an answer?
func MayAnswer(a api.Answer) bool {
	if a.Code < api.OK || a.Code > api.ErrSound {
		return false
	}
	if a.Done < 0 || a.Done > api.MaxCount || a.Done != 0 && a.Code != api.ErrFull {
		return false
	}
	return maySectors(a.Data, api.MaxCount) && (len(a.Data) == 0 || a.Code == api.OK)
}

// AnswerBytes is an answer's bytes.
func AnswerBytes(a api.Answer) ([]byte, api.Errno) {
	if !MayAnswer(a) {
		return nil, api.ErrArg
	}
	return wire.Pack(answerShape, uint64(a.Code), uint64(a.Done), a.Data)
}

// AnswerOf is the answer whose bytes b is.
func AnswerOf(b []byte) (api.Answer, api.Errno) {
	values, taken, e := wire.Unpack(answerShape, b)
	if e != api.OK || taken != len(b) {
		return api.Answer{}, api.ErrBytes
	}
	code, isCode := values[0].(uint64)
	done, isDone := values[1].(uint64)
	data, isData := values[2].([]byte)
	a := api.Answer{Code: api.Errno(code), Done: int(done), Data: data}
	if !isCode || !isDone || !isData || !MayAnswer(a) {
		return api.Answer{}, api.ErrBytes
	}
	return a, api.OK
}

// SameAnswer: are both answers the same?
func SameAnswer(a, b api.Answer) bool {
	return a.Code == b.Code && a.Done == b.Done && bytes.Equal(a.Data, b.Data)
}

// CopyAnswer is an answer like it that shares nothing with it.
func CopyAnswer(a api.Answer) api.Answer {
	a.Data = bytes.Clone(a.Data)
	return a
}
