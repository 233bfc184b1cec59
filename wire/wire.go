// Package wire: messages as bytes: see DOC.md.
package wire

import "antiphon/api"

// Encode a message (P3).
func Encode(m api.Message) ([]byte, api.Errno) {
	if !isMessage(m) {
		return nil, api.ErrForm
	}
	return appendMessage(nil, m), api.OK
}

// Decode a message (P3).
func Decode(b []byte) (api.Message, api.Errno) {
	return readMessage(b)
}
