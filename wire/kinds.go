package wire

import "antiphon/api"

// fields is a set of the things that a kind of message may have.
type fields uint8

// The order is that of the bytes. No kind has both a Value and a For, so one
// order serves all the kinds.
const (
	opField fields = 1 << iota
	indexField
	keyField
	versionField
	forField
	valueField
	pastField
	settledField
)

// fieldsOf has, by kinds, what a message has beside Kind, From, To and Clock.
var fieldsOf = [...]fields{
	api.Put:        opField | keyField | valueField | pastField,
	api.Putted:     opField | keyField | versionField,
	api.Get:        opField | indexField | keyField,
	api.Got:        opField | indexField | keyField | versionField | valueField | pastField | settledField,
	api.Fetch:      opField | indexField | keyField | versionField,
	api.Fetched:    opField | indexField | keyField | versionField | valueField | pastField | settledField,
	api.Copy:       keyField | versionField | valueField | pastField,
	api.Kept:       keyField | versionField,
	api.Need:       keyField | versionField | forField,
	api.Met:        keyField | versionField | forField,
	api.Seen:       keyField | versionField,
	api.Everywhere: keyField | versionField,
}

func isKind(kind int) bool {
	return kind > 0 && kind < len(fieldsOf)
}

func (f fields) has(one fields) bool {
	return f&one != 0
}
