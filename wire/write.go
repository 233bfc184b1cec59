package wire

import "antiphon/api"

// appendMessage takes m to be a message: it checks nothing.
func appendMessage(b []byte, m api.Message) []byte {
	kind := fieldsOf[m.Kind]
	b = append(b, byte(m.Kind))
	b = appendNumbers(b, m.From, m.To, m.Clock)
	if kind.has(opField) {
		b = appendNumbers(b, m.Op)
	}
	if kind.has(indexField) {
		b = appendNumbers(b, m.Index)
	}
	if kind.has(keyField) {
		b = appendNumbers(b, m.Key)
	}
	if kind.has(versionField) {
		b = appendVersion(b, m.Version)
	}
	if kind.has(forField) {
		b = appendDep(b, m.For)
	}
	if kind.has(valueField) {
		b = appendValue(b, m.Value)
	}
	if kind.has(pastField) {
		b = appendPast(b, m.Past)
	}
	if kind.has(settledField) {
		b = appendFlag(b, m.Settled)
	}
	return b
}

func appendPast(b []byte, past []api.Dep) []byte {
	b = appendNumbers(b, len(past))
	for _, d := range past {
		b = appendDep(b, d)
	}
	return b
}

func appendDep(b []byte, d api.Dep) []byte {
	return appendVersion(appendNumbers(b, d.Key), d.Version)
}

func appendVersion(b []byte, v api.Version) []byte {
	return appendNumbers(b, v.Clock, v.Server)
}

// appendValue works with ^v, which is -v-1, because -v is no int for the
// least one.
func appendValue(b []byte, v int) []byte {
	if v < 0 {
		return appendVarint(b, uint64(^v)<<1|1)
	}
	return appendVarint(b, uint64(v)<<1)
}

func appendFlag(b []byte, flag bool) []byte {
	if flag {
		return append(b, 1)
	}
	return append(b, 0)
}

func appendNumbers(b []byte, numbers ...int) []byte {
	for _, n := range numbers {
		b = appendVarint(b, uint64(n))
	}
	return b
}
