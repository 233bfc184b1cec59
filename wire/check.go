package wire

import "antiphon/api"

func isMessage(m api.Message) bool {
	return isKind(m.Kind) && hasNoNegative(m) && saysOnly(m, fieldsOf[m.Kind]) && isPast(m.Past)
}

// hasNoNegative passes over Value, the one number that may be below 0.
func hasNoNegative(m api.Message) bool {
	if min(m.From, m.To, m.Clock, m.Op, m.Index, m.Key) < 0 {
		return false
	}
	for _, d := range m.Past {
		if isNegativeDep(d) {
			return false
		}
	}
	return !isNegativeVersion(m.Version) && !isNegativeDep(m.For)
}

func isNegativeVersion(v api.Version) bool {
	return v.Clock < 0 || v.Server < 0
}

func isNegativeDep(d api.Dep) bool {
	return d.Key < 0 || isNegativeVersion(d.Version)
}

func saysOnly(m api.Message, has fields) bool {
	return said(m)&^has == 0
}

// said tells which things are not 0 or empty.
func said(m api.Message) fields {
	return fieldIf(opField, m.Op != 0) |
		fieldIf(indexField, m.Index != 0) |
		fieldIf(keyField, m.Key != 0) |
		fieldIf(versionField, m.Version != api.Version{}) |
		fieldIf(forField, m.For != api.Dep{}) |
		fieldIf(valueField, m.Value != 0) |
		fieldIf(pastField, len(m.Past) > 0) |
		fieldIf(settledField, m.Settled)
}

func fieldIf(one fields, holds bool) fields {
	if holds {
		return one
	}
	return 0
}

func isPast(past []api.Dep) bool {
	if len(past) > api.MaxPast {
		return false
	}
	for i, d := range past {
		if d.Version == (api.Version{}) || i > 0 && past[i-1].Key >= d.Key {
			return false
		}
	}
	return true
}
