// Package ebb: rules over facts that come and go with time: see DOC.md.
package ebb

import (
	"ebb/api"
	"ebb/rules"
)

// Rules reads rules and writes them in order (P3 to P5).
func Rules(text string) (string, api.Errno, int) {
	list, err, at := rules.Read(text)
	if err != api.OK {
		return "", err, at
	}
	return rules.Write(list), api.OK, 0
}
