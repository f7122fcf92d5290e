// Package ebb: rules over facts that come and go with time: see DOC.md.
package ebb

import (
	"ebb/api"
	"ebb/rules"
)

// Rules reads rules and writes them in order (P3 to P5).
func Rules(text string) (string, api.Errno, int) {
	list, err, at := rules.Read(text)
	if err != api.OK {
		return "", err, at
	}
	return rules.Write(list), api.OK, 0
}

// Engine is rules, and the facts that they are over.
type Engine struct{}

// New makes an engine (P6).
func New(text string, window int, lateness int, queue int) (*Engine, api.Errno) { return nil, api.OK }

// Insert brings a fact with its time (P7).
func (x *Engine) Insert(fact string, time int) api.Errno { return api.OK }

// Tick moves the clock, and tells the watermark (P8).
func (x *Engine) Tick(clock int) (int, api.Errno) { return 0, api.OK }

// Ask tells all that holds of a form (P9).
func (x *Engine) Ask(atom string) ([]string, api.Errno) { return nil, api.OK }

// Until tells until when something holds (P10).
func (x *Engine) Until(fact string) (int, api.Errno) { return 0, api.OK }

// Subscribe begins a feed (P11).
func (x *Engine) Subscribe(relation string) (int, api.Errno) { return 0, api.OK }

// Poll tells a feed's next record (P11).
func (x *Engine) Poll(feed int) (api.Record, api.Errno) { return api.Record{}, api.OK }
