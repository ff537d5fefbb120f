package dev

import (
	"slices"

	"mummer/api"
)

// Save is what a guest's devices have.
func (d *Dev) Save() api.Saved {
	if !d.works() {
		return api.Saved{}
	}
	return api.Saved{
		Out:    d.Output(),
		Disk:   d.Disk(),
		Queue:  slices.Clone(d.queue),
		Script: slices.Clone(d.script),
		Bits:   d.bits,
		Mask:   d.mask,
		Block:  d.number,
		Addr:   d.addr,
		Status: d.status,
		Kind:   d.under.kind,
		From:   d.under.number,
		To:     d.under.addr,
	}
}

// Load is devices as they were saved.
func Load(x api.Saved) (*Dev, api.Errno) {
	d, e := New(x.Script, x.Disk)
	if e != api.OK {
		return nil, e
	}
	if len(x.Queue) > api.MaxQueue {
		return nil, api.ErrLong
	}
	under := command{x.Kind, x.From, x.To}
	if x.Bits > allBits || x.Mask > allBits || !fits(x.Status, under) {
		return nil, api.ErrArg
	}
	d.waiting = waiting{x.Bits, x.Mask}
	d.console = console{slices.Clone(x.Queue), slices.Clone(x.Out)}
	d.number, d.addr, d.status, d.under = x.Block, x.Addr, x.Status, under
	return d, api.OK
}

// fits is whether a disk of that status may have that command under way: one,
// if it is busy, and else none.
func fits(status uint32, under command) bool {
	switch status {
	case busy:
		return isCommand(under.kind)
	case idle, failed:
		return under == command{}
	}
	return false
}
