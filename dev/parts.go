package dev

import (
	"slices"

	"mummer/api"
	"mummer/ram"
	"mummer/trap"
)

// allBits is all that can be waiting, or masked.
const allBits = 1<<kinds - 1

// waiting is what asks for interrupts, and what of it is not asked for.
type waiting struct{ bits, mask uint32 }

func (w *waiting) wake(kind int) { w.bits |= 1 << kind }

func (w *waiting) settle(bits uint32) { w.bits &^= bits }

func (w *waiting) wanted(ps uint32) int { return trap.Wants(ps, w.bits&^w.mask) }

// console is the bytes that were typed and not read, and those that went out.
type console struct{ queue, out []byte }

// noByte is read where no byte is: no byte's number.
const noByte = 1<<32 - 1

func (c *console) first() uint32 {
	if len(c.queue) == 0 {
		return noByte
	}
	return uint32(c.queue[0])
}

func (c *console) takeOut() {
	if len(c.queue) > 0 {
		c.queue = c.queue[1:]
	}
}

// queueUp loses the byte where there is no room.
func (c *console) queueUp(b uint8) {
	if len(c.queue) < api.MaxQueue {
		c.queue = append(c.queue, b)
	}
}

func (c *console) goOut(b uint8) { c.out = append(c.out, b) }

// What a disk's status says.
const (
	idle   = 0
	busy   = 1
	failed = 2
)

// Commands.
const (
	blockToMemory = 1
	memoryToBlock = 2
)

type block [api.PageSize]byte

// command keeps the registers as they were when it was given, since a guest may
// turn them while the disk is busy.
type command struct{ kind, number, addr uint32 }

// drive is a disk: its blocks, its registers, and, while it is busy, the command
// that is under way.
type drive struct {
	blocks               []block
	number, addr, status uint32
	under                command
}

func (d *drive) give(kind uint32) {
	if d.status != busy && isCommand(kind) {
		d.under = command{kind, d.number, d.addr}
		d.status = busy
	}
}

// finish does the command that is under way, and is the frames of r that it
// wrote.
func (d *drive) finish(r *ram.RAM) []int {
	c := d.under
	d.under = command{}
	if !d.can(c, r) {
		d.status = failed
		return nil
	}
	d.status = idle
	frame := int(c.addr / api.PageSize)
	if c.kind == memoryToBlock {
		d.blocks[c.number] = blockOf(r.Frame(frame))
		return nil
	}
	b := d.blocks[c.number]
	r.Fill(c.addr, b[:])
	return []int{frame}
}

// can is whether a command's block and its frame of r are there.
func (d *drive) can(c command, r *ram.RAM) bool {
	return c.number < uint32(len(d.blocks)) && c.addr%api.PageSize == 0 && c.addr < r.Size()
}

func (d *drive) bytes() []byte {
	all := make([]byte, 0, len(d.blocks)*api.PageSize)
	for _, b := range d.blocks {
		all = append(all, b[:]...)
	}
	return all
}

func isCommand(kind uint32) bool { return kind == blockToMemory || kind == memoryToBlock }

// cut is a disk's bytes as blocks.
func cut(disk []byte) []block {
	var blocks []block
	for b := range slices.Chunk(disk, api.PageSize) {
		blocks = append(blocks, blockOf(b))
	}
	return blocks
}

func blockOf(bytes []byte) block {
	var b block
	copy(b[:], bytes)
	return b
}
