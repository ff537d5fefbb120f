package machine_test

import (
	"bytes"
	"math/rand"
	"testing"

	"mummer/api"
	"mummer/machine"
)

func drawDisk(x *rand.Rand) []byte { return row(64*x.Intn(4), x.Intn(200)) }

// anyCall lets both do one drawn call.
func anyCall(t *testing.T, x *rand.Rand, m *machine.Machine, p *paper) {
	t.Helper()
	switch x.Intn(12) {
	case 0:
		comes(t, m, p)
	case 1:
		taken(t, m, p)
	case 2, 3:
		ones(t, m, p)
	case 4:
		delivers(t, m, p, api.Fault{Cause: x.Intn(14) - 1, Addr: drawNumber(x)})
	case 5:
		s := drawState(x, len(p.mem)/64)
		s.Halted = x.Intn(6) == 0
		puts(t, m, p, s, x.Intn(4)-1)
	case 6, 7, 8:
		if got, want := m.Step(), p.step(); got != want {
			t.Fatalf("Step is %t, want %t", got, want)
		}
		p.hold(t, m)
	default:
		runs(t, m, p, x.Intn(12)-1)
	}
}

// TestP12_9DrawnRuns holds whole runs against the test's own reading, and asks
// whether each cause was among them.
func TestP12_9DrawnRuns(t *testing.T) {
	x := rand.New(rand.NewSource(12))
	var causes [12]int
	halted := 0
	for range 700 {
		frames := 1 + x.Intn(9)
		m, p := both(t, frames, drawImage(x, frames), drawState(x, frames), drawScript(x), drawDisk(x))
		for range 40 {
			anyCall(t, x, m, p)
		}
		for _, n := range m.Notes() {
			if n.Cause > 0 && n.Cause < 12 {
				causes[n.Cause]++
			}
		}
		if m.State().Halted {
			halted++
		}
	}
	for cause, n := range causes[1:] {
		if n < 50 {
			t.Errorf("the cause %d came %d times", cause+1, n)
		}
	}
	if halted < 50 {
		t.Errorf("%d were halted", halted)
	}
}

func TestP12_9HaltedStays(t *testing.T) {
	x := rand.New(rand.NewSource(13))
	for range 60 {
		s := drawState(x, 5)
		s.Halted = true
		m, p := both(t, 5, drawImage(x, 5), s, drawScript(x), drawDisk(x))
		puts(t, m, p, s, x.Intn(100))
		for range 5 {
			if m.Step() || m.Take() || m.Run(x.Intn(9)) != 0 || m.One() != (api.Fault{}) {
				t.Fatal("a halted machine goes on")
			}
			p.hold(t, m)
		}
	}
}

func TestP12_9RunsAreOneRun(t *testing.T) {
	x := rand.New(rand.NewSource(14))
	for range 200 {
		frames := 3 + x.Intn(5)
		image, s, script, disk := drawImage(x, frames), drawState(x, frames), drawScript(x), drawDisk(x)
		one := made(t, frames, image, s, script, disk)
		two := made(t, frames, image, s, script, disk)
		n, k := x.Intn(60), x.Intn(60)
		a := one.Run(n) + one.Run(k)
		if b := two.Run(n + k); a != b {
			t.Fatalf("%d and %d: %d, together %d", n, k, a, b)
		}
		if fault := differs(one.Save(), two.Save()); fault != "" {
			t.Fatal(fault)
		}
	}
}

func TestP12_9WithAFault(t *testing.T) {
	x := rand.New(rand.NewSource(15))
	faults := 0
	for range 4000 {
		frames := 1 + x.Intn(8)
		m := made(t, frames, drawImage(x, frames), drawState(x, frames), nil, drawDisk(x))
		was := m.Save()
		if f := m.One(); f.Cause == 0 {
			continue
		}
		faults++
		now := m.Save()
		if now.S.R != was.S.R || !bytes.Equal(now.Mem, was.Mem) || !bytes.Equal(now.Out, was.Out) || now.S.Halted {
			t.Fatalf("%+v turned to %+v", was.S, now.S)
		}
		if len(now.Notes) != 1 || now.Steps != 1 {
			t.Fatalf("%v, %d", now.Notes, now.Steps)
		}
	}
	if faults < 500 {
		t.Errorf("only %d faults", faults)
	}
}

// TestP12_9TwoMachinesHaveNothingInCommon (R4).
func TestP12_9TwoMachinesHaveNothingInCommon(t *testing.T) {
	x := rand.New(rand.NewSource(16))
	image, s, script, disk := drawImage(x, 6), drawState(x, 6), drawScript(x), row(128, 4)
	a, p := both(t, 6, image, s, script, disk)
	b := made(t, 6, image, s, script, disk)
	b.Run(200)
	b.RAM().Fill(0, make([]byte, 384))
	b.Deliver(api.Fault{Cause: 3})
	p.hold(t, a)
	runs(t, a, p, 200)
}
