package core

import (
	"testing"

	"simulacrum/api"
	"simulacrum/asm"
	"simulacrum/image"
	"simulacrum/trap"
)

// program returns the machine of a source: its memory, and a processor in kernel mode.
func program(t *testing.T, src string) world {
	t.Helper()
	i, p := asm.Assemble(src)
	if p.E != api.OK {
		t.Fatalf("the program has the problem %+v", p)
	}
	m, e := image.Load(i)
	if e != api.OK {
		t.Fatalf("the image has the error %d", e)
	}
	return world{c: trap.Begin(0, uint32(i.Entry)), m: m}
}

func TestSum(t *testing.T) {
	w := program(t, `
		addi r1, r0, 10
	loop:	add r2, r2, r1
		addi r1, r1, -1
		bne r1, r0, loop
		sw r2, 64(r0)
		halt
		addi r2, r0, 1`)
	c, m, n := checkRun(t, w, 1000)
	if c.R[2] != 55 || wordOf(m, 64) != 55 || !c.Halted || n != 33 || c.Count != 33 || c.PC != 24 {
		t.Errorf("P12.4: %+v after %d steps", c, n)
	}
	for _, most := range []int{-1 << 63, -1, 0, 1, 2, 32, 33, 34} {
		c, _, n := checkRun(t, w, most)
		if want := max(0, min(most, 33)); n != want || c.Count != want || c.Halted != (want == 33) {
			t.Errorf("P12.4: Run of %d steps has done %d: %+v", most, n, c)
		}
	}
}

// TestCalls has a function that reverses bytes, called twice.
func TestCalls(t *testing.T) {
	w := program(t, `
		.entry start
	text:	.text "stressed"
	start:	addi r1, r0, text
		addi r2, r0, text + 7
		jal r14, turn
		addi r1, r0, text
		addi r2, r0, text + 2
		addi r5, r0, turn
		jalr r14, 0(r5)
		halt
	turn:	bltu r1, r2, more
		jalr r0, 0(r14)
	more:	lb r3, 0(r1)
		lb r4, 0(r2)
		sb r4, 0(r1)
		sb r3, 0(r2)
		addi r1, r1, 1
		addi r2, r2, -1
		jal r0, turn`)
	c, m, _ := checkRun(t, w, 1000)
	if got := string(m.Pages[0][:8]); got != "sedserts" || !c.Halted {
		t.Errorf("P12.4: the text is %q", got)
	}
}

// TestKernel has a kernel that counts the traps of its task by their causes from 1024 on, with a table of its own for the task.
func TestKernel(t *testing.T) {
	w := program(t, `
		.pages 16
		.entry start
	start:	addi r1, r0, trap
		csrw r1, 1
		addi r1, r0, 128
		csrw r1, 0
		csrw r0, 2
		addi r1, r0, 4096
		csrw r1, 2
		addi r1, r0, 6
		csrw r1, 5
		eret
	.org 128			; the root: the kernel, and the task from 4096 on
		.word 75, 257
	.org 256
		.word 1549, 1671, 0, 1669
	.org 512
	trap:	csrr r10, 3
		add r11, r10, r10
		add r11, r11, r11
		lw r12, 1024(r11)
		addi r12, r12, 1
		sw r12, 1024(r11)
		csrr r13, 2
		addi r12, r0, 1
		beq r10, r12, call
		addi r13, r13, 4	; skip what is wrong
		csrw r13, 2
	call:	addi r12, r0, 99
		beq r1, r12, stop
		eret
	stop:	halt
	.org 1536			; the task
		ecall
		halt
		lw r2, 4224(r0)
		addi r2, r2, 5
		sw r2, 4224(r0)
		lw r2, 4225(r0)
		lw r2, 0(r0)
		sw r2, 4480(r0)
		lw r3, 4480(r0)
		sb r2, 4097(r0)
		.word 0
		swap r3, 4224(r0)
		csrr r2, 0
		addi r1, r0, 99
		ecall
	.org 1664
		.word 37`)
	c, m, n := checkRun(t, w, 10000)
	for cause, want := range []uint32{0, 2, 3, 1, 0, 1, 2} {
		if got := wordOf(m, 1024+4*cause); got != want {
			t.Errorf("P12.4: the trap %d came %d times, not %d", cause, got, want)
		}
	}
	if !c.Halted || c.User || c.R[2] != 42 || c.R[3] != 42 || wordOf(m, 1664) != 42 || c.Count != n {
		t.Errorf("P12.4: after %d steps %+v", n, c)
	}
	for at, want := range map[int]uint32{128: 75 + 48, 132: 257, 256: 1536 + 13 + 16, 260: 1664 + 7 + 48, 268: 1664 + 5 + 16} {
		if got := wordOf(m, at); got != want {
			t.Errorf("P12.4: the entry at %d is %d, not %d", at, got, want)
		}
	}
}

// TestPorts has a program that asks: each in and out is a trap, and a processor that waits is not ready.
func TestPorts(t *testing.T) {
	w := program(t, `
		addi r1, r0, 64
		csrw r1, 1
		in r2, 16
		out r2, 32
		wait
		halt
	.org 64
		addi r3, r3, 1
		csrr r4, 4
		csrr r5, 2
		addi r5, r5, 4
		csrw r5, 2
		eret`)
	c, _, n := checkRun(t, w, 100)
	if c.R[2] != 0 || c.R[3] != 2 || c.R[4] != wordOf(w.m, 12) || c.PC != 20 || !c.Waiting || c.Halted || n != 17 {
		t.Errorf("P12.4: after %d steps %+v", n, c)
	}
	w.c = c
	if d, _, n := checkRun(t, w, 100); d != c || n != 0 {
		t.Errorf("P12.4: after %d more steps %+v", n, d)
	}
	// With a line it goes on.
	w.pending = 2
	if e := checkStep(t, w); !e.Done || !e.CPU.Halted || e.CPU.Waiting {
		t.Errorf("P12.1: with a line the step is %+v", e)
	}
}

// TestLastSteps has processors that have nearly done as many steps as can be counted: they stay valid.
func TestLastSteps(t *testing.T) {
	w := program(t, "loop: jal r0, loop")
	for _, left := range []int{1, 2, 5} {
		w.c.Count = 1<<40 - left
		if c, _, n := checkRun(t, w, left); n != left || c.Count != 1<<40 {
			t.Errorf("P12.4: Run of %d steps has done %d: %+v", left, n, c)
		}
		if c, _, n := Run(w.c, w.m, 1000); n != left || c.Count != 1<<40 || !trap.Valid(c) {
			t.Errorf("P12.4: Run of 1000 steps has done %d: %+v", n, c)
		}
	}
}

func TestRuns(t *testing.T) {
	g := newMaker(123)
	steps := 0
	for range 150 {
		w := g.sequence()
		_, _, n := checkRun(t, w, g.Intn(400)-20)
		steps += n
		w = g.world()
		w.c.Count = min(w.c.Count, 1<<40-500)
		checkRun(t, w, in(g, -1, 0, 1, 2, g.Intn(100)))
	}
	if steps < 3000 {
		t.Errorf("P12.4: only %d steps were done", steps)
	}
}
