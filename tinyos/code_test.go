package tinyos_test

import (
	"math"
	"testing"

	"tinyos/api"
	"tinyos/tinyos"
)

// wrongOps are all that are no instruction.
func wrongOps() []api.Op {
	ops := []api.Op{0}
	for op := 25; op <= 255; op++ {
		ops = append(ops, api.Op(op))
	}
	return ops
}

func TestEncodeExamples(t *testing.T) {
	for _, x := range []struct {
		i    api.Instr
		want [4]byte
	}{
		{api.Instr{Op: api.Li, A: 1, Imm: -2}, [4]byte{0x01, 0x10, 0xfe, 0xff}},
		{api.Instr{Op: api.Add, A: 15, B: 14, Imm: 4660}, [4]byte{0x04, 0xfe, 0x34, 0x12}},
		{api.Instr{Op: api.Li}, [4]byte{1, 0, 0, 0}},
		{api.Instr{Op: api.Ecall, A: 15, B: 15, Imm: math.MaxInt16}, [4]byte{24, 0xff, 0xff, 0x7f}},
		{api.Instr{Op: api.Jr, B: 15, Imm: math.MinInt16}, [4]byte{23, 0x0f, 0, 0x80}},
	} {
		if b, err := tinyos.Encode(x.i); b != x.want || err != nil {
			t.Errorf("P3: Encode(%+v) = % x, %v, want % x", x.i, b, err, x.want)
		}
		if i, err := tinyos.Decode(x.want); i != x.i || err != nil {
			t.Errorf("P3: Decode(% x) = %+v, %v, want %+v", x.want, i, err, x.i)
		}
	}
}

func TestEncodeAllInstructions(t *testing.T) {
	for op := 1; op <= 24; op++ {
		for a := range 16 {
			for b := range 16 {
				for _, imm := range []int16{0, 1, -1, 255, 256, -256, 0x1234, math.MaxInt16, math.MinInt16} {
					i := api.Instr{Op: api.Op(op), A: a, B: b, Imm: imm}
					want := [4]byte{byte(op), byte(a*16 + b), byte(imm), byte(uint16(imm) / 256)}
					if got, err := tinyos.Encode(i); got != want || err != nil {
						t.Fatalf("P3: Encode(%+v) = % x, %v, want % x", i, got, err, want)
					}
					if got, err := tinyos.Decode(want); got != i || err != nil {
						t.Fatalf("P3: Decode(% x) = %+v, %v, want %+v", want, got, err, i)
					}
				}
			}
		}
	}
}

func TestEncodeAllImms(t *testing.T) {
	for n := math.MinInt16; n <= math.MaxInt16; n++ {
		i := api.Instr{Op: api.Addi, A: 3, B: 12, Imm: int16(n)}
		want := [4]byte{3, 0x3c, byte(n), byte(n >> 8)}
		if got, err := tinyos.Encode(i); got != want || err != nil {
			t.Fatalf("P3: Encode(%+v) = % x, %v, want % x", i, got, err, want)
		}
		if got, err := tinyos.Decode(want); got != i || err != nil {
			t.Fatalf("P3: Decode(% x) = %+v, %v, want %+v", want, got, err, i)
		}
	}
}

func TestEncodeWrong(t *testing.T) {
	wrong := func(i api.Instr) {
		t.Helper()
		if b, err := tinyos.Encode(i); api.Tell(err) != api.ErrCode || b != [4]byte{} {
			t.Errorf("P3: Encode(%+v) = % x, %v, want ErrCode and no bytes", i, b, err)
		}
	}
	for _, op := range wrongOps() {
		wrong(api.Instr{Op: op, A: 1, B: 2, Imm: 3})
	}
	for _, n := range []int{-1, 16, -16, 17, 255, 256, 1 << 16, 1 << 32, 1<<32 + 1, math.MaxInt, math.MinInt} {
		for _, op := range []api.Op{api.Li, api.Jr, api.Ecall} {
			wrong(api.Instr{Op: op, A: n, B: 2, Imm: 3})
			wrong(api.Instr{Op: op, A: 1, B: n, Imm: 3})
			wrong(api.Instr{Op: op, A: n, B: n, Imm: 3})
		}
	}
}

func TestDecodeWrong(t *testing.T) {
	for _, op := range wrongOps() {
		for _, rest := range [][3]byte{{0, 0, 0}, {0x5a, 1, 2}, {255, 255, 255}} {
			b := [4]byte{byte(op), rest[0], rest[1], rest[2]}
			if i, err := tinyos.Decode(b); api.Tell(err) != api.ErrCode || i != (api.Instr{}) {
				t.Errorf("P3: Decode(% x) = %+v, %v, want ErrCode and no instruction", b, i, err)
			}
		}
	}
}

func TestDecodeRegisters(t *testing.T) {
	for n := range 256 {
		i, err := tinyos.Decode([4]byte{24, byte(n), 0xff, 0xff})
		want := api.Instr{Op: api.Ecall, A: n / 16, B: n % 16, Imm: -1}
		if i != want || err != nil {
			t.Errorf("P3: Decode with the registers %#x = %+v, %v, want %+v", n, i, err, want)
		}
	}
}
