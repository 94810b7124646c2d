// Package code: instructions as the 4 bytes that they have in memory.
package code

import "tinyos/api"

// Encode writes an instruction: ErrCode, if it is none.
func Encode(i api.Instr) ([4]byte, error) {
	if !isOp(i.Op) || !isRegister(i.A) || !isRegister(i.B) {
		return [4]byte{}, api.ErrCode
	}
	imm := uint16(i.Imm)
	return [4]byte{byte(i.Op), byte(i.A<<4 | i.B), byte(imm), byte(imm >> 8)}, nil
}

// Decode reads an instruction: ErrCode, if the bytes are none.
func Decode(b [4]byte) (api.Instr, error) {
	op := api.Op(b[0])
	if !isOp(op) {
		return api.Instr{}, api.ErrCode
	}
	imm := uint16(b[2]) | uint16(b[3])<<8
	return api.Instr{Op: op, A: int(b[1] >> 4), B: int(b[1] & 15), Imm: int16(imm)}, nil
}

func isOp(op api.Op) bool { return op >= api.Li && op <= api.Ecall }

func isRegister(n int) bool { return n >= 0 && n < api.MaxRegs }
