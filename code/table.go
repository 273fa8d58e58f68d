package code

import "excise/api"

// The ops by which families begin and end, and those that are looked for.
const (
	jumpdest = 0x5b
	push0    = 0x5f
	push1    = 0x60
	push32   = 0x7f
	dup1     = 0x80
	dup16    = 0x8f
	swap1    = 0x90
	swap16   = 0x9f
	log0     = 0xa0
	log4     = 0xa4
)

// What the families' names begin with.
const (
	ofPush = "PUSH"
	ofDup  = "DUP"
	ofSwap = "SWAP"
	ofLog  = "LOG"
)

// family tells which family an op belongs to, and its number there; no name, if to none.
func family(op byte) (string, int) {
	switch {
	case op >= push1 && op <= push32:
		return ofPush, int(op-push1) + 1
	case op >= dup1 && op <= dup16:
		return ofDup, int(op-dup1) + 1
	case op >= swap1 && op <= swap16:
		return ofSwap, int(op-swap1) + 1
	case op >= log0 && op <= log4:
		return ofLog, int(op - log0)
	}
	return "", 0
}

// families tell, but for its name, what the op of a number has in each of them.
func families() map[string]func(n int) api.OpInfo {
	return map[string]func(int) api.OpInfo{
		ofPush: func(n int) api.OpInfo { return api.OpInfo{Out: 1, Gas: 3, Quiet: true, Size: n} },
		ofDup:  func(n int) api.OpInfo { return api.OpInfo{In: n, Out: n + 1, Gas: 3, Quiet: true} },
		ofSwap: func(n int) api.OpInfo { return api.OpInfo{In: n + 1, Out: n + 1, Gas: 3, Quiet: true} },
		ofLog:  func(n int) api.OpInfo { return api.OpInfo{In: n + 2, Gas: 375 * (uint64(n) + 1)} },
	}
}

// size tells how many bytes behind an op belong to it.
func size(op byte) int {
	if name, n := family(op); name == ofPush {
		return n
	}
	return 0
}

// alone is what an op has that belongs to no family; one that there is not has no name.
func alone(op byte) api.OpInfo {
	switch {
	case op < 0x30:
		return computing(op)
	case op < 0x50:
		return asking(op)
	}
	return doing(op)
}

// computing is the table of the ops that compute, and of the one that stops, which stands among them.
func computing(op byte) api.OpInfo {
	return [count]api.OpInfo{
		0x00: {Name: "STOP"},
		0x01: {Name: "ADD", In: 2, Out: 1, Gas: 3, Quiet: true},
		0x02: {Name: "MUL", In: 2, Out: 1, Gas: 5, Quiet: true},
		0x03: {Name: "SUB", In: 2, Out: 1, Gas: 3, Quiet: true},
		0x04: {Name: "DIV", In: 2, Out: 1, Gas: 5, Quiet: true},
		0x05: {Name: "SDIV", In: 2, Out: 1, Gas: 5, Quiet: true},
		0x06: {Name: "MOD", In: 2, Out: 1, Gas: 5, Quiet: true},
		0x07: {Name: "SMOD", In: 2, Out: 1, Gas: 5, Quiet: true},
		0x08: {Name: "ADDMOD", In: 3, Out: 1, Gas: 8, Quiet: true},
		0x09: {Name: "MULMOD", In: 3, Out: 1, Gas: 8, Quiet: true},
		0x0a: {Name: "EXP", In: 2, Out: 1, Gas: 10},
		0x0b: {Name: "SIGNEXTEND", In: 2, Out: 1, Gas: 5, Quiet: true},
		0x10: {Name: "LT", In: 2, Out: 1, Gas: 3, Quiet: true},
		0x11: {Name: "GT", In: 2, Out: 1, Gas: 3, Quiet: true},
		0x12: {Name: "SLT", In: 2, Out: 1, Gas: 3, Quiet: true},
		0x13: {Name: "SGT", In: 2, Out: 1, Gas: 3, Quiet: true},
		0x14: {Name: "EQ", In: 2, Out: 1, Gas: 3, Quiet: true},
		0x15: {Name: "ISZERO", In: 1, Out: 1, Gas: 3, Quiet: true},
		0x16: {Name: "AND", In: 2, Out: 1, Gas: 3, Quiet: true},
		0x17: {Name: "OR", In: 2, Out: 1, Gas: 3, Quiet: true},
		0x18: {Name: "XOR", In: 2, Out: 1, Gas: 3, Quiet: true},
		0x19: {Name: "NOT", In: 1, Out: 1, Gas: 3, Quiet: true},
		0x1a: {Name: "BYTE", In: 2, Out: 1, Gas: 3, Quiet: true},
		0x1b: {Name: "SHL", In: 2, Out: 1, Gas: 3, Quiet: true},
		0x1c: {Name: "SHR", In: 2, Out: 1, Gas: 3, Quiet: true},
		0x1d: {Name: "SAR", In: 2, Out: 1, Gas: 3, Quiet: true},
		0x20: {Name: "KECCAK256", In: 2, Out: 1, Gas: 30},
	}[op]
}

// asking is the table of the ops that ask what there is around.
func asking(op byte) api.OpInfo {
	return [count]api.OpInfo{
		0x30: {Name: "ADDRESS", Out: 1, Gas: 2, Quiet: true},
		0x31: {Name: "BALANCE", In: 1, Out: 1},
		0x32: {Name: "ORIGIN", Out: 1, Gas: 2, Quiet: true},
		0x33: {Name: "CALLER", Out: 1, Gas: 2, Quiet: true},
		0x34: {Name: "CALLVALUE", Out: 1, Gas: 2, Quiet: true},
		0x35: {Name: "CALLDATALOAD", In: 1, Out: 1, Gas: 3},
		0x36: {Name: "CALLDATASIZE", Out: 1, Gas: 2, Quiet: true},
		0x37: {Name: "CALLDATACOPY", In: 3, Gas: 3},
		0x38: {Name: "CODESIZE", Out: 1, Gas: 2, Quiet: true},
		0x39: {Name: "CODECOPY", In: 3, Gas: 3},
		0x3a: {Name: "GASPRICE", Out: 1, Gas: 2, Quiet: true},
		0x3b: {Name: "EXTCODESIZE", In: 1, Out: 1},
		0x3c: {Name: "EXTCODECOPY", In: 4},
		0x3d: {Name: "RETURNDATASIZE", Out: 1, Gas: 2, Quiet: true},
		0x3e: {Name: "RETURNDATACOPY", In: 3, Gas: 3},
		0x3f: {Name: "EXTCODEHASH", In: 1, Out: 1},
		0x40: {Name: "BLOCKHASH", In: 1, Out: 1, Gas: 20},
		0x41: {Name: "COINBASE", Out: 1, Gas: 2, Quiet: true},
		0x42: {Name: "TIMESTAMP", Out: 1, Gas: 2, Quiet: true},
		0x43: {Name: "NUMBER", Out: 1, Gas: 2, Quiet: true},
		0x44: {Name: "PREVRANDAO", Out: 1, Gas: 2, Quiet: true},
		0x45: {Name: "GASLIMIT", Out: 1, Gas: 2, Quiet: true},
		0x46: {Name: "CHAINID", Out: 1, Gas: 2, Quiet: true},
		0x47: {Name: "SELFBALANCE", Out: 1, Gas: 5},
		0x48: {Name: "BASEFEE", Out: 1, Gas: 2, Quiet: true},
	}[op]
}

// doing is the table of the ops of stack, memory and storage, of ways through code, of calls and ends.
func doing(op byte) api.OpInfo {
	return [count]api.OpInfo{
		0x50: {Name: "POP", In: 1, Gas: 2, Quiet: true},
		0x51: {Name: "MLOAD", In: 1, Out: 1, Gas: 3},
		0x52: {Name: "MSTORE", In: 2, Gas: 3},
		0x53: {Name: "MSTORE8", In: 2, Gas: 3},
		0x54: {Name: "SLOAD", In: 1, Out: 1},
		0x55: {Name: "SSTORE", In: 2},
		0x56: {Name: "JUMP", In: 1, Gas: 8},
		0x57: {Name: "JUMPI", In: 2, Gas: 10},
		0x58: {Name: "PC", Out: 1, Gas: 2, Quiet: true},
		0x59: {Name: "MSIZE", Out: 1, Gas: 2, Quiet: true},
		0x5a: {Name: "GAS", Out: 1, Gas: 2},
		0x5b: {Name: "JUMPDEST", Gas: 1, Quiet: true},
		0x5f: {Name: "PUSH0", Out: 1, Gas: 2, Quiet: true},
		0xf0: {Name: "CREATE", In: 3, Out: 1, Gas: 32000},
		0xf1: {Name: "CALL", In: 7, Out: 1},
		0xf2: {Name: "CALLCODE", In: 7, Out: 1},
		0xf3: {Name: "RETURN", In: 2},
		0xf4: {Name: "DELEGATECALL", In: 6, Out: 1},
		0xf5: {Name: "CREATE2", In: 4, Out: 1, Gas: 32000},
		0xfa: {Name: "STATICCALL", In: 6, Out: 1},
		0xfd: {Name: "REVERT", In: 2},
		0xfe: {Name: "INVALID"},
		0xff: {Name: "SELFDESTRUCT", In: 1, Gas: 5000},
	}[op]
}
