package ir

import "rushlight/api"

// fields is which fields the instructions of an operation use.
type fields struct {
	known          bool // there is such an operation
	d, a, b, args  bool
	fn, obj        bool
	off, size, num bool
	storeLog       bool // Log may stand though nothing is set
}

// fieldsOf is which fields an operation uses; none if there is no such operation.
func fieldsOf(op int) fields {
	f := fields{known: true}
	switch op {
	case api.IrConst:
		f.d, f.num = true, true
	case api.IrBin:
		f.b = true
		fallthrough
	case api.IrUn:
		f.fn = true
		fallthrough
	case api.IrCopy:
		f.a = true
		fallthrough
	case api.IrIn:
		f.d = true
	case api.IrLoad:
		f.d, f.a, f.off, f.size = true, true, true, true
	case api.IrStore:
		f.b, f.off, f.size, f.storeLog = true, true, true, true
		fallthrough
	case api.IrOut:
		f.a = true
	case api.IrFrame, api.IrGlobal:
		f.d, f.obj, f.off = true, true, true
	case api.IrCall:
		f.d, f.obj, f.args = true, true, true
	case api.IrMark:
	default:
		f.known = false
	}
	return f
}
