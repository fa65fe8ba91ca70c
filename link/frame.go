package link

import (
	"till/api"
	"till/code"
)

// EncodeFrame writes a frame, DecodeFrame reads one.
func EncodeFrame(f api.Frame) []byte {
	if !mayBe(f) {
		return nil
	}
	w := code.New()
	w.U8(uint8(f.From))
	w.U8(uint8(f.To))
	w.Var(f.Mine)
	w.Var(f.Yours)
	w.Var(f.Seq)
	w.Var(f.Ack)
	w.Bytes(f.Body)
	w.U32(code.Sum(w.Out()))
	return w.Out()
}

func DecodeFrame(b []byte) (api.Frame, bool) {
	if len(b) > api.MaxFrame { // ahead of reading: a Reader copies all that it is given
		return api.Frame{}, false
	}
	r := code.Read(b)
	f := api.Frame{From: int(r.U8()), To: int(r.U8())}
	f.Mine, f.Yours = r.Var(api.MaxNumber), r.Var(api.MaxNumber)
	f.Seq, f.Ack = r.Var(api.MaxNumber), r.Var(api.MaxNumber)
	f.Body = r.Bytes(api.MaxBody)
	sum := code.Sum(b[:r.At()])
	if r.U32() != sum || r.End() != api.OK || !mayBe(f) {
		return api.Frame{}, false
	}
	return f, true
}

// mayBe tells whether a frame is one that a link could send.
func mayBe(f api.Frame) bool {
	most := api.MaxBody
	if f.Seq == 0 {
		most = 0
	}
	return isNode(f.From) && isNode(f.To) &&
		f.Mine >= 1 && max(f.Mine, f.Yours, f.Seq, f.Ack) <= api.MaxNumber &&
		len(f.Body) <= most
}

func isNode(n int) bool { return 0 <= n && n <= api.MaxTills }
