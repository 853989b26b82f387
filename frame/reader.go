package frame

import (
	"skyfix/api"
	"skyfix/parity"
)

// reader reads words from bits.
type reader struct {
	bits []int
	flip int // what the bits are combined with
	at   int
}

// word returns the next word.
func (r *reader) word() api.Word {
	w := 0
	for _, b := range r.bits[r.at : r.at+wordBits] {
		w = w<<1 | b ^ r.flip
	}
	r.at += wordBits
	return api.Word(w)
}

// parts reads the parts of a frame.
type parts struct {
	reader
	frame api.Frame
}

// take appends so many bits of a number to the data.
func (p *parts) take(n, bits int) {
	for i := bits - 1; i >= 0; i-- {
		p.frame.Data = append(p.frame.Data, n>>i&1)
	}
}

// first takes the data of the first word.
func (p *parts) first(data int) bool {
	p.take(data, firstBits)
	return true
}

// second takes the time and the kind, and reports whether two zeros follow.
func (p *parts) second(data int) bool {
	p.frame.Tow = data >> (fullBits - towBits)
	p.frame.Kind = data >> (fullBits - towBits - kindBits) & (1<<kindBits - 1)
	return data>>(fullBits-openBits)&3 == 0
}

// middle takes the data of a word in the middle.
func (p *parts) middle(data int) bool {
	p.take(data, fullBits)
	return true
}

// last takes the data of the last word.
func (p *parts) last(data int) bool {
	p.take(data>>(fullBits-openBits), openBits)
	return true
}

// read reads a frame from as many bits as it has, each combined with flip.
func read(bits []int, words, flip int) (api.Frame, api.Fault) {
	if number(bits[:preambleBits])^flip*(1<<preambleBits-1) != preamble {
		return api.Frame{}, api.Fault{Err: api.ErrForm}
	}
	p := &parts{reader: reader{bits: bits, flip: flip}}
	d29, d30 := 0, 0
	for i := range words {
		take, closed := p.middle, false
		switch {
		case i == 0:
			take = p.first
		case i == 1:
			take, closed = p.second, true
		case i == words-1:
			take, closed = p.last, true
		}
		at := p.at
		w := p.word()
		data, e := parity.Data(w, d29, d30)
		if e != api.OK {
			return api.Frame{}, api.Fault{Err: e, At: at}
		}
		d29, d30 = int(w>>1&1), int(w&1)
		if !take(data) || closed && w&3 != 0 {
			return api.Frame{}, api.Fault{Err: api.ErrForm, At: at}
		}
	}
	return p.frame, api.Fault{}
}
