package base

import (
	"skyfix/api"
)

const (
	// maxId, maxTime, maxPrn and maxLock are the greatest numbers of their kinds.
	maxId   = 65535
	maxTime = 604799999
	maxPrn  = 63
	maxLock = 65535
	// maxPhase is the greatest phase of an observation.
	maxPhase = 100000000000000
	// maxText is the greatest number of bytes of a text, firstChar and lastChar are the bytes that it can have.
	maxText   = 200
	firstChar = 32
	lastChar  = 126
)

// within reports whether x is from low to high.
func within(x, low, high int) bool { return x >= low && x <= high }

// isChar reports whether a byte can be in a text.
func isChar(c byte) bool { return c >= firstChar && c <= lastChar }

// without reports whether a message has no other fields than its kind.
func without(m api.Message) bool {
	if m.Kind != api.MsgPos && m.Pos != [3]int{} {
		return false
	}
	if m.Kind != api.MsgObs && (m.Time != 0 || len(m.Obs) > 0) {
		return false
	}
	return m.Kind == api.MsgText || m.Text == ""
}

// Check returns the error of a message.
func Check(m api.Message) api.Errno {
	switch {
	case !within(m.Kind, api.MsgPos, api.MsgText):
		return api.ErrForm
	case !within(m.Id, 0, maxId):
		return api.ErrRange
	case !without(m):
		return api.ErrForm
	}
	switch m.Kind {
	case api.MsgPos:
		for _, x := range m.Pos {
			if !within(x, -api.MaxLength, api.MaxLength) {
				return api.ErrRange
			}
		}
		return api.OK
	case api.MsgObs:
		return checkObs(m)
	}
	if len(m.Text) > maxText {
		return api.ErrLong
	}
	for _, c := range []byte(m.Text) {
		if !isChar(c) {
			return api.ErrForm
		}
	}
	return api.OK
}

// checkObs checks the time and the observations of a message.
func checkObs(m api.Message) api.Errno {
	if !within(m.Time, 0, maxTime) {
		return api.ErrRange
	}
	if len(m.Obs) > api.MaxSats {
		return api.ErrLong
	}
	for i, o := range m.Obs {
		if !within(o.Prn, 1, maxPrn) || !within(o.Range, 0, api.MaxLength) || !within(o.Phase, -maxPhase, maxPhase) || !within(o.Lock, 0, maxLock) {
			return api.ErrRange
		}
		if i > 0 && o.Prn <= m.Obs[i-1].Prn {
			return api.ErrOrder
		}
	}
	return api.OK
}

// Encode returns the payload of a message.
func Encode(m api.Message) ([]byte, api.Errno) {
	if e := Check(m); e != api.OK {
		return nil, e
	}
	b := appended([]byte{byte(m.Kind)}, m.Id, 2)
	switch m.Kind {
	case api.MsgPos:
		for _, x := range m.Pos {
			b = appended(b, x, 6)
		}
	case api.MsgObs:
		b = append(appended(b, m.Time, 4), byte(len(m.Obs)))
		for _, o := range m.Obs {
			b = appended(appended(append(b, byte(o.Prn)), o.Range, 6), o.Phase, 6)
			b = appended(b, o.Lock, 2)
		}
	case api.MsgText:
		b = append(append(b, byte(len(m.Text))), m.Text...)
	}
	return b, api.OK
}

// reader reads numbers from bytes; after the first fault it reads nothing more.
type reader struct {
	b     []byte
	at    int
	fault api.Fault
}

// fail keeps a fault, if it is the first one.
func (r *reader) fail(e api.Errno, at int) {
	if r.fault.Err == api.OK {
		r.fault = api.Fault{Err: e, At: at}
	}
}

// number reads a number of so many bytes, which has to be from low to high.
func (r *reader) number(many, low, high int) int {
	return r.limited(many, low, high, api.ErrRange)
}

// limited reads a number of so many bytes; it has an error unless it is from low to high.
func (r *reader) limited(many, low, high int, e api.Errno) int {
	if r.fault.Err != api.OK {
		return 0
	}
	if r.at+many > len(r.b) {
		r.fail(api.ErrShort, len(r.b))
		return 0
	}
	n := 0
	for _, x := range r.b[r.at : r.at+many] {
		n = n<<8 | int(x)
	}
	if low < 0 && r.b[r.at] >= 1<<7 {
		n -= 1 << (8 * many)
	}
	if !within(n, low, high) {
		r.fail(e, r.at)
		return 0
	}
	r.at += many
	return n
}

// obs reads an observation whose number has to be greater than another one.
func (r *reader) obs(last int) api.Obs {
	at := r.at
	o := api.Obs{Prn: r.number(1, 1, maxPrn)}
	if o.Prn <= last {
		r.fail(api.ErrOrder, at)
	}
	o.Range = r.number(6, 0, api.MaxLength)
	o.Phase = r.number(6, -maxPhase, maxPhase)
	o.Lock = r.number(2, 0, maxLock)
	return o
}

// text reads so many bytes of a text.
func (r *reader) text(many int) string {
	var text []byte
	for range many {
		c := r.limited(1, firstChar, lastChar, api.ErrForm)
		text = append(text, byte(c))
	}
	return string(text)
}

// Decode returns the message of a payload.
func Decode(payload []byte) (api.Message, api.Fault) {
	r := &reader{b: payload}
	m := api.Message{Kind: r.limited(1, api.MsgPos, api.MsgText, api.ErrForm), Id: r.number(2, 0, maxId)}
	switch m.Kind {
	case api.MsgPos:
		for i := range m.Pos {
			m.Pos[i] = r.number(6, -api.MaxLength, api.MaxLength)
		}
	case api.MsgObs:
		m.Time = r.number(4, 0, maxTime)
		many := r.limited(1, 0, api.MaxSats, api.ErrLong)
		last := 0
		for range many {
			o := r.obs(last)
			m.Obs = append(m.Obs, o)
			last = o.Prn
		}
	case api.MsgText:
		m.Text = r.text(r.limited(1, 0, maxText, api.ErrLong))
	}
	if r.at < len(payload) {
		r.fail(api.ErrLong, r.at)
	}
	if r.fault.Err != api.OK {
		return api.Message{}, r.fault
	}
	return m, api.Fault{}
}
