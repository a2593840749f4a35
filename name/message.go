package name

import (
	"slices"

	"wharf/api"
	"wharf/octet"
)

const (
	headLength   = 12
	mostRecords  = 64
	mostNumber   = 65535
	mostTTL      = 1<<31 - 1
	mostData     = 65535
	addrLength   = 4
	questionHead = 4  // bytes of a question behind its name
	answerHead   = 10 // bytes of an answer between its name and its Data
)

// check is the first error of a message that is to be encoded: one kind of error after the other is looked for in all of it.
func check(m api.Message) api.Errno {
	all := slices.Concat(m.Question, m.Answer)
	if !isNumber(m.ID) || !isNumber(m.Flags) || len(m.Question) > mostRecords || len(m.Answer) > mostRecords {
		return api.ErrArg
	}
	for _, r := range all {
		if !isNumber(r.Type) || !isNumber(r.Class) {
			return api.ErrArg
		}
	}
	for _, r := range m.Answer {
		if r.TTL < 0 || r.TTL > mostTTL {
			return api.ErrArg
		}
	}
	for _, r := range all {
		if _, err := Pack(r.Name); err != api.OK {
			return err
		}
	}
	return checkData(m.Answer)
}

// checkData is the first error of the Data of answers.
func checkData(answers []api.Record) api.Errno {
	for _, r := range answers {
		if r.Type != api.TypeCNAME {
			continue
		}
		if _, err := Pack(string(r.Data)); err != api.OK {
			return err
		}
	}
	for _, r := range answers {
		if r.Type == api.TypeA && len(r.Data) != addrLength {
			return api.ErrForm
		}
	}
	for _, r := range answers {
		if len(r.Data) > mostData {
			return api.ErrLong
		}
	}
	return api.OK
}

// isNumber tells whether a number fits into two bytes.
func isNumber(n int) bool { return n >= 0 && n <= mostNumber }

// Encode is a message as bytes.
func Encode(m api.Message) ([]byte, api.Errno) {
	if err := check(m); err != api.OK {
		return nil, err
	}
	var w octet.Writer
	for _, n := range [...]int{m.ID, m.Flags, len(m.Question), len(m.Answer), 0, 0} {
		w.Two(n)
	}
	for _, r := range m.Question {
		writeHead(&w, r)
	}
	for _, r := range m.Answer {
		writeHead(&w, r)
		w.Four(uint32(r.TTL))
		data := r.Data
		if r.Type == api.TypeCNAME {
			data, _ = Pack(string(r.Data))
		}
		w.Two(len(data))
		w.Raw(data)
	}
	return w.Bytes(), api.OK
}

// writeHead writes what questions and answers begin with.
func writeHead(w *octet.Writer, r api.Record) {
	b, _ := Pack(r.Name)
	w.Raw(b)
	w.Two(r.Type)
	w.Two(r.Class)
}

// Decode is a message out of bytes.
func Decode(b []byte) (api.Message, api.Errno) {
	if len(b) < headLength {
		return api.Message{}, api.ErrShort
	}
	r := octet.NewReader(b[:headLength])
	m := api.Message{ID: r.Two(), Flags: r.Two()}
	questions, answers := r.Two(), r.Two()
	if questions > mostRecords || answers > mostRecords {
		return api.Message{}, api.ErrLong
	}
	next := records(b)
	err := api.OK
	for i := range questions + answers {
		var one api.Record
		one, err = next(i >= questions)
		if i < questions {
			m.Question = append(m.Question, one)
		} else {
			m.Answer = append(m.Answer, one)
		}
	}
	if err != api.OK {
		return api.Message{}, err
	}
	return m, api.OK
}

// records is the closure that all records of a message are read by. It keeps the first error, and reads nothing more behind it.
func records(b []byte) func(answer bool) (api.Record, api.Errno) {
	at, err := headLength, api.OK
	return func(answer bool) (api.Record, api.Errno) {
		if err != api.OK {
			return api.Record{}, err
		}
		var one api.Record
		one, at, err = record(b, at, answer)
		return one, err
	}
}

// record is the question or answer at a place, and the place behind it.
func record(b []byte, at int, answer bool) (api.Record, int, api.Errno) {
	name, at, err := Unpack(b, at)
	if err != api.OK {
		return api.Record{}, 0, err
	}
	head := questionHead
	if answer {
		head = answerHead
	}
	r := octet.NewReader(b[at:min(at+head, len(b))])
	one := api.Record{Name: name, Type: r.Two(), Class: r.Two()}
	if !answer {
		return one, at + head, r.Err()
	}
	one.TTL = int(r.Four())
	if one.TTL > mostTTL {
		one.TTL = 0
	}
	end := at + head + r.Two()
	if r.Err() != api.OK || end > len(b) {
		return api.Record{}, 0, api.ErrShort
	}
	one.Data, err = data(b, at+head, end, one.Type)
	return one, end, err
}

// data is the Data of an answer, which stand in a message between two places.
func data(b []byte, from, to, kind int) ([]byte, api.Errno) {
	switch kind {
	case api.TypeA:
		if to-from != addrLength {
			return nil, api.ErrForm
		}
	case api.TypeCNAME:
		name, behind, err := Unpack(b, from)
		if err != api.OK {
			return nil, err
		}
		if behind != to {
			return nil, api.ErrForm
		}
		return []byte(name), api.OK
	}
	return slices.Clone(b[from:to]), api.OK
}
