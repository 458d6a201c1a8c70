package mint

import (
	"strings"

	"planchet/api"
)

// rule says how a line is read that begins with a certain word, and what it
// does: either it is a change, or it has a reply.
type rule struct {
	words  string // behind the first one: a for a name, 1 for a number
	change func(state, args) (state, api.Errno)
	reply  func(state, args) ([]string, api.Errno)
}

// rules returns the rule of each first word.
func rules() map[string]rule {
	return map[string]rule{
		"medal":  {words: "a", change: state.withMedal},
		"above":  {words: "aa", change: state.withAbove},
		"player": {words: "a", change: state.withPlayer},
		"beat":   {words: "aa", change: state.withBeat},
		"batch":  {words: "1111", change: state.withBatch},
		"pan":    {words: "1111", change: state.withPan},
		"bet":    {words: "11", change: state.withBet},
		"roll":   {words: "", reply: state.roll},
		"ways":   {words: "", reply: state.ways},
		"chance": {words: "aa", reply: state.chance},
		"order":  {words: "", reply: state.order},
		"kings":  {words: "", reply: state.kings},
		"need":   {words: "", reply: state.need},
		"bound":  {words: "", reply: state.bound},
		"price":  {words: "1", reply: state.price},
		"liar":   {words: "11", reply: state.liar},
		"pegs":   {words: "11", reply: state.pegs},
		"ring":   {words: "1", reply: state.ring},
		"talk":   {words: "1", reply: state.talk},
		"learn":  {words: "1", reply: state.learn},
		"evade":  {words: "1", reply: state.evade},
	}
}

// find returns the first word of a line, its rule, and what it is about; and
// whether s is a line that fits a rule.
func find(s string) (first string, r rule, a args, ok bool) {
	words, ok := split(s)
	if !ok {
		return "", rule{}, args{}, false
	}
	first = words[0]
	r, ok = rules()[first]
	if !ok {
		return "", rule{}, args{}, false
	}
	a, ok = read(words[1:], r.words)
	return first, r, a, ok
}

// after returns the state after a change, and the reply to it.
func (s state) after(line string) (state, string, api.Errno) {
	first, r, a, ok := find(line)
	if !ok || r.change == nil {
		return state{}, "", api.ErrForm
	}
	next, e := r.change(s, a)
	if e != api.OK {
		return state{}, "", e
	}
	return next, first, api.OK
}

// answer returns the reply to a question.
func (s state) answer(line string) (string, api.Errno) {
	first, r, a, ok := find(line)
	if !ok || r.reply == nil {
		return "", api.ErrForm
	}
	rest, e := r.reply(s, a)
	if e != api.OK {
		return "", e
	}
	return strings.Join(append([]string{first}, rest...), " "), api.OK
}
