package vm_test

import (
	"math/big"

	"quaestor/api"
	"quaestor/calc"
	"quaestor/code"
	"quaestor/desk"
	"quaestor/fees"
	"quaestor/keccak"
	"quaestor/sha"
	"quaestor/store"
	"quaestor/vm"
	"quaestor/word"
)

// model is the machine in the chapter's words: a frame is a call of run, and what is taken back is a Copy from before.
type model struct {
	w      *store.World
	b      api.Block
	origin api.Address
	price  api.Word
	events []api.Event
}

func newModel(w *store.World, b api.Block, origin api.Address, price api.Word) *model {
	return &model{w: w, b: b, origin: origin, price: price}
}

// job is a call or a creation.
type job struct {
	from, self, code api.Address
	value            api.Word
	data             []byte
	gas              uint64
	depth            int
	static, delegate bool
}

func fault(e api.Errno) api.Result { return api.Result{Status: api.DoneFault, Fault: e} }

func (m *model) faultEvent(op byte, depth int, self api.Address, e api.Errno) api.Result {
	m.events = append(m.events, api.Event{Op: op, Depth: depth, Self: self, Fault: e})
	return fault(e)
}

func (m *model) call(j job) api.Result {
	if !j.delegate && big256(j.value).Cmp(big256(m.w.Balance(j.from))) > 0 {
		return api.Result{Status: api.DoneFault, Fault: api.ErrVMFunds, Gas: j.gas}
	}
	before := m.w.Copy()
	if !j.delegate {
		m.w.Pay(j.from, j.self, j.value)
	}
	r := m.called(j)
	if r.Status != api.DoneOK {
		m.w = before
	}
	return r
}

func (m *model) called(j job) api.Result {
	words := uint64(len(j.data)+31) / 32
	cost, out, is := uint64(0), []byte(nil), true
	switch {
	case j.code == desk.Self() && j.self == desk.Self():
		cost = 5000
		if j.gas >= cost {
			out, is = desk.Call(m.w, m.b.Time, j.from, j.value, j.data, j.static)
		}
	case j.code == at(2):
		cost, out = 60+12*words, word.Bytes(sha.Sum(j.data))
	case j.code == at(4):
		cost, out = 15+3*words, j.data
	default:
		text := m.w.Code(j.code)
		if len(text) == 0 {
			return api.Result{Status: api.DoneOK, Gas: j.gas}
		}
		return m.run(j, text, j.data)
	}
	if j.gas < cost {
		return m.faultEvent(0, j.depth, j.self, api.ErrVMGas)
	}
	if !is {
		return api.Result{Status: api.DoneRevert, Gas: j.gas - cost}
	}
	return api.Result{Status: api.DoneOK, Gas: j.gas - cost, Out: append([]byte(nil), out...)}
}

// create makes the account self by the code that is data.
func (m *model) create(j job) api.Result {
	nonce := m.w.Nonce(j.from)
	if big256(j.value).Cmp(big256(m.w.Balance(j.from))) > 0 || nonce == most {
		return api.Result{Status: api.DoneFault, Fault: api.ErrVMFunds, Gas: j.gas}
	}
	m.w.SetNonce(j.from, nonce+1)
	m.w.Touch(j.self)
	before := m.w.Copy()
	if m.w.Nonce(j.self) != 0 || len(m.w.Code(j.self)) > 0 {
		m.w = before
		return m.faultEvent(0, j.depth, j.self, api.ErrVMCollide)
	}
	m.w.SetNonce(j.self, 1)
	m.w.Pay(j.from, j.self, j.value)
	r := m.run(j, j.data, nil)
	if r.Status == api.DoneOK {
		n := uint64(len(r.Out))
		switch {
		case n > 24576 || n > 0 && r.Out[0] == 0xef:
			r = m.faultEvent(0, j.depth, j.self, api.ErrVMCode)
		case r.Gas < 200*n:
			r = m.faultEvent(0, j.depth, j.self, api.ErrVMGas)
		default:
			m.w.SetCode(j.self, r.Out)
			return api.Result{Status: api.DoneOK, Gas: r.Gas - 200*n, Made: j.self}
		}
	}
	m.w = before
	return r
}

// state is a frame.
type state struct {
	*model
	job
	text, input []byte
	stack       []api.Word // the top is last
	memory      []byte
	back        []byte
	pc          uint64
	// of the operation that is done
	op    byte
	name  string
	x     []api.Word // its arguments
	event api.Event
	ended *api.Result
}

func (m *model) run(j job, text, input []byte) api.Result {
	s := &state{model: m, job: j, text: append([]byte(nil), text...), input: append([]byte(nil), input...)}
	for s.ended == nil {
		s.op = code.At(s.text, s.pc)
		s.name = known[s.op].Name
		if e := s.steps(); e != api.OK {
			return m.faultEvent(s.op, s.depth, s.self, e)
		}
	}
	return *s.ended
}

// steps are the chapter's six.
func (s *state) steps() api.Errno {
	takes, gives, known := code.Info(s.op)
	if !known {
		return api.ErrVMOp
	}
	n := len(s.stack)
	if n < takes || n-takes+gives > 1024 {
		return api.ErrVMStack
	}
	s.x = nil
	for i := range takes {
		s.x = append(s.x, s.stack[n-1-i])
	}
	if s.static {
		switch s.name {
		case "SSTORE", "LOG0", "LOG1", "LOG2", "LOG3", "LOG4", "CREATE", "CREATE2", "SELFDESTRUCT":
			return api.ErrVMStatic
		case "CALL":
			if s.x[2] != (api.Word{}) {
				return api.ErrVMStatic
			}
		}
	}
	cost := s.cost()
	if cost == nil || cost.Cmp(new(big.Int).SetUint64(s.gas)) > 0 {
		return api.ErrVMGas
	}
	s.gas -= cost.Uint64()
	s.memory = append(s.memory, make([]byte, s.size()-uint64(len(s.memory)))...)
	s.tell()
	s.events = append(s.events, s.event)
	return s.effect()
}

func big256(a api.Word) *big.Int { return new(big.Int).SetBytes(word.Bytes(a)) }

// argument is the one that the chapter calls so: a, b, c ..
func (s *state) argument(letter byte) api.Word { return s.x[letter-'a'] }

// ranges are those of memory that an operation has, in the chapter's letters; a digit is a length that is fixed.
func (s *state) ranges() []string {
	switch s.name {
	case "KECCAK256", "RETURN", "REVERT", "LOG0", "LOG1", "LOG2", "LOG3", "LOG4":
		return []string{"ab"}
	case "CALLDATACOPY", "CODECOPY", "RETURNDATACOPY":
		return []string{"ac"}
	case "EXTCODECOPY":
		return []string{"bd"}
	case "MLOAD", "MSTORE":
		return []string{"a!"}
	case "MSTORE8":
		return []string{"a1"}
	case "CREATE", "CREATE2":
		return []string{"bc"}
	case "CALL", "CALLCODE":
		return []string{"de", "fg"}
	case "DELEGATECALL", "STATICCALL":
		return []string{"cd", "ef"}
	}
	return nil
}

// bounds are where a range begins, and its length.
func (s *state) bounds(r string) (*big.Int, *big.Int) {
	switch r[1] {
	case '!':
		return big256(s.argument(r[0])), big.NewInt(32)
	case '1':
		return big256(s.argument(r[0])), big.NewInt(1)
	}
	return big256(s.argument(r[0])), big256(s.argument(r[1]))
}

// size is that of the memory with all ranges; it is known to be small.
func (s *state) size() uint64 {
	size := uint64(len(s.memory))
	for _, r := range s.ranges() {
		at, n := s.bounds(r)
		if n.Sign() > 0 {
			end := new(big.Int).Add(at, n).Uint64()
			size = max(size, (end+31)/32*32)
		}
	}
	return size
}

// piece is the memory of a range.
func (s *state) piece(r string) []byte {
	at, n := s.bounds(r)
	if n.Sign() == 0 {
		return nil
	}
	return s.memory[at.Uint64() : at.Uint64()+n.Uint64()]
}

// cost is what the operation costs; nil: more than there can be.
func (s *state) cost() *big.Int {
	for _, r := range s.ranges() {
		at, n := s.bounds(r)
		if n.Sign() > 0 && new(big.Int).Add(at, n).Cmp(big.NewInt(1<<32)) > 0 {
			return nil
		}
	}
	sum := fees.Base(s.op) + fees.Memory(s.size()) - fees.Memory(uint64(len(s.memory)))
	more, is := s.special()
	if !is {
		return nil
	}
	return new(big.Int).Add(new(big.Int).SetUint64(sum), new(big.Int).SetUint64(more))
}

// touching is what access of an argument costs.
func (s *state) touching(letter byte) uint64 {
	if s.w.Touch(word.Addr(s.argument(letter))) {
		return 100
	}
	return 2600
}

// words is what an argument as a length costs.
func (s *state) words(each uint64, letter byte) uint64 {
	return each * fees.Words(s.argument(letter)[0])
}

// special is the table of additional costs, without those of ranges; false: ErrVMGas.
func (s *state) special() (uint64, bool) {
	zero := api.Word{}
	switch s.name {
	case "EXP":
		return fees.Exp(s.argument('b')), true
	case "KECCAK256":
		return s.words(6, 'b'), true
	case "CALLDATACOPY", "CODECOPY", "RETURNDATACOPY":
		return s.words(3, 'c'), true
	case "EXTCODECOPY":
		return s.touching('a') + s.words(3, 'd'), true
	case "BALANCE", "EXTCODESIZE", "EXTCODEHASH":
		return s.touching('a'), true
	case "LOG0", "LOG1", "LOG2", "LOG3", "LOG4":
		return 8 * s.argument('b')[0], true
	case "SLOAD":
		if s.w.TouchSlot(s.self, s.argument('a')) {
			return 100, true
		}
		return 2100, true
	case "SSTORE":
		if s.gas <= 2300 {
			return 0, false
		}
		key := s.argument('a')
		cost, _ := fees.Store(s.w.Original(s.self, key), s.w.Slot(s.self, key), s.argument('b'), !s.w.TouchSlot(s.self, key))
		return cost, true
	case "CREATE":
		return s.words(2, 'c'), s.argument('c')[0] <= 49152
	case "CREATE2":
		return s.words(8, 'c'), s.argument('c')[0] <= 49152
	case "CALL", "CALLCODE":
		cost := s.touching('b')
		if s.argument('c') != zero {
			cost += 9000
			if s.name == "CALL" && !s.w.There(word.Addr(s.argument('b'))) {
				cost += 25000
			}
		}
		return cost, true
	case "DELEGATECALL", "STATICCALL":
		return s.touching('b'), true
	case "SELFDESTRUCT":
		cost := uint64(0)
		if !s.w.Touch(word.Addr(s.argument('a'))) {
			cost = 2600
		}
		if !s.w.There(word.Addr(s.argument('a'))) && s.w.Balance(s.self) != zero {
			cost += 25000
		}
		return cost, true
	}
	return 0, true
}

// tell makes the operation's event.
func (s *state) tell() {
	e := api.Event{Op: s.op, Depth: s.depth, Self: s.self}
	who := func(letter byte) api.Word { return word.Wide(word.Addr(s.argument(letter))) }
	head := func(b []byte) []byte { return append([]byte(nil), b[:min(4, len(b))]...) }
	switch s.name {
	case "SLOAD":
		e.Arg = s.argument('a')
	case "SSTORE":
		e.Arg, e.Value = s.argument('a'), s.argument('b')
	case "BALANCE", "EXTCODESIZE", "EXTCODEHASH", "EXTCODECOPY", "SELFDESTRUCT":
		e.Arg = who('a')
	case "CALL", "CALLCODE":
		e.Arg, e.Value, e.Data = who('b'), s.argument('c'), head(s.piece("de"))
	case "DELEGATECALL", "STATICCALL":
		e.Arg, e.Data = who('b'), head(s.piece("cd"))
	case "KECCAK256":
		b := s.piece("ab")
		e.Value = keccak.Sum(b)
		if len(b) <= 128 {
			e.Data = append([]byte(nil), b...)
		}
	case "CREATE":
		e.Arg, e.Value = word.Wide(vm.Made(s.self, s.w.Nonce(s.self))), s.argument('a')
	case "CREATE2":
		e.Arg, e.Value = word.Wide(vm.Made2(s.self, s.argument('d'), s.piece("bc"))), s.argument('a')
	}
	s.event = e
}

func (s *state) give(a api.Word) { s.stack = append(s.stack, a) }

func (s *state) end(r api.Result) {
	r.Gas = s.gas
	r.Out = append([]byte(nil), r.Out...)
	s.ended = &r
}

// dataAt is n bytes from a place on, with noughts behind the end.
func dataAt(b []byte, at api.Word, n uint64) []byte {
	l := make([]byte, n)
	for i := range n {
		place := new(big.Int).Add(big256(at), new(big.Int).SetUint64(i))
		if place.Cmp(big.NewInt(int64(len(b)))) < 0 {
			l[i] = b[place.Uint64()]
		}
	}
	return l
}

// effect is what the operation does. calc's, and those that look, are told apart first.
func (s *state) effect() api.Errno {
	n := len(s.stack)
	at := s.pc
	width := uint64(0)
	if s.op >= 0x5f && s.op < 0x80 {
		width = uint64(s.op - 0x5f)
	}
	s.pc += 1 + width
	switch {
	case s.op >= 0x5f && s.op < 0x80:
		s.give(word.Read(dataAt(s.text, word.From(at+1), width)))
		return api.OK
	case s.op >= 0x80 && s.op < 0x90:
		s.give(s.stack[n-int(s.op-0x7f)])
		return api.OK
	case s.op >= 0x90 && s.op < 0xa0:
		i := n - 1 - int(s.op-0x8f)
		s.stack[n-1], s.stack[i] = s.stack[i], s.stack[n-1]
		return api.OK
	}
	s.stack = s.stack[:n-len(s.x)]
	if v, is := calc.Do(s.op, s.x...); is {
		s.give(v)
		return api.OK
	}
	if v, is := s.look(at); is {
		s.give(v)
		return api.OK
	}
	switch s.name {
	case "CALL", "CALLCODE", "DELEGATECALL", "STATICCALL":
		s.calls()
		return api.OK
	case "CREATE", "CREATE2":
		s.creates()
		return api.OK
	}
	return s.changes()
}

// look is what is pushed by operations that change nothing.
func (s *state) look(at uint64) (api.Word, bool) {
	length := func(b []byte) api.Word { return word.From(uint64(len(b))) }
	switch s.name {
	case "KECCAK256":
		return keccak.Sum(s.piece("ab")), true
	case "ADDRESS":
		return word.Wide(s.self), true
	case "ORIGIN":
		return word.Wide(s.origin), true
	case "CALLER":
		return word.Wide(s.from), true
	case "CALLVALUE":
		return s.value, true
	case "GASPRICE":
		return s.price, true
	case "CALLDATALOAD":
		return word.Read(dataAt(s.input, s.argument('a'), 32)), true
	case "CALLDATASIZE":
		return length(s.input), true
	case "CODESIZE":
		return length(s.text), true
	case "RETURNDATASIZE":
		return length(s.back), true
	case "BALANCE":
		return s.w.Balance(word.Addr(s.argument('a'))), true
	case "SELFBALANCE":
		return s.w.Balance(s.self), true
	case "EXTCODESIZE":
		return length(s.w.Code(word.Addr(s.argument('a')))), true
	case "EXTCODEHASH":
		who := word.Addr(s.argument('a'))
		if !s.w.There(who) {
			return api.Word{}, true
		}
		return keccak.Sum(s.w.Code(who)), true
	case "MLOAD":
		return word.Read(s.piece("a!")), true
	case "SLOAD":
		return s.w.Slot(s.self, s.argument('a')), true
	case "PC":
		return word.From(at), true
	case "MSIZE":
		return length(s.memory), true
	case "GAS":
		return word.From(s.gas), true
	}
	return s.lookBlock()
}

func (s *state) lookBlock() (api.Word, bool) {
	switch s.name {
	case "BLOCKHASH":
		a, n := big256(s.argument('a')), new(big.Int).SetUint64(s.b.Number)
		if a.Cmp(n) < 0 && new(big.Int).Sub(n, a).Cmp(big.NewInt(256)) <= 0 {
			return keccak.Join(s.argument('a')), true
		}
		return api.Word{}, true
	case "COINBASE":
		return word.Wide(s.b.Coinbase), true
	case "TIMESTAMP":
		return word.From(s.b.Time), true
	case "NUMBER":
		return word.From(s.b.Number), true
	case "PREVRANDAO":
		return s.b.Random, true
	case "GASLIMIT":
		return word.From(s.b.GasLimit), true
	case "CHAINID":
		return s.b.Chain, true
	case "BASEFEE":
		return s.b.BaseFee, true
	}
	return api.Word{}, false
}

// changes are the operations that push nothing.
func (s *state) changes() api.Errno {
	switch s.name {
	case "CALLDATACOPY":
		copy(s.piece("ac"), dataAt(s.input, s.argument('b'), s.argument('c')[0]))
	case "CODECOPY":
		copy(s.piece("ac"), dataAt(s.text, s.argument('b'), s.argument('c')[0]))
	case "EXTCODECOPY":
		copy(s.piece("bd"), dataAt(s.w.Code(word.Addr(s.argument('a'))), s.argument('c'), s.argument('d')[0]))
	case "RETURNDATACOPY":
		if new(big.Int).Add(big256(s.argument('b')), big256(s.argument('c'))).Cmp(big.NewInt(int64(len(s.back)))) > 0 {
			return api.ErrVMRange
		}
		copy(s.piece("ac"), dataAt(s.back, s.argument('b'), s.argument('c')[0]))
	case "MSTORE":
		copy(s.piece("a!"), word.Bytes(s.argument('b')))
	case "MSTORE8":
		s.piece("a1")[0] = byte(s.argument('b')[0])
	case "SSTORE":
		key := s.argument('a')
		_, refund := fees.Store(s.w.Original(s.self, key), s.w.Slot(s.self, key), s.argument('b'), false)
		s.w.SetSlot(s.self, key, s.argument('b'))
		s.w.Refund(refund)
	case "JUMP", "JUMPI":
		if s.name == "JUMPI" && s.argument('b') == (api.Word{}) {
			return api.OK
		}
		if !code.May(s.text, s.argument('a')) {
			return api.ErrVMJump
		}
		s.pc = s.argument('a')[0]
	case "LOG0", "LOG1", "LOG2", "LOG3", "LOG4":
		s.w.Log(api.Log{Addr: s.self, Topics: s.x[2:], Data: s.piece("ab")})
	case "STOP":
		s.end(api.Result{Status: api.DoneOK})
	case "RETURN":
		s.end(api.Result{Status: api.DoneOK, Out: s.piece("ab")})
	case "REVERT":
		s.end(api.Result{Status: api.DoneRevert, Out: s.piece("ab")})
	case "SELFDESTRUCT":
		to, v := word.Addr(s.argument('a')), s.w.Balance(s.self)
		s.w.SetBalance(s.self, api.Word{})
		if to != s.self {
			sum, _ := word.Add(s.w.Balance(to), v)
			s.w.SetBalance(to, sum)
		}
		s.w.Kill(s.self)
		s.end(api.Result{Status: api.DoneOK})
	}
	return api.OK
}

// after takes what a call or a creation came to.
func (s *state) after(r api.Result, pushed api.Word, room []byte) {
	s.gas += r.Gas
	s.back = append([]byte(nil), r.Out...)
	copy(room, r.Out)
	if r.Status != api.DoneOK {
		pushed = api.Word{}
	}
	s.give(pushed)
}

func (s *state) calls() {
	g := fees.Keep(s.gas, s.argument('a'))
	s.gas -= g
	to := word.Addr(s.argument('b'))
	j := job{from: s.self, self: to, code: to, gas: g, depth: s.depth + 1, static: s.static}
	data, room := "cd", "ef"
	switch s.name {
	case "CALL", "CALLCODE":
		data, room = "de", "fg"
		j.value = s.argument('c')
		if j.value != (api.Word{}) {
			j.gas += 2300
		}
		if s.name == "CALLCODE" {
			j.self = s.self
		}
	case "DELEGATECALL":
		j.from, j.self, j.value, j.delegate = s.from, s.self, s.value, true
	case "STATICCALL":
		j.static = true
	}
	j.data = append([]byte(nil), s.piece(data)...)
	if s.depth == 1024 {
		s.after(api.Result{Gas: j.gas}, api.Word{}, nil)
		return
	}
	s.after(s.call(j), word.From(1), s.piece(room))
}

func (s *state) creates() {
	g := s.gas - s.gas/64
	s.gas -= g
	made := word.Addr(s.event.Arg)
	if s.depth == 1024 {
		s.after(api.Result{Gas: g}, api.Word{}, nil)
		return
	}
	s.after(s.create(job{from: s.self, self: made, value: s.argument('a'), data: append([]byte(nil), s.piece("bc")...), gas: g, depth: s.depth + 1}), word.Wide(made), nil)
}

// message is what a message comes to at depth 0.
func (m *model) message(x api.Message) api.Result {
	if x.Create {
		return m.create(job{from: x.From, self: vm.Made(x.From, m.w.Nonce(x.From)), value: x.Value, data: x.Data, gas: x.Gas})
	}
	return m.call(job{from: x.From, self: x.To, code: x.To, value: x.Value, data: x.Data, gas: x.Gas})
}

// transaction is what a message comes to as a transaction, which may be one.
func (m *model) transaction(x api.Message) (api.Result, []api.Log, uint64) {
	m.w.Begin()
	to := x.To
	n := m.w.Nonce(x.From)
	if x.Create {
		to = vm.Made(x.From, n)
	} else {
		m.w.SetNonce(x.From, n+1)
	}
	add := func(a api.Address, gas uint64, price *big.Int) {
		sum := new(big.Int).Mul(new(big.Int).SetUint64(gas), price)
		sum.Add(sum, big256(m.w.Balance(a)))
		m.w.SetBalance(a, word.Read(sum.Mod(sum, new(big.Int).Lsh(big.NewInt(1), 256)).Bytes()))
	}
	add(x.From, x.Gas, new(big.Int).Neg(big256(x.Price)))
	for _, a := range []api.Address{x.From, to, m.b.Coinbase, desk.Self(), at(2), at(4)} {
		m.w.Touch(a)
	}
	all := x.Gas
	x.Gas -= fees.Intrinsic(x.Data, x.Create)
	r := m.message(x)
	used := all - r.Gas
	back := uint64(0)
	if m.w.Refunds() > 0 {
		back = fees.Back(used, uint64(m.w.Refunds()))
	}
	add(x.From, r.Gas+back, big256(x.Price))
	add(m.b.Coinbase, used-back, new(big.Int).Sub(big256(x.Price), big256(m.b.BaseFee)))
	var logs []api.Log
	if r.Status == api.DoneOK {
		logs = m.w.Logs()
	}
	m.w.End()
	r.Gas += back
	return r, logs, used - back
}
