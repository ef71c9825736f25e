package gate

import (
	"math/rand"
	"slices"
	"testing"

	"wainwright/api"
)

// plain is a gateway without a flash and a log. Power that goes is told to it from without.
type plain struct {
	n, version int
	verdict    int // a record's kind: 2 or 3; 0: not decided
	ended      bool
	up         bool
	took       int
	voted, did []bool
	ever       []bool // who voted for the campaign at any time, whatever was forgotten
}

func (p *plain) state() api.GateState {
	return api.GateState{N: p.n, Version: p.version, Commit: p.verdict == 2, Abort: p.verdict == 3, Ended: p.ended}
}

func (p *plain) forget() {
	p.voted, p.did = make([]bool, len(p.voted)), make([]bool, len(p.did))
}

func (p *plain) copied() plain {
	own := *p
	own.voted, own.did, own.ever = append([]bool{}, p.voted...), append([]bool{}, p.did...), append([]bool{}, p.ever...)
	return own
}

// lose is what the power's going does: of what was done nothing lasts, but that a unit voted.
func (p *plain) lose(ahead plain) {
	if p.n == ahead.n {
		ahead.ever = p.ever
	}
	*p = ahead
	p.up = false
	p.forget()
}

func (p *plain) begin(version int) (int, api.Errno) {
	switch {
	case !p.up:
		return 0, api.ErrPower
	case p.n > 0 && !p.ended:
		return 0, api.ErrLate
	case p.n == 8:
		return 0, api.ErrFull
	case version <= p.took:
		return 0, api.ErrOld
	}
	p.n, p.version, p.took, p.verdict, p.ended = p.n+1, version, version, 0, false
	p.forget()
	p.ever = make([]bool, len(p.voted))
	return p.n, api.OK
}

func (p *plain) giveUp() api.Errno {
	if !p.up {
		return api.ErrPower
	}
	if p.n == 0 || p.verdict != 0 {
		return api.ErrLate
	}
	p.verdict = 3
	return api.OK
}

func (p *plain) hear(m api.Message) []api.Message {
	if !p.up {
		return nil
	}
	pending := p.n == m.N && !p.ended
	switch {
	case m.Kind == api.Vote && m.Yes && pending && p.verdict == 0:
		p.voted[m.Unit], p.ever[m.Unit] = true, true
		if !slices.Contains(p.voted, false) {
			p.verdict = 2
		}
	case m.Kind == api.Done && pending && p.verdict != 0:
		p.did[m.Unit] = true
		p.ended = !slices.Contains(p.did, false)
	case m.Kind == api.Ask && m.N == p.n && p.verdict == 2:
		return []api.Message{{Kind: api.Commit, Unit: m.Unit, N: m.N}}
	case m.Kind == api.Ask && (m.N != p.n || p.verdict == 3):
		return []api.Message{{Kind: api.Abort, Unit: m.Unit, N: m.N}}
	}
	return nil
}

func (p *plain) due(c api.Campaign, of int) ([]api.Message, api.Errno) {
	switch {
	case !p.up:
		return nil, api.ErrPower
	case p.n == 0 || p.ended:
		return nil, api.ErrLate
	case c.N != p.n:
		return nil, api.ErrWho
	case p.verdict != 0 && p.did[of], p.verdict == 0 && p.voted[of]:
		return nil, api.OK
	case p.verdict == 2:
		return []api.Message{{Kind: api.Commit, Unit: of, N: p.n}}, api.OK
	case p.verdict == 3:
		return []api.Message{{Kind: api.Abort, Unit: of, N: p.n}}, api.OK
	}
	var pieces [][]int
	for words := range slices.Chunk(c.Images[of], 8) {
		pieces = append(pieces, words)
	}
	return sent(of, p.n, c.R.Targets[of].Image, pieces...), api.OK
}

// chance does what a vehicle would now and then, and else what is lost, comes twice, late, or wrong.
type chance struct {
	*rand.Rand
	f fleet
	// how often that came to be
	committed, aborted, ended, cut int
}

func (c *chance) message(p *plain) api.Message {
	m := api.Message{Kind: c.Intn(9), Unit: c.Intn(c.f.units), N: max(p.n, 1), Yes: c.Intn(4) > 0}
	if c.Intn(3) > 0 {
		m.Kind = api.Vote
		if p.verdict != 0 {
			m.Kind = api.Done
		}
	}
	if c.Intn(5) == 0 {
		m.N = 1 + c.Intn(api.MaxReleases)
	}
	return m
}

// step is one call to both, held against each other.
func (c *chance) step(t *testing.T, g *api.Gate, p *plain) {
	t.Helper()
	was, ahead := *g, p.copied()
	var e, want api.Errno
	var next api.Gate
	switch c.Intn(12) {
	case 0, 1:
		version := 1 + c.Intn(versions)
		if c.Intn(3) > 0 {
			version = min(p.took+1, versions)
		}
		var n, wantN int
		next, n, e = Begin(c.f.b, c.f.l, was, c.f.offer(version), 0)
		wantN, want = p.begin(version)
		if n != wantN && (n != 0 || next.Up) {
			t.Errorf("begun as %d, want %d", n, wantN)
		}
	case 2:
		if c.Intn(3) > 0 {
			return
		}
		next, e = GiveUp(was)
		want = p.giveUp()
	case 3:
		campaign := c.f.campaign(c.Intn(3)+max(p.n-1, 0), 1+c.Intn(versions))
		of := c.Intn(c.f.units)
		got, e := Due(was, campaign, of)
		l, want := p.due(campaign, of)
		wantErrno(t, "due", e, want)
		wantMessages(t, "due", got, l)
		return
	default:
		m := c.message(p)
		var got []api.Message
		next, got, e = Hear(was, m)
		wantMessages(t, "hear", got, p.hear(m))
	}
	wantErrno(t, "step", e, want)
	if want != api.OK {
		wantGate(t, "refused", next, api.Gate{})
		return
	}
	if was.Up && !next.Up {
		c.cut++
		p.lose(ahead)
		if was.F.Fuel < 0 || next.F.Fuel != 0 {
			t.Errorf("the power went with fuel %d, and left %d", was.F.Fuel, next.F.Fuel)
		}
	}
	c.wantDecidedOnce(t, ahead, p)
	*g = next
}

// wantDecidedOnce is P7.5, of the plain one, which the gateway is like.
func (c *chance) wantDecidedOnce(t *testing.T, ahead plain, p *plain) {
	t.Helper()
	if p.n != ahead.n {
		if p.n != ahead.n+1 || ahead.n > 0 && !ahead.ended {
			t.Errorf("%d was begun behind %d, which wasn't ended", p.n, ahead.n)
		}
		return
	}
	if ahead.verdict != 0 && p.verdict != ahead.verdict || ahead.ended && !p.ended {
		t.Errorf("what was decided of %d isn't any more", p.n)
	}
	if p.verdict == 2 && slices.Contains(p.ever, false) {
		t.Errorf("%d is to be committed, and not all have voted", p.n)
	}
	if p.ended && !ahead.ended {
		c.ended++
	}
	if ahead.verdict == 0 && p.verdict == 2 {
		c.committed++
	}
	if ahead.verdict == 0 && p.verdict == 3 {
		c.aborted++
	}
}

func wantLike(t *testing.T, g api.Gate, p *plain) {
	t.Helper()
	wantState(t, "like the plain one", g, p.state())
	if g.Up != p.up || g.T.Version != p.took || !slices.Equal(g.Voted, p.voted) || !slices.Equal(g.Did, p.did) {
		t.Errorf("up %v, version %d, voted %v, did %v, want %v, %d, %v, %v", g.Up, g.T.Version, g.Voted, g.Did, p.up, p.took, p.voted, p.did)
	}
}

// TestLikeAPlainGate holds gateways against plain ones, through many calls, with power that goes somewhere.
func TestLikeAPlainGate(t *testing.T) {
	c := &chance{Rand: rand.New(rand.NewSource(7))}
	for round := range 400 {
		c.f = fleetOf(t, 1+round%api.MaxUnits, []int{7}, []int{8, 8}, counted(9, 90), counted(40, 500))
		g, e := New(root(1, 1, 3), c.f.units)
		wantErrno(t, "new", e, api.OK)
		p := &plain{up: true, voted: make([]bool, c.f.units), did: make([]bool, c.f.units)}
		for range 250 {
			if c.Intn(10) == 0 {
				g.F.Fuel = c.Intn(60)
			}
			if !g.Up && c.Intn(3) > 0 || c.Intn(50) == 0 {
				g, e = Boot(g)
				wantErrno(t, "boot", e, api.OK)
				p.up = true
				p.forget()
			}
			c.step(t, &g, p)
			wantLike(t, g, p)
		}
		if t.Failed() {
			return
		}
	}
	if c.committed < 400 || c.aborted < 400 || c.ended < 400 || c.cut < 400 {
		t.Errorf("too little came to be: %d committed, %d aborted, %d ended, %d cuts", c.committed, c.aborted, c.ended, c.cut)
	}
}
