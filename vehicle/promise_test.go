package vehicle

import (
	"fmt"
	"math/rand"
	"slices"
	"testing"

	"wainwright/api"
	"wainwright/gate"
	"wainwright/unit"
)

// journey is a vehicle from New on, with one beside it who sees all, forgets nothing, and holds it against P8.3 behind each happening.
type journey struct {
	t       *testing.T
	f       fleet
	v       api.Vehicle
	verdict [api.MaxReleases + 1]int // of each campaign: api.Commit, api.Abort, or 0
	by      [api.MaxUnits]int        // by which campaign each unit ran last
	trace   []string
}

func journeyOf(t *testing.T, f fleet) *journey {
	t.Helper()
	return &journey{t: t, f: f, v: f.vehicle(t)}
}

func (j *journey) fail(format string, l ...any) {
	j.t.Helper()
	j.t.Fatalf("%s\nbehind %v", fmt.Sprintf(format, l...), j.trace)
}

// do says whether it was done.
func (j *journey) do(x api.Happening) bool {
	j.t.Helper()
	next, e := Do(j.v, x)
	j.trace = append(j.trace, fmt.Sprintf("%d/%d/%d:%d", x.Kind, x.Unit, x.K, e))
	if e != api.OK {
		return false
	}
	j.v = next
	j.look()
	return true
}

func (j *journey) look() {
	j.t.Helper()
	if e := Check(j.v); e != api.OK {
		j.fail("check: %d", e)
	}
	j.lookAtGate()
	for of := range j.v.Units {
		j.lookAtUnit(of)
	}
}

// lookAtGate: what is decided stays so.
func (j *journey) lookAtGate() {
	j.t.Helper()
	s, e := gate.Read(j.v.G)
	if e != api.OK {
		j.fail("gateway: %d", e)
	}
	verdict := 0
	if s.Commit {
		verdict = api.Commit
	}
	if s.Abort {
		verdict = api.Abort
	}
	if j.verdict[s.N] != 0 && j.verdict[s.N] != verdict || s.Commit && s.Abort {
		j.fail("campaign %d was decided as %d, and is %d", s.N, j.verdict[s.N], verdict)
	}
	j.verdict[s.N] = verdict
	if len(j.v.Campaigns) != s.N {
		j.fail("%d campaigns, and %d was begun last", len(j.v.Campaigns), s.N)
	}
}

// lookAtUnit: booted, it runs a whole image, the factory's, or one of a campaign that is to be committed; and it doesn't go back.
func (j *journey) lookAtUnit(of int) {
	j.t.Helper()
	u, e := unit.Boot(j.v.Units[of])
	if e != api.OK {
		j.fail("unit %d can't be booted: %d", of, e)
	}
	s, e := unit.Read(u)
	if e != api.OK || s.By < j.by[of] {
		j.fail("unit %d ran by %d, and now by %d: %d", of, j.by[of], s.By, e)
	}
	j.by[of] = s.By
	if s.By != 0 && j.verdict[s.By] != api.Commit {
		j.fail("unit %d runs by %d, which isn't to be committed", of, s.By)
	}
	image, name, e := unit.Runs(u)
	if e != api.OK {
		j.fail("unit %d runs no image: %d", of, e)
	}
	if wantImage, wantName := j.meant(s.By, of); name != wantName || !slices.Equal(image, wantImage) {
		j.fail("unit %d runs %v of name %d by %d, want %v of name %d", of, image, name, s.By, wantImage, wantName)
	}
}

// meant is what the unit is to run by the campaign.
func (j *journey) meant(n, of int) ([]int, int) {
	if n == 0 {
		return j.f.images[0], 1
	}
	c := j.v.Campaigns[n-1]
	return c.Images[of], c.R.Targets[of].Image
}

func (j *journey) state() api.GateState {
	s, _ := gate.Read(j.v.G)
	return s
}

func (j *journey) propose() bool {
	return j.do(proposing(j.f.offer(j.v.G.T.Version + 1)))
}

// come lets all messages come, in order; what is answered, too.
func (j *journey) come() {
	for len(j.v.Net) > 0 {
		j.do(arriving(0))
	}
}

// round: each unit that is ready asks, and each one is told what is due.
func (j *journey) round() {
	for of := range j.v.Units {
		j.do(querying(of))
		j.come()
		j.do(poking(of))
		j.come()
	}
}

func (j *journey) bootAll() {
	for node := gateway; node < len(j.v.Units); node++ {
		j.do(booting(node))
	}
}

// settle: all are up, and told; nothing is lost any more.
func (j *journey) settle() {
	j.t.Helper()
	j.bootAll()
	j.come()
	for range 4 {
		j.round()
	}
	s := j.state()
	if s.N != 0 && !s.Ended {
		j.fail("it doesn't end: %v", s)
	}
	j.wantOneRelease()
}

// wantOneRelease: all run the last one that is to be committed.
func (j *journey) wantOneRelease() {
	j.t.Helper()
	last := 0
	for n, verdict := range j.verdict {
		if verdict == api.Commit {
			last = n
		}
	}
	for of := range j.v.Units {
		if j.by[of] != last {
			j.fail("unit %d runs by %d, want %d", of, j.by[of], last)
		}
	}
}

// wantNext: a vehicle that has settled takes the next release.
func (j *journey) wantNext() {
	j.t.Helper()
	if j.state().N == api.MaxReleases {
		return
	}
	if !j.propose() {
		j.fail("the next one isn't taken")
	}
	j.settle()
	if s := j.state(); !s.Commit || !s.Ended {
		j.fail("the next one isn't committed: %v", s)
	}
}

func smallFleet(t *testing.T, units int) fleet {
	return fleetOf(t, units, []int{7}, counted(10, 70), []int{8, 8}, counted(17, 300), []int{0, api.MaxWord})
}

// TestOrdinary: as many campaigns as there may be, of which every third is given up.
func TestOrdinary(t *testing.T) {
	for units := 1; units <= api.MaxUnits; units++ {
		j := journeyOf(t, smallFleet(t, units))
		for n := 1; n <= api.MaxReleases; n++ {
			if !j.propose() {
				j.fail("propose")
			}
			want := api.Commit
			if n%3 == 0 {
				want = api.Abort
				j.do(poking(0))
				j.come()
				if units == 1 { // its vote alone decides
					want = api.Commit
				} else if !j.do(givingUp) {
					j.fail("give up")
				}
			}
			j.settle()
			if j.verdict[n] != want {
				j.fail("campaign %d: %d, want %d", n, j.verdict[n], want)
			}
		}
		if _, e := Do(j.v, proposing(j.f.offer(9))); e != api.ErrFull {
			j.fail("one more: %d", e)
		}
	}
}

// tellAll is a campaign in which each unit gets what is due until it has ended; given up, if so, ahead of the last unit's vote. When a node isn't up any more, it is booted at once, or when all were told.
func (j *journey) tellAll(giveUp, atOnce bool) {
	j.propose()
	for round := range 5 {
		for of := range j.v.Units {
			if giveUp && round == 0 && of == len(j.v.Units)-1 {
				j.do(givingUp)
			}
			j.do(poking(of))
			j.comeBooting(atOnce)
		}
		j.bootDown()
	}
}

func (j *journey) comeBooting(atOnce bool) {
	for len(j.v.Net) > 0 {
		j.do(arriving(0))
		if atOnce {
			j.bootDown()
		}
	}
}

func (j *journey) bootDown() {
	if !j.v.G.Up {
		j.do(booting(gateway))
	}
	for of, u := range j.v.Units {
		if !u.Up {
			j.do(booting(of))
		}
	}
}

// TestPowerGoesBehindEachWord: of the gateway and of each unit, behind each number of words that some campaigns change, with a log that goes over to its other sector.
func TestPowerGoesBehindEachWord(t *testing.T) {
	t.Parallel()
	for _, atOnce := range []bool{true, false} {
		for node := gateway; node < 2; node++ {
			for k := 0; ; k++ {
				j := journeyOf(t, smallFleet(t, 2))
				j.do(cutting(node, k))
				for n := range 5 {
					j.tellAll(n%2 == 1, atOnce)
				}
				went := flashOf(&j.v, node).Fuel == -1
				j.settle()
				j.wantNext()
				if !went {
					break // it had power enough
				}
			}
		}
	}
}

// TestPowerGoesAgain: it goes again, a few words behind each boot.
func TestPowerGoesAgain(t *testing.T) {
	t.Parallel()
	for node := gateway; node < 2; node++ {
		for k := range 90 {
			j := journeyOf(t, smallFleet(t, 2))
			for n := range 3 {
				for range 4 {
					j.do(cutting(node, k))
					j.tellAll(n == 1, false)
				}
			}
			j.settle()
			j.wantNext()
		}
	}
}

// TestReadyWhilePowerGoes: the power goes behind each word that a unit changes when it is told to commit, or to abort: it runs the one slot or the other one, wholly, and comes to the same end.
func TestReadyWhilePowerGoes(t *testing.T) {
	for _, giveUp := range []bool{false, true} {
		for k := range 6 {
			j := journeyOf(t, smallFleet(t, 2))
			j.propose()
			j.do(poking(0))
			j.come()
			if giveUp {
				j.do(givingUp)
			} else {
				j.do(poking(1))
				j.come()
			}
			j.do(cutting(0, k))
			j.do(poking(0))
			j.come()
			if done := k >= 4 || giveUp && k == 3; j.v.Units[0].Up != done {
				j.fail("up: %v", j.v.Units[0].Up)
			}
			j.settle()
			if (j.by[0] == 1) == giveUp {
				j.fail("runs by %d", j.by[0])
			}
		}
	}
}

// stray is a happening that may or may not be possible: the odds favour messages that come, in any order.
func (j *journey) stray(r *rand.Rand) api.Happening {
	k := r.Intn(len(j.v.Net) + 1)
	of, node := r.Intn(len(j.v.Units)), r.Intn(len(j.v.Units)+1)-1
	switch r.Intn(20) {
	case 0:
		return cutting(node, r.Intn(100))
	case 1, 2:
		return booting(node)
	case 3:
		return losing(k)
	case 4, 5:
		return doubling(k)
	case 6, 7, 8:
		return poking(of)
	case 9:
		return querying(of)
	case 10:
		if r.Intn(4) == 0 {
			return givingUp
		}
		return ticking
	case 11:
		return arriving(0)
	}
	return arriving(k)
}

// TestAnythingMayHappen: messages that are lost, come twice, late, in another order, and power that goes; at last all are up and told.
func TestAnythingMayHappen(t *testing.T) {
	t.Parallel()
	committed, aborted := 0, 0
	for seed := range int64(400) {
		r := rand.New(rand.NewSource(seed))
		j := journeyOf(t, smallFleet(t, 1+r.Intn(api.MaxUnits)))
		for range 300 {
			if r.Intn(8) == 0 {
				j.propose()
			}
			j.do(j.stray(r))
			if r.Intn(40) == 0 { // lest all the time goes by with one that can't end
				j.bootAll()
				j.round()
			}
		}
		j.settle()
		j.wantNext()
		for _, verdict := range j.verdict {
			switch verdict {
			case api.Commit:
				committed++
			case api.Abort:
				aborted++
			}
		}
	}
	if committed < 200 || aborted < 200 {
		t.Errorf("%d committed, %d aborted: too few to tell", committed, aborted)
	}
}

// TestLateMessages: all that a campaign has sent comes once more when it has ended, and when the next one is pending, in both orders.
func TestLateMessages(t *testing.T) {
	for _, giveUp := range []bool{false, true} {
		for _, backwards := range []bool{false, true} {
			for _, pending := range []bool{false, true} {
				j := journeyOf(t, smallFleet(t, 2))
				j.propose()
				var late []api.Message
				if giveUp {
					j.do(poking(0))
					j.do(poking(1))
					late = list(j.v.Net)
					j.v.Net = nil // on their way for long
					j.do(givingUp)
				}
				for range 3 {
					for of := range 2 {
						j.do(poking(of))
						for len(j.v.Net) > 0 {
							late = append(late, j.v.Net[0])
							j.do(arriving(0))
						}
					}
				}
				if !j.state().Ended {
					j.fail("not ended")
				}
				if backwards {
					slices.Reverse(late)
				}
				if pending {
					j.propose()
					j.do(poking(0))
					for range 2 {
						j.do(arriving(0))
					}
				}
				for _, m := range late {
					j.v.Net = append(j.v.Net, m)
					j.come()
				}
				j.settle()
				j.wantNext()
			}
		}
	}
}

// TestEachOrder goes through all that can happen to a vehicle of small images, in each order, as long as few messages are on their way; of the vehicles that come of it each seventh, as all would take long, is told to settle. What is the same vehicle again is not gone on from.
func TestEachOrder(t *testing.T) {
	t.Parallel()
	for _, c := range []struct{ units, campaigns, most int }{{1, 2, 3}, {2, 1, 2}} {
		seen, ended := map[string]int{}, map[int]int{}
		ahead := []journey{*journeyOf(t, fleetOf(t, c.units, []int{7}, []int{8}, []int{9}))}
		for len(ahead) > 0 {
			at := ahead[0]
			ahead = ahead[1:]
			for _, x := range at.choices(c.campaigns, c.most) {
				j := at.fork()
				if !j.do(x) || seen[j.key()] > 0 {
					continue
				}
				seen[j.key()]++
				ahead = append(ahead, j)
				if s := j.state(); s.Ended {
					ended[j.verdict[s.N]]++
				}
				if len(seen)%7 == 0 {
					end := j.fork()
					end.settle()
					end.wantNext()
				}
			}
		}
		if ended[api.Commit] == 0 || ended[api.Abort] == 0 {
			t.Errorf("%d vehicles, ended %v: too few to tell", len(seen), ended)
		}
	}
}

func (j journey) fork() journey {
	j.trace = list(j.trace)
	return j
}

// key leaves out where records stand in the logs, and in which order messages are on their way: they may come in any.
func (j *journey) key() string {
	var l []string
	for _, m := range j.v.Net {
		l = append(l, fmt.Sprint(m))
	}
	slices.Sort(l)
	for _, u := range j.v.Units {
		s, _ := unit.Read(u)
		l = append(l, fmt.Sprint(s, u.Up, u.N, u.Have, u.F.Words[2*api.Sector:]))
	}
	return fmt.Sprint(j.state(), j.v.G.Up, j.v.G.Voted, j.v.G.Did, l)
}

// choices are without those that would lay too many messages on their way.
func (j *journey) choices(campaigns, most int) []api.Happening {
	l := []api.Happening{givingUp}
	if j.state().N < campaigns {
		l = append(l, proposing(j.f.offer(j.v.G.T.Version+1)))
	}
	for of := range j.v.Units {
		l = append(l, booting(of))
		if len(j.v.Net) < most {
			l = append(l, querying(of))
		}
		if len(j.v.Net)+1 < most || len(j.v.Net) < most && j.verdict[j.state().N] != 0 {
			l = append(l, poking(of))
		}
	}
	for k := range j.v.Net {
		l = append(l, arriving(k), losing(k))
		if len(j.v.Net) < most {
			l = append(l, doubling(k))
		}
	}
	return append(l, booting(gateway))
}
