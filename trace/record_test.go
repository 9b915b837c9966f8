package trace_test

import (
	"math"
	"slices"
	"testing"

	"tappet/api"
	"tappet/model"
	"tappet/trace"
)

// wrongTables are some that table.Check refuses.
func wrongTables(t *testing.T) []api.Tables {
	t.Helper()
	l := []api.Tables{{}, {Modes: 1}}
	for _, turn := range []func(x *api.Tables){
		func(x *api.Tables) { x.Modes = 0 },
		func(x *api.Tables) { x.Depth++ },
		func(x *api.Tables) { x.Frames-- },
		func(x *api.Tables) { x.Errors = 0 },
		func(x *api.Tables) { x.Callbacks = 99 },
		func(x *api.Tables) { x.Tasks[0].Ring = 9 },
		func(x *api.Tables) { x.Tasks[0].Own = []int{77} },
		func(x *api.Tables) { x.Rings = nil },
		func(x *api.Tables) { x.Alarms[0].Counter = -1 },
		func(x *api.Tables) { x.Isrs[0].Priority = math.MaxInt },
	} {
		x := tablesOf(t, ordinary())
		turn(&x)
		l = append(l, x)
	}
	return l
}

// P25.1: the errors: of kernel.New ahead of too many steps; of image.Encode; beside them there is nothing.
func TestRecordsErrors(t *testing.T) {
	for n, x := range wrongTables(t) {
		for _, steps := range [][]api.Step{nil, {}, exampleSteps(), make([]api.Step, 65536), make([]api.Step, 65537)} {
			if r, e := trace.Record(x, steps); e != api.ErrKernel || !alike(r, api.Trace{}) {
				t.Errorf("tables %d, %d steps: Record: %d, %s", n, len(steps), e, short(r))
			}
		}
		if sum, e := trace.Sum(x); e != api.ErrTables || sum != 0 {
			t.Errorf("tables %d: Sum: %d, %d", n, sum, e)
		}
	}
	for n, want := range map[int]api.Errno{65535: api.OK, 65536: api.OK, 65537: api.ErrRecord, 65538: api.ErrRecord, 200000: api.ErrRecord} {
		r, e := trace.Record(example(t), make([]api.Step, n))
		if e != want || e == api.OK && len(r.Entries) != n || e != api.OK && !alike(r, api.Trace{}) {
			t.Errorf("%d steps: %d, %d entries", n, e, len(r.Entries))
		}
	}
}

// P25.1: Sum is octet's sum of the whole image, its own sum with it. (Of such bytes there are no more than 256 sums: they hang on the two bytes of the image's sum, one laid over the other.)
func TestSum(t *testing.T) {
	c := chance(3)
	met := map[uint16]int{}
	for n := range 400 {
		x := tablesOf(t, c.config())
		switch n {
		case 0:
			x = example(t)
		case 1:
			x = tablesOf(t, ordinary())
		}
		want := sumOf(imageOf(t, x))
		sum, e := trace.Sum(x)
		if e != api.OK || sum != want {
			t.Errorf("Sum: %x, %d, not %x", sum, e, want)
		}
		if r := recorded(t, x, nil); r.Sum != want || len(r.Entries) > 0 {
			t.Errorf("Record of nothing: %+v", r)
		}
		met[sum]++
	}
	if len(met) < 150 {
		t.Errorf("only %d sums", len(met))
	}
}

// P25.1: steps by chance, by hand, and such as are none.
func TestRecord(t *testing.T) {
	for what, steps := range map[string][]api.Step{
		"the example's": exampleSteps(),
		"busy":          busy(),
		"none":          nil,
		"no start":      {ret(), tick(0), irq(0), call(api.SvGetTaskID)},
		"no kinds":      {{Kind: -1}, {}, {Kind: 6}, {Kind: math.MaxInt, ID: math.MinInt, Service: math.MaxInt, A: 1, B: 2, C: 3}},
		"no numbers":    {start(0), ret(), ret(), start(-1), irq(-1), irq(math.MaxInt), tick(math.MinInt), call(-5, 1), ret(), call(math.MaxInt)},
		"two starts":    {start(-1), start(2), start(1), start(0), start(1)},
		"messages":      {start(0), ret(), ret(), call(api.SvSendMessage, 0, 1), ret(), call(api.SvReceiveMessage, 1)},
	} {
		for _, x := range []api.Tables{example(t), tablesOf(t, ordinary())} {
			r, e := trace.Record(x, steps)
			if want := recordOf(t, x, steps); e != api.OK || !alike(r, want) {
				t.Errorf("%s: %d, %s, not %s", what, e, short(r), short(want))
			}
			encodes(t, what, r)
			tells(t, r, 4)
		}
	}
}

// What busy is for: hooks, callbacks, two alarms at one tick, a status of four bytes, idle steps are all recorded.
func TestBusy(t *testing.T) {
	r := recorded(t, tablesOf(t, ordinary()), busy())
	var begun, expired, idle, deep, v int
	kinds := map[api.FrameKind]int{}
	for _, x := range r.Entries {
		begun, expired = max(begun, len(x.Answer.Begun)), max(expired, len(x.Answer.Expired))
		kinds[x.Answer.Run.Kind]++
		if x.Answer.Idle {
			idle++
		}
		if x.Answer.Run.Status == math.MaxUint32 {
			deep++
		}
		if x.Answer.V[2] > 0 {
			v++
		}
	}
	if begun == 0 || expired != 2 || idle == 0 || deep == 0 || v == 0 || len(kinds) < 6 {
		t.Errorf("begun %d, expired %d, idle %d, deep %d, values %d, kinds %v", begun, expired, idle, deep, v, kinds)
	}
}

// run goes by chance, and answers the steps with what the machine of the configuration answers.
func (c *chance) run(t *testing.T, x api.Config, most int) []api.Traced {
	t.Helper()
	m, e := model.New(x)
	if e != api.OK {
		t.Fatal("model:", e)
	}
	var l []api.Traced
	for range c.below(most + 1) {
		s := c.step(x, m.Look())
		l = append(l, api.Traced{Step: s, Answer: m.Step(s)})
	}
	return l
}

func stepsOf(l []api.Traced) []api.Step {
	var steps []api.Step
	for _, x := range l {
		steps = append(steps, x.Step)
	}
	return steps
}

// P25.1 to P25.5: long runs of configurations made by chance: what is recorded is what the machine answers (W1); it is laid down and read again, replayed, gone through.
func TestRunsByChance(t *testing.T) {
	c := chance(4)
	for n := range 250 {
		x := c.config()
		if n%10 == 0 {
			x = ordinary()
		}
		tables := tablesOf(t, x)
		want := c.run(t, x, 150)
		steps := stepsOf(want)
		r := recorded(t, tables, steps)
		if !alike(r.Entries, want) {
			t.Fatalf("Record: %s, not %s", short(r.Entries), short(want))
		}
		if !alike(r, recordOf(t, tables, steps)) {
			t.Fatal("Record: not as a kernel answers")
		}
		encodes(t, "a run", r)
		tells(t, r, len(x.Tasks)+1)
		if at, e := trace.Replay(tables, r); at != -1 || e != api.OK {
			t.Fatalf("Replay: %d, %d", at, e)
		}
		if at := c.below(len(steps) + 1); !alike(recorded(t, tables, steps[:at]).Entries, r.Entries[:at]) {
			t.Fatalf("Record of the first %d steps answers others", at)
		}
	}
}

// P25.1, P25.5: as many steps as may be, recorded, laid down, read and replayed.
func TestLongestRecord(t *testing.T) {
	steps := slices.Repeat(slices.Concat(exampleSteps(), []api.Step{call(api.SvChainTask, 0), tick(0), irq(0)}), 65536/8)
	r := recorded(t, example(t), steps)
	if len(r.Entries) != 65536 {
		t.Fatal("entries:", len(r.Entries))
	}
	b, e := trace.Encode(r)
	s, also := trace.Decode(b)
	if e != api.OK || also != api.OK || !alike(r, s) {
		t.Error("Encode, Decode:", e, also)
	}
	if n, e := trace.Replay(example(t), s); n != -1 || e != api.OK {
		t.Error("Replay:", n, e)
	}
	r.Entries[65535].Answer.V[2]++
	if n, e := trace.Replay(example(t), r); n != 65535 || e != api.OK {
		t.Error("Replay:", n, e)
	}
	tells(t, r, 3)
}
