package bound_test

import (
	"testing"

	"tappet/api"
	"tappet/bound"
)

func TestExample1(t *testing.T) {
	c, f := example()
	blocks(t, "example", c, f, 4, 4, 0)
	worsts(t, "example", c, f, 6, 9, 9)
	for task, want := range []api.Reply{{Blocked: 4, Worst: 6, Meets: true}, {Blocked: 4, Worst: 9, Meets: true}, {Worst: 9, Meets: true}} {
		if r, e := bound.Reckon(c, f, task, 100); e != api.OK || r != want {
			t.Errorf("Reckon(%d, 100): %+v, %d", task, r, e)
		}
	}
}

func TestExample2(t *testing.T) {
	c, f := example()
	if r, e := bound.Reckon(c, f, 1, 8); e != api.OK || r != (api.Reply{Blocked: 4}) {
		t.Errorf("Reckon(1, 8): %+v, %d", r, e)
	}
	if r, e := bound.Reckon(c, f, 0, 1000001); e != api.ErrArg || r != (api.Reply{}) {
		t.Errorf("Reckon(0, 1000001): %+v, %d", r, e)
	}
}

func TestExample3(t *testing.T) {
	c, f := example()
	f.Work = f.Work[:2]
	checks(t, "two works", c, f, api.ErrFigures)
}

// The example of README.md.
func TestReadme(t *testing.T) {
	c, _ := example()
	c.OS.Schedule = true
	c.Resources = []api.Resource{{Name: "r", Kind: api.ResStandard}, {Name: "s", Kind: api.ResLinked}}
	c.Tasks = []api.Task{
		{Name: "t", Priority: 1, Full: true, Activation: 1, Resources: []int{1}},
		{Name: "u", Priority: 3, Full: true, Activation: 1, Resources: []int{0}},
	}
	c.Isrs = []api.Isr{{Name: "i", Category: 2, Priority: 70}}
	f := api.Figures{Work: []uint64{9, 4}, Period: []uint64{50, 20}, IsrWork: []uint64{1}, IsrEvery: []uint64{10}, Sections: []api.Section{{Task: 0, Resource: 1, Length: 3}}}
	blocks(t, "readme", c, f, 0, 3)
	worsts(t, "readme", c, f, 15, 8)
	if l, e := bound.All(c, f, []uint64{14, 8}); e != api.OK || len(l) != 2 || l[0] != (api.Reply{}) || l[1] != (api.Reply{Blocked: 3, Worst: 8, Meets: true}) {
		t.Errorf("All: %+v, %d", l, e)
	}
	f.Sections[0].Length = 10
	checks(t, "a section longer than its task", c, f, api.ErrFigures)
}

// The numbers of errors and limits that the chapter tells.
func TestNumbers(t *testing.T) {
	if api.ErrFigures != 270 || api.ErrArg != 2 || api.OK != 0 || api.MaxLimit != 1000000 || api.MaxTick != 2147483647 {
		t.Error("other numbers than the chapter's")
	}
}
