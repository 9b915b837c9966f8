package level_test

import (
	"testing"

	"tappet/api"
	"tappet/level"
)

// The chapter's first example.
func TestExample1(t *testing.T) {
	if level.Name(4) != "ActivateTask" || level.Params(4) != 1 {
		t.Error(level.Name(4), level.Params(4))
	}
	if !level.May(4, api.LevelIsr2) || level.May(4, api.LevelIsr1) {
		t.Error("May")
	}
	if n, ok := level.Number("activatetask"); n != 0 || ok {
		t.Error("Number:", n, ok)
	}
}

// Its second one.
func TestExample2(t *testing.T) {
	if l := level.Of(api.FIsr, 2); l != api.LevelIsr2 {
		t.Error(l)
	}
	if l := level.Of(api.FIsr, 3); l != api.LevelNone {
		t.Error(l)
	}
	if l := level.Of(api.FPre, 9); l != api.LevelPre {
		t.Error(l)
	}
	if l := level.Of(api.FNone, 1); l != api.LevelNone {
		t.Error(l)
	}
}

// Its third one.
func TestExample3(t *testing.T) {
	if s := level.Status(10); s != "E_OS_DISABLEDINT" {
		t.Error(s)
	}
	if s, ok := level.StatusOf("E_COM_NOMSG"); s != 36 || !ok {
		t.Error(s, ok)
	}
	if level.Frame(8) != "CALLBACK" || level.State(3) != "SUSPENDED" || level.State(4) != "" {
		t.Error(level.Frame(8), level.State(3), level.State(4))
	}
}
