package tests

import (
	"testing"

	"loop.example/g03113/impl"
)

// sessionFunctions are all functions of chapter 9.
func sessionFunctions() map[string]any {
	return map[string]any{"NewSession": impl.NewSession, "SessionOk": impl.SessionOk, "ExecuteLine": impl.ExecuteLine, "RunSession": impl.RunSession}
}

func TestSessionsAlwaysReturn(t *testing.T) {
	for name, fn := range sessionFunctions() {
		checkTotal(t, name, fn)
	}
	for _, s := range fewSessions() {
		for _, line := range allLines() {
			checkReturns(t, call{"ExecuteLine", impl.ExecuteLine, []any{s, line}})
		}
	}
}

// TestSessionsArePure: the session behind a line shares no memory with the one before
// it, whatever the line does.
func TestSessionsArePure(t *testing.T) {
	calls := []call{{"NewSession", impl.NewSession, nil}}
	others := append(refused(), formless()...)
	for i, s := range fewSessions() {
		calls = append(calls, call{"SessionOk", impl.SessionOk, []any{s}})
		for _, line := range taken() {
			calls = append(calls, call{"ExecuteLine", impl.ExecuteLine, []any{s, line}})
		}
		for j := i; j < len(others); j += 9 {
			calls = append(calls, call{"ExecuteLine", impl.ExecuteLine, []any{s, others[j]}})
		}
	}
	for i, s := range notSessions() {
		line := taken()[i%len(taken())]
		calls = append(calls, call{"SessionOk", impl.SessionOk, []any{s}}, call{"ExecuteLine", impl.ExecuteLine, []any{s, line}})
	}
	for _, lines := range hardLines() {
		calls = append(calls, call{"RunSession", impl.RunSession, []any{lines}})
	}
	for _, c := range calls {
		checkPure(t, c)
	}
}

// TestSessionsKeepNothing: two sessions that come of one go on by themselves.
func TestSessionsKeepNothing(t *testing.T) {
	first, _ := impl.ExecuteLine(impl.NewSession(), "perm 2143")
	first, _ = impl.ExecuteLine(first, "set")
	second, _ := impl.ExecuteLine(first, "show")
	for _, line := range []string{"inverse", "times", "dual", "box 1 3", "perm 321", "what"} {
		second, _ = impl.ExecuteLine(second, line)
	}
	second.Perm[0], second.Sum[0].Perm[0], second.Sum[0].Count = 9, 9, 9
	is(t, "the first session", text(first), text(session("2143", "1:2143", "", 2, 4)))
	impl.NewSession().Perm[0] = 9
	is(t, "NewSession", text(impl.NewSession()), text(session("1", "0", "", 2, 4)))
}
