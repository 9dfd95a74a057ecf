package tests

import (
	"fmt"
	"slices"
	"strings"
	"testing"

	"loop.example/g01144/impl"
)

// Promise 22, for scripts.

// linesOfText are separated by newlines; one at the end begins no further line.
func linesOfText(text string) []string {
	lines := strings.Split(text, "\n")
	if lines[len(lines)-1] == "" {
		lines = lines[:len(lines)-1]
	}
	return lines
}

// checkScript asks for an answer to each line.
func checkScript(t *testing.T, v impl.Gather, text string) {
	t.Helper()
	m, want := modelOf(v), ""
	for _, line := range linesOfText(text) {
		want += m.answer(line) + "\n"
	}
	answered(t, fmt.Sprintf("script for %v: %q", v, text), want)(impl.RunScript(v, text))
}

// oddLines are neither texts of deeds nor questions.
var oddLines = []string{"", " ", "what", "rank", "data", "rank ", "data ", "rank  1", "data  1", " rank 1", "rank 1 ", "data 1 ", "rank 01", "data 00", "rank +1", "rank -0", "data -1", "rank 1 1", "data 0 0", "rank a", "data one", "Rank 1", "DATA 1", "ranks 1", "rank1", "rank\t1", "rank 1\r", "rank 9999", "data 10000", "rank 18446744073709551616", "data 4294967296", "send 0 1", "send 00 1 1", "save 1 1", "forget", "deliver -1", "ok", "error range", "rank 7", "data 7", "miss 1", "mend 1", "plan", "\x00", "\xff", "rank 0x1", "rank ١"}

// drawnScript has deeds, questions and odd lines.
func drawnScript(v impl.Gather, seed, number int64) string {
	draw, m := lot(seed*17+1), modelOf(v)
	text := ""
	for range number {
		switch station := draw.below(stationsOf(v) + 1); draw.below(8) {
		case 0:
			text += fmt.Sprint("rank ", station)
		case 1:
			text += fmt.Sprint("data ", station)
		case 2:
			text += oddLines[draw.below(int64(len(oddLines)))]
		default:
			d := m.drawnDeed(&draw, seed%2 == 0)
			m.do(d)
			text += textsOfDeeds([]impl.Deed{d})
		}
		text += "\n"
	}
	return text
}

func TestScriptsOfAllKinds(t *testing.T) {
	for i, v := range someGathers() {
		for _, number := range []int64{0, 1, 2, 30, 119, 120} {
			text := drawnScript(v, int64(i)+number, number)
			checkScript(t, v, text)
			checkScript(t, v, strings.TrimSuffix(text, "\n"))
		}
	}
}

// scriptOf has a line for each of some deeds, which are separated by commas.
func scriptOf(deeds string) string {
	return strings.ReplaceAll(deeds, ", ", "\n")
}

// TestScriptsAnswerWhatTheFunctionsReturn compares them.
func TestScriptsAnswerWhatTheFunctionsReturn(t *testing.T) {
	for i, v := range someGathers() {
		deeds := drawnDeeds(v, int64(i), 100, i%2 == 0)
		text := scriptOf(textsOfDeeds(deeds))
		for station := range stationsOf(v) {
			text += fmt.Sprint("\nrank ", station, "\ndata ", station)
		}
		got, code := impl.RunScript(v, text)
		is(t, "code", impl.OK, code)
		answers := linesOfText(got)
		_, done, _ := impl.PlantAfter(v, deeds)
		is(t, "done", done, int64(len(slices.DeleteFunc(slices.Clone(answers[:100]), func(a string) bool { return a != "ok" }))))
		if place, fault, code := impl.RefusedDeed(v, deeds); code == impl.OK {
			is(t, "first refused", "error "+impl.CodeName(fault), answers[place])
		}
		for station := range stationsOf(v) {
			rank, _ := impl.RankAfter(v, deeds, station)
			spoilt, _ := impl.SpoiltAfter(v, deeds, station)
			data, code := impl.DataAfter(v, deeds, station)
			want := strings.Trim(fmt.Sprint(data), "[]")
			if code != impl.OK {
				want = "error " + impl.CodeName(code)
			}
			is(t, fmt.Sprint(v, " ranks at ", station), fmt.Sprint(rank, spoilt), answers[100+2*station])
			is(t, fmt.Sprint(v, " data at ", station), want, answers[101+2*station])
		}
	}
}

func TestOddLines(t *testing.T) {
	v := gatherOf(2, 3, 3, 1, 3)
	for _, line := range oddLines {
		answered(t, fmt.Sprintf("%q", line), "what\n")(impl.RunScript(v, line+"\n"))
		answered(t, fmt.Sprintf("%q behind another", line), "ok\nwhat\nok\n")(impl.RunScript(v, "save 0\n"+line+"\nsave 1"))
	}
	for _, v := range someGathers() {
		for station := range int64(12) {
			for _, word := range []string{"rank", "data", "save", "crash", "forget", "send 0 1", "mend"} {
				checkScript(t, v, fmt.Sprint(word, " ", station))
			}
		}
		for _, station := range noStations(v) {
			answered(t, fmt.Sprint("no station ", station), "what\nwhat\n")(impl.RunScript(v, fmt.Sprint("rank ", station, "\ndata ", station)))
		}
	}
}

func TestScriptsThatAreKnown(t *testing.T) {
	v := gatherOf(2, 0, 2, 1, 3)
	for text, want := range map[string]string{
		"":               "",
		"\n":             "what\n",
		"\n\n":           "what\nwhat\n",
		"\n\n\n":         "what\nwhat\nwhat\n",
		"save 0":         "ok\n",
		"save 0\n":       "ok\n",
		"save 0\n\n":     "ok\nwhat\n",
		"\nsave 0":       "what\nok\n",
		"save 0\nsave 1": "ok\nok\n",
		"save 0\r\n":     "what\n",
		"rank 0":         "2 0\n",
		"data 0":         "1 3\n",
		"rank 1\ndata 1": "0 0\nerror notfound\n",
		"rank 3\ndata 3": "what\nwhat\n",
		"save 3":         "error range\n",
		"send 0 1 0":     "error state\n",
		"send 0 9 1":     "error range\n",
		"send 0 9 10000": "what\n",
		"forget 0\nrank 0\ndata 0\ncrash 0\nrank 0\ndata 0":                                       "ok\n0 0\nerror notfound\nok\n2 0\n1 3\n",
		"send 0 1 1\nspoil 0 5\ndeliver 0\nrank 1\ndata 1":                                        "ok\nok\nok\n0 0\nerror notfound\n",
		"send 0 1 1\nspoil 0 1\ndeliver 0\nrank 1\ndata 1":                                        "ok\nok\nok\n0 1\nerror proof\n",
		"send 0 1 1\ndeliver 0\nsend 0 1 2\nspoil 0 4\ndeliver 0\nrank 1\ndata 1\nrank 2\ndata 2": "ok\nok\nok\nok\nok\n2 0\n1 2\n0 0\nerror notfound\n",
		strings.Repeat("send 0 2 3\n", 13):                                                        strings.Repeat("ok\n", 12) + "error limit\n",
	} {
		answered(t, fmt.Sprintf("%q", text), want)(impl.RunScript(v, text))
	}
	answered(t, "one row", "63\n")(impl.RunScript(gatherOf(6, 0, 1, 63), "data 0"))
	answered(t, "four rows", "0 63 10 1\n4 0\n")(impl.RunScript(gatherOf(6, 0, 1, 0, 63, 10, 1), "data 0\nrank 0"))
}

// TestScriptsUpToTheLimits have as many lines and bytes as there can be, and more.
func TestScriptsUpToTheLimits(t *testing.T) {
	for _, v := range someGathers()[:30] {
		for _, line := range []string{"save 0", "", "rank 0", "data 0", "x"} {
			// Empty lines are told by their newlines alone.
			for _, number := range []int{118, 119, 120, 121, 122, 300} {
				with := strings.Repeat(line+"\n", number)
				without := with + line
				if number <= 120 {
					checkScript(t, v, with)
				} else {
					refusedScript(t, fmt.Sprint(number, " lines"), impl.ErrRange)(impl.RunScript(v, with))
				}
				lines := number + 1
				if line == "" {
					lines = number
				}
				if lines <= 120 {
					checkScript(t, v, without)
				} else {
					refusedScript(t, fmt.Sprint(lines, " lines"), impl.ErrRange)(impl.RunScript(v, without))
				}
			}
		}
		for _, c := range []struct {
			text string
			want string
		}{
			{strings.Repeat("x", 19999), "what\n"},
			{strings.Repeat("x", 20000), "what\n"},
			{strings.Repeat("x", 19999) + "\n", "what\n"},
			{"save 0\n" + strings.Repeat(" ", 19993), "ok\nwhat\n"},
			{"save 0\n" + strings.Repeat(" ", 19985) + "\nsave 0\n", "ok\nwhat\nok\n"},
			{strings.Repeat(strings.Repeat("y", 165)+"\n", 120), strings.Repeat("what\n", 120)},
		} {
			answered(t, fmt.Sprint(len(c.text), " bytes"), c.want)(impl.RunScript(v, c.text))
		}
		for _, text := range []string{
			strings.Repeat("x", 20001),
			strings.Repeat("x", 20000) + "\n",
			"save 0\n" + strings.Repeat(" ", 19994),
			strings.Repeat("é", 10001),
			strings.Repeat("x", 1000000),
			strings.Repeat("\n", 1000000),
			strings.Repeat("save 0\n", 140000),
		} {
			refusedScript(t, fmt.Sprint(len(text), " bytes"), impl.ErrRange)(impl.RunScript(v, text))
		}
		answered(t, "two bytes a sign", "what\n")(impl.RunScript(v, strings.Repeat("é", 10000)))
	}
}

// TestPlansAsScripts come to the data, and are all done.
func TestPlansAsScripts(t *testing.T) {
	for i, v := range someGathers() {
		deeds := drawnDeeds(v, int64(i)+40, 50, true)
		plan, code := impl.FinishDeeds(v, deeds)
		if code != impl.OK {
			continue
		}
		text := ""
		for _, d := range slices.Concat(deeds, plan) {
			text += impl.DeedText(d) + "\n"
		}
		for station := 1 + v.Relays; station < stationsOf(v); station++ {
			text += fmt.Sprint("data ", station, "\n")
		}
		want := strings.Repeat("ok\n", len(plan)) + strings.Repeat(strings.Trim(fmt.Sprint(v.Data), "[]")+"\n", int(v.Receivers))
		got, code := impl.RunScript(v, text)
		is(t, fmt.Sprint(v, " script ", text), "true 0", fmt.Sprint(strings.HasSuffix(got, want), code))
	}
}
