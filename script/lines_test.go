package script_test

import (
	"strconv"
	"strings"
	"testing"

	"reticule/api"
	"reticule/script"
)

// want asks what a script's lines answer; both are told with semicolons, and blanks behind these, between lines.
func want(t *testing.T, lines, answers string) {
	t.Helper()
	text := strings.ReplaceAll(lines, "; ", "\n")
	wanted := strings.ReplaceAll(answers, "; ", "\n")
	if answers != "" {
		wanted += "\n"
	}
	for _, end := range []string{"", "\n", "\n\n  \n"} {
		if got := script.Run(text + end); got != wanted {
			t.Errorf("%.300q: %.300q, not %.300q", text+end, got, wanted)
		}
	}
}

func TestP26_1Example(t *testing.T) {
	want(t, "text (int a) (set a 3); run 9; show", "ok; 0 0 2; a:3")
}

func TestP26_1LinesWithoutWords(t *testing.T) {
	want(t, "", "")
	want(t, " ;   ; ", "")
	want(t, "; clear; ;   ; show", "ok; -")
	want(t, "   clear   ;  nodes   3  ", "ok; ok")
	// A tab, and what else is no blank, is part of a word.
	want(t, "\t; clear\t; \tclear; clear\r; clear\x00; \xff; nodes\t3; nodes 3\t", "word; word; word; word; word; word; word; word")
}

func TestP26_1AtFirst(t *testing.T) {
	want(t, "run 9; means 9; build; code; normal; show", "0 0 1; 0 0 0; 0 0 1; 0, 0 stop; 0 ; -")
	want(t, "text (int n) (set n (count)) (nint a); run 9", "ok; 8 24 0")
	want(t, "text (int n) (nint a) (eint e) (set n (count)); run 9; show; means 9; show", "ok; 0 0 2; n:1 a:0 e:; 0 0 1; n:1 a:0 e:")
}

func TestP26_1Text(t *testing.T) {
	// Words are told with one blank between; each line is one more.
	want(t, "text (int   a)   (set a; text   2); normal; run 9; show", "ok; ok; 0 (int a) (set a 2); 0 0 2; a:2")
	want(t, "text  (int a)   (set  a); build", "ok; 8 8 0")
	want(t, "text (int a); text (set a); build", "ok; ok; 8 8 0")
	want(t, "text; text; text (set a); build", "ok; ok; ok; 8 2 0")
	// A remark goes up to its line's end.
	if got := script.Run("text (int a) ;remark (\ntext (set a 5) ; (set a 6)\nrun 9\nshow\n"); got != "ok\nok\n0 0 2\na:5\n" {
		t.Errorf("%q", got)
	}
	want(t, "text (int a); text (set a 1); clear; text (int b); run 3; show", "ok; ok; ok; ok; 0 0 1; b:0")
	want(t, "text text; build; text (clear); build", "ok; 8 0 0; ok; 8 0 0")
}

func TestP26_1Clear(t *testing.T) {
	all := "text (int a) (nint b) (set a 1); nodes 3; edge 0 1; scalar a 5; workers 0; seeds 4; means 9"
	want(t, all+"; run 9; show; means 9; show", "ok; ok; ok; ok; ok; ok; 0 0 1; 2 0 0; -; 0 0 1; a:1 b:0,0,0")
	want(t, all+"; clear; show; build; normal; run 1; means 0", "ok; ok; ok; ok; ok; ok; 0 0 1; ok; -; 0 0 1; 0 ; 0 0 1; 0 0 0")
	want(t, all+"; clear; text (nint b) (eint e); run 1; show", "ok; ok; ok; ok; ok; ok; 0 0 1; ok; ok; 0 0 1; b:0 e:")
}

func TestP26_1NodesAndEdges(t *testing.T) {
	text := "text (nint a) (eint w) (int c) (set c (count)) (each (push a + out 1)); "
	want(t, text+"nodes 3; edge 0 1; edge 0 1; edge 2 2; run 9; show", "ok; ok; ok; ok; ok; 0 0 4; c:3 a:0,2,1 w:0,0,0")
	want(t, text+"nodes 3; nodes 2; run 9; show", "ok; ok; ok; 0 0 4; c:2 a:0,0 w:")
	// What may not be is told by the driver.
	want(t, text+"nodes 0; run 9; means 9; nodes 13; run 9; nodes 9999; means 9; nodes 12; run 9", "ok; ok; 11 -1 0; 11 -1 0; ok; 11 -1 0; ok; 11 -1 0; ok; 0 0 4")
	want(t, text+"nodes 2; edge 0 1; edge 1 2; run 9; show; means 9; nodes 3; means 9", "ok; ok; ok; ok; 11 1 0; -; 11 1 0; ok; 0 0 2")
	want(t, "edge 0 9999; run 9", "ok; 11 0 0")
}

func TestP26_1Loads(t *testing.T) {
	text := "text (int a) (nbool a) (eint a) (int b); nodes 2; edge 0 1; "
	want(t, text+"scalar a 7; node a 1 0; link a -3; run 9; show", "ok; ok; ok; ok; ok; ok; 0 0 1; a:7 b:0 a:1,0 a:-3")
	want(t, text+"scalar a 7; scalar a 8; scalar b -9223372036854775808; run 9; show", "ok; ok; ok; ok; ok; ok; 0 0 1; a:8 b:-9223372036854775808 a:0,0 a:0")
	// K is any word: the driver refuses it.
	want(t, text+"scalar a 7; node A 1 0; means 9; run 9", "ok; ok; ok; ok; ok; 11 1 0; 11 1 0")
	want(t, text+"scalar 5 7; run 9; clear; scalar \xff; run 9; clear; scalar (a) 5; run 9", "ok; ok; ok; ok; 11 0 0; ok; ok; 11 0 0; ok; ok; 11 0 0")
	// So it does how many values there are, and of what kind.
	want(t, text+"scalar a; run 9", "ok; ok; ok; ok; 11 0 0")
	want(t, text+"scalar a 1 2; run 9", "ok; ok; ok; ok; 11 0 0")
	want(t, text+"node a 0 2; run 9", "ok; ok; ok; ok; 11 0 0")
	want(t, text+"link b 1; run 9", "ok; ok; ok; ok; 11 0 0")
	want(t, "text (eint a); link a; run 9; show", "ok; ok; 0 0 1; a:")
	// Values are as num.Parse takes them.
	for _, v := range []string{"01", "-0", "+1", "9223372036854775808", "x", "1.0", "true", "1_0", "-", "--1"} {
		want(t, text+"scalar a "+v+"; node a 1 "+v+"; link a "+v+" 1; run 9; show", "ok; ok; ok; word; word; word; 0 0 1; a:0 b:0 a:0,0 a:0")
	}
	want(t, text+"scalar a 9223372036854775807; run 1; show; scalar a 12345; run 1; show", "ok; ok; ok; ok; 0 0 1; a:9223372036854775807 b:0 a:0,0 a:0; ok; 0 0 1; a:12345 b:0 a:0,0 a:0")
}

func TestP26_1AndE4MostEdgesAndLoads(t *testing.T) {
	lines := strings.Repeat("edge 0 0; ", api.MaxEdges)
	oks := strings.Repeat("ok; ", api.MaxEdges)
	text := "text (nint a) (each (push a + out 1)); "
	want(t, lines+text+"run 9; show; edge 0 0; edge 0 9; run 9; show", oks+"ok; 0 0 3; a:30; word; word; 0 0 3; a:30")
	want(t, lines+"clear; edge 0 0; "+text+"run 9; show", oks+"ok; ok; ok; 0 0 3; a:1")
	names, loads, shown := "", "", []string{}
	for i := range 9 {
		names += "(int a" + strconv.Itoa(i) + ") "
		if i < 8 {
			loads += "scalar a" + strconv.Itoa(i) + " 5; "
			shown = append(shown, "a"+strconv.Itoa(i)+":5")
		}
	}
	want(t, "text "+names+"; "+loads+"run 1; show; scalar a8 5; node x 1; link y; scalar a0 6; run 1; show; means 1; show", strings.Repeat("ok; ", 9)+"0 0 1; "+strings.Join(append(shown, "a8:0"), " ")+"; word; word; word; word; 0 0 1; "+strings.Join(append(shown, "a8:0"), " ")+"; 0 0 0; "+strings.Join(append(shown, "a8:0"), " "))
	want(t, loads+"clear; scalar a 1; text (int a); run 1; show", strings.Repeat("ok; ", 8)+"ok; ok; ok; 0 0 1; a:1")
	// A line that does not fit takes no room.
	want(t, "scalar; scalar a x; scalar b 1 x; "+loads+"scalar a 1", "word; word; word; "+strings.Repeat("ok; ", 8)+"word")
}

func TestP26_1WorkersAndSeeds(t *testing.T) {
	text := "text (int s) (nint a) (each (push a + out (id))) (fold s + (own a)); nodes 4; edge 1 0; edge 2 0; edge 3 0; edge 3 3; "
	oks := "ok; ok; ok; ok; ok; ok; "
	for _, line := range []string{"workers 1", "workers 4", "workers 2 0 1 0 1", "workers 3 9 9999 0 7 1 1 1", "workers 1; seeds", "seeds 0", "seeds 9999", "seeds 1 2 3 4 5"} {
		want(t, text+line+"; run 9; show", oks+strings.Repeat("ok; ", strings.Count(line, ";"))+"ok; 0 0 4; s:9 a:6,0,0,3")
	}
	want(t, text+"workers 0; run 9; show; means 9; show", oks+"ok; 2 0 0; -; 0 0 2; s:9 a:6,0,0,3")
	want(t, text+"workers 5 1; run 9; workers 9999; run 9; workers 4; run 9", oks+"ok; 2 0 0; ok; 2 0 0; ok; 0 0 4")
	want(t, "workers 0; workers; workers x; workers 1 x; workers 1 -1; workers 1 2 12345; workers 01; run 1; workers 1; run 1", "ok; word; word; word; word; word; word; 2 0 0; ok; 0 0 1")
	want(t, "seeds x; seeds 1 x; seeds -1; seeds 10000; seeds 1 01", "word; word; word; word; word")
}

func TestP26_1RunAndMeans(t *testing.T) {
	text := "text (int a) (while (< a 19) (set a (+ a 1))); "
	want(t, text+"run 58; show; run 59; show; run 60; show", "ok; 12 0 0; -; 0 0 59; a:19; 0 0 59; a:19")
	want(t, text+"means 38; show; means 39; show; means 60; show", "ok; 12 0 0; -; 0 0 39; a:19; 0 0 39; a:19")
	want(t, text+"run 61; means 61; run 9999; means 10000; run; means; run x; means -1; run 1 1; means 1 1; run 060; means +1; show", "ok; "+strings.Repeat("word; ", 12)+"-")
	want(t, "run 0; means 0; run 1", "12 0 0; 0 0 0; 0 0 1")
	want(t, "text (while true); run 60; means 60", "ok; 12 0 0; 12 0 0")
	// Errors, and their places, are the driver's.
	want(t, "text (int a); text (set; run 9; means 9; build", "ok; ok; 8 8 0; 8 8 0; 8 8 0")
	want(t, "text (int a) (int a); run 9; means 9; build", "ok; 9 -1 0; 9 -1 0; 9 -1 0")
	want(t, "text (nint a) (each (put a 1)) (each (put a 1) (put a 2)); run 9; means 9; build", "ok; 10 1 0; 10 1 0; 10 1 0")
	want(t, "text (nint d) (bfs d 0) (bfs d 0) (bfs d 0) (bfs d 0); run 9; means 9; build; code; normal", "ok; 4 -1 0; 4 -1 0; 4 -1 0; 4; 4")
}

func TestP26_1Show(t *testing.T) {
	text := "text (int b) (eint e) (nint n) (int a) (set a 5); nodes 2; "
	want(t, text+"show; run 9; show; show; edge 0 1; show; means 9; show", "ok; ok; -; 0 0 2; a:5 b:0 n:0,0 e:; a:5 b:0 n:0,0 e:; ok; a:5 b:0 n:0,0 e:; 0 0 1; a:5 b:0 n:0,0 e:0")
	// Out of the last one that was done: what does not fit is none, what has an error has none.
	want(t, text+"run 9; run 61; run; show; run 1; show; means 1; show; means 0; show", "ok; ok; 0 0 2; word; word; a:5 b:0 n:0,0 e:; 12 0 0; -; 0 0 1; a:5 b:0 n:0,0 e:; 12 0 0; -")
	want(t, text+"run 9; nodes 0; show; run 9; show", "ok; ok; 0 0 2; ok; a:5 b:0 n:0,0 e:; 11 -1 0; -")
	want(t, text+"run 9; clear; show; run 9; show", "ok; ok; 0 0 2; ok; -; 0 0 1; -")
}

func TestP26_1BuildCodeNormal(t *testing.T) {
	text := "text (nint d) (int a) (loop (< a 1) (each (pull d + out (far d))) (set a (+ a 1))); "
	want(t, text+"build; code; normal", "ok; 0 0 9; 0, 0 send 0, 1 take 0, 2 set 1, 3 unless 4 8, 4 send 2, 5 take 2, 6 set 3, 7 jump 3, 8 stop; 0 (nint d) (int a) (each (push d + in (own d))) (set a (+ a 1)) (while (< a 1) (each (push d + in (own d))) (set a (+ a 1)))")
	want(t, "text (int a); build; code; normal", "ok; 0 0 1; 0, 0 stop; 0 (int a)")
	// code has Build's errors, normal those of prog.Source and norm.Normal alone.
	want(t, "text (set a true); build; code; normal", "ok; 9 0 0; 9; 0 (set a true)")
	want(t, "text (each (put a 1) (put a 2)) (nint a); build; code; normal", "ok; 8 27 0; 8; 8")
	want(t, "text (nint a) (each (put a 1) (put a 2)); build; code; normal", "ok; 10 0 0; 10; 0 (nint a) (each (put a 1) (put a 2))")
	want(t, "text (set; build; code; normal", "ok; 8 0 0; 8; 8")
	want(t, "text ("+strings.Repeat("(", 12)+"; build; code; normal", "ok; 8 12 0; 8; 4")
}

// A text of as many bytes as may be, a line feed behind each line counted.
func TestP26_1AndE4LongTexts(t *testing.T) {
	long := strings.Repeat("x", api.MaxText)
	want(t, "text ("+long[:api.MaxText-2]+"; build; normal", "ok; 8 1 0; 8")
	want(t, "text ("+long[:api.MaxText-1]+"; build; normal", "ok; 8 0 0; 4")
	want(t, "text (; text "+long[:api.MaxText-3]+"; build; normal", "ok; ok; 8 2 0; 8")
	want(t, "text (; text "+long[:api.MaxText-2]+"; build; normal", "ok; ok; 8 0 0; 4")
}

func TestP26_1AndE4LongScripts(t *testing.T) {
	for _, piece := range []string{" ", "\n", "x", "show\n", "é", "\xff"} {
		most := strings.Repeat(piece, api.MaxScript)[:api.MaxScript]
		if got := script.Run(most); got == "long\n" {
			t.Errorf("%q", piece)
		}
		if got := script.Run(most + piece[:1]); got != "long\n" {
			t.Errorf("%q: %.60q", piece, got)
		}
	}
	if got := script.Run("show\n" + strings.Repeat(" ", 1<<20)); got != "long\n" {
		t.Errorf("%.60q", got)
	}
	if got := script.Run(strings.Repeat("show\n", api.MaxScript/5)); got != strings.Repeat("-\n", api.MaxScript/5) {
		t.Errorf("%.60q", got)
	}
}

// What is no line, or has too many or too few words, is word, and changes nothing.
func TestP26_1WordsThatDoNotFit(t *testing.T) {
	for _, line := range []string{
		"x", "Text", "TEXT (int a)", "texts", "cleared", "Clear", "clear now", "clear 1", "nodes", "nodes 1 2", "nodes x", "nodes -1", "nodes 01", "nodes 10000", "node", "edge", "edge 1", "edge 1 2 3", "edge x 1", "edge 1 x", "edge -1 1", "edge 1 -1", "edge 1 10000", "edge 00 1",
		"scalar", "link", "scalar k x", "node k 1 x", "link k 1 01", "workers", "seeds 1 x", "build 1", "build x", "code 1", "normal 1", "show 1", "show a", "run", "means", "run 61", "means 61", "run 1 2", "run x", "-", "ok", "word", "long", "(int a)", "0", "run9", "edges 0 1", "load a 1", "worker 1", "seed 1",
	} {
		want(t, line, "word")
		text := "text (int k) (nint a) (each (push a max in (+ (id) k))); nodes 3; edge 0 2; edge 1 2; scalar k 4; workers 2 0 1; seeds 3 8; run 9"
		answers := "ok; ok; ok; ok; ok; ok; ok; 0 0 3"
		want(t, text+"; "+line+"; show; run 9; "+line+"; show; build", answers+"; word; k:4 a:6,6,0; 0 0 3; word; k:4 a:6,6,0; 0 0 3")
	}
}
