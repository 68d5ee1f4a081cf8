// Package house has tests of what holds for the program as a whole: the rules of ../../shared/LANGUAGE.md that a test can tell, and the numbers of package api.
package house

import (
	"bytes"
	"go/ast"
	"go/format"
	"go/parser"
	"go/token"
	"io/fs"
	"os"
	"path/filepath"
	"strconv"
	"strings"
	"testing"

	"noontide/api"
)

const root = ".."

// library are the packages that the program may import beside its own.
const library = " bytes cmp container/heap errors iter maps math math/bits slices sort strconv strings sync sync/atomic unicode unicode/utf8 "

const mostLines = 60

// sources are the program's files, without tests.
func sources(t *testing.T) []string {
	t.Helper()
	var l []string
	err := filepath.WalkDir(root, func(path string, d fs.DirEntry, err error) error {
		switch {
		case err != nil:
			return err
		case d.IsDir() && (d.Name() == "sharedtests" || d.Name() == ".git"):
			return filepath.SkipDir
		case strings.HasSuffix(path, ".go") && !strings.HasSuffix(path, "_test.go"):
			l = append(l, path)
		}
		return nil
	})
	if err != nil || len(l) == 0 {
		t.Fatal("no sources: ", err)
	}
	return l
}

func TestImports(t *testing.T) {
	for _, path := range sources(t) {
		file, err := parser.ParseFile(token.NewFileSet(), path, nil, parser.ImportsOnly)
		if err != nil {
			t.Fatal(err)
		}
		for _, spec := range file.Imports {
			name, _ := strconv.Unquote(spec.Path.Value)
			if !strings.HasPrefix(name, "noontide/") && !strings.Contains(library, " "+name+" ") {
				t.Errorf("%s imports %s", path, name)
			}
		}
	}
}

// calls tells what the document's map lets each layer call, beside api.
func calls() map[string]string {
	return map[string]string{
		"num":     "api",
		"real":    "api",
		"civil":   "num",
		"stamp":   "num civil",
		"dayrule": "civil",
		"monthly": "num civil",
		"week":    "num civil stamp",
		"julian":  "real",
		"lon":     "real",
		"span":    "num",
		"spans":   "num span",
		"mean":    "real span",
		"lines":   "api",
		"fields":  "api",
		"words":   "api",
		"amount":  "num",
		"year":    "num words",
		"dayspec": "num dayrule words",
		"clock":   "amount",
		"format":  "api",
		"rule":    "dayrule words amount year dayspec clock format",
		"era":     "num dayrule words amount dayspec clock format rule",
		"link":    "rule",
		"read":    "lines fields words rule era link",
		"occur":   "num stamp dayrule span rule",
		"chain":   "num occur",
		"apart":   "civil dayrule rule",
		"until":   "dayrule era occur chain",
		"book":    "api",
		"check":   "apart until book",
		"render":  "fields rule era link until",
		"load":    "read check render",
		"force":   "format era occur chain",
		"point":   "until force",
		"change":  "span until force point",
		"info":    "num span point change",
		"window":  "civil span spans mean info",
		"store":   "span",
		"seam":    "span spans",
		"lazy":    "load info window store",
		"local":   "span info",
		"policy":  "num point local",
		"zoned":   "stamp monthly format point info local policy",
		"query":   "num stamp lines fields words rule",
		"answer":  "num stamp fields",
		"engine":  "num book load change window lazy local policy zoned query answer",
		"model":   "num book load change info window local policy zoned query answer",
		"meet":    "span mean info window",
		"posix":   "num amount apart",
		"tail":    "civil stamp format until force point posix",
		"delta":   "book",
		"patch":   "api",
		"leap":    "stamp lines fields",
		"recur":   "num stamp monthly span policy",
		"hours":   "civil stamp span spans window policy",
		"common":  "span spans mean hours",
	}
}

func TestCalls(t *testing.T) {
	for _, path := range sources(t) {
		layer := filepath.Base(filepath.Dir(path))
		may, ok := calls()[layer]
		if !ok {
			continue
		}
		file, err := parser.ParseFile(token.NewFileSet(), path, nil, parser.ImportsOnly)
		if err != nil {
			t.Fatal(err)
		}
		for _, spec := range file.Imports {
			name, _ := strconv.Unquote(spec.Path.Value)
			below, own := strings.CutPrefix(name, "noontide/")
			if _, isLayer := calls()[below]; own && isLayer && !strings.Contains(" "+may+" ", " "+below+" ") {
				t.Errorf("%s calls %s", path, below)
			}
		}
	}
}

func TestLayout(t *testing.T) {
	for _, path := range sources(t) {
		text, err := os.ReadFile(path)
		if err != nil {
			t.Fatal(err)
		}
		if laid, err := format.Source(text); err != nil || !bytes.Equal(laid, text) {
			t.Errorf("%s is not laid out as gofmt does it: %v", path, err)
		}
		if bytes.Contains(text, []byte("\n//go:")) || bytes.HasPrefix(text, []byte("//go:")) {
			t.Errorf("%s has a //go: line", path)
		}
	}
}

func TestSmallFunctions(t *testing.T) {
	for _, path := range sources(t) {
		files := token.NewFileSet()
		file, err := parser.ParseFile(files, path, nil, 0)
		if err != nil {
			t.Fatal(err)
		}
		for _, decl := range file.Decls {
			f, ok := decl.(*ast.FuncDecl)
			if !ok {
				continue
			}
			if lines := files.Position(f.End()).Line - files.Position(f.Pos()).Line + 1; lines > mostLines {
				t.Errorf("%s: %s has %d lines", path, f.Name.Name, lines)
			}
		}
	}
}

func TestErrors(t *testing.T) {
	line := []api.Errno{
		api.OK, api.ErrRange, api.ErrNumber, api.ErrWord, api.ErrForm, api.ErrShort, api.ErrMore, api.ErrByte, api.ErrQuote, api.ErrLong, api.ErrName,
		api.ErrTwice, api.ErrNone, api.ErrLoop, api.ErrOrder, api.ErrClose, api.ErrOpen, api.ErrFull, api.ErrNaN, api.ErrGap, api.ErrTwo, api.ErrState,
	}
	for n, why := range line {
		if int(why) != n {
			t.Errorf("error %d has the number %d", n, why)
		}
	}
}

func TestLimits(t *testing.T) {
	limits := [][2]int64{
		{api.MinYear, -32767}, {api.MaxYear, 32767}, {api.MinT, -1096193779200}, {api.MaxT, 971890963199}, {api.DaySecs, 86400},
		{api.MaxOff, 54000}, {api.MaxSave, 10800}, {api.MaxAt, 172800}, {api.Apart, 345600}, {api.Near, 172800},
		{api.MaxLine, 511}, {api.MaxSource, 1048576}, {api.MaxFields, 16}, {api.MaxName, 64}, {api.MaxLetter, 6}, {api.MaxFormat, 16},
		{api.MaxRules, 4096}, {api.MaxZones, 1024}, {api.MaxEras, 256}, {api.MaxLinks, 1024}, {api.MaxSpans, 65536}, {api.MaxKept, 65536},
		{api.MaxWide, 4000}, {api.MaxAdd, 1125899906842624},
	}
	for i, l := range limits {
		if l[0] != l[1] {
			t.Errorf("limit %d of the document is %d", i, l[0])
		}
	}
}
