package value_test

import (
	"testing"

	"shuck/api"
)

// P14.1 to P14.4: whatever op and values, against the slow reading.
func FuzzValue(f *testing.F) {
	for i, op := range append(append(unaryOps(), binaryOps()...), "", "??", "in") {
		l := ones()
		a, b := l[i%len(l)], l[i*7%len(l)]
		f.Add(op, a.Kind, a.Num, a.Text, b.Kind, b.Num, b.Text)
		f.Add(op, api.VNumber, edgeNumbers()[i], "", api.VNumber, edgeNumbers()[2*i], "")
		f.Add(op, api.VString, 0, someTexts()[i], api.VString, 0, someTexts()[i+3])
	}
	f.Fuzz(func(t *testing.T, op string, kind int, n int, text string, kind2 int, n2 int, text2 string) {
		a, b := api.Value{Kind: kind, Num: n, Text: text}, api.Value{Kind: kind2, Num: n2, Text: text2}
		agreesOne(t, op, a)
		agrees(t, op, a, b)
		for _, op := range unaryOps() {
			agreesOne(t, op, a)
		}
		for _, op := range binaryOps() {
			agrees(t, op, a, b)
		}
		a.Kind, b.Kind = api.VNumber, api.VNumber
		for _, op := range binaryOps() {
			agrees(t, op, a, b)
		}
		a.Kind, b.Kind = api.VString, api.VString
		for _, op := range orderOps() {
			agrees(t, op, a, b)
		}
	})
}
