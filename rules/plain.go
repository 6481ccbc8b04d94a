package rules

import (
	"strconv"
	"strings"
)

// Plain tells the plain text.
func (b *Book) Plain() string {
	var w strings.Builder
	told := 0
	for _, r := range b.Rules {
		plainRoutes(&w, b.Routes[told:r.Ahead])
		told = r.Ahead
		b.plainRule(&w, r)
	}
	plainRoutes(&w, b.Routes[told:])
	return w.String()
}

func plainRoutes(w *strings.Builder, routes []Route) {
	for _, r := range routes {
		w.WriteString("route " + r.Name + " " + strconv.Itoa(r.Base) + " " + strconv.Itoa(r.Rate) + ";\n")
	}
}

func (b *Book) plainRule(w *strings.Builder, r Rule) {
	w.WriteString("rule " + r.Name + " " + strconv.Itoa(r.Rank) + ":")
	w.WriteString(" bin " + padded(r.Bin.Low, r.Digits) + ".." + padded(r.Bin.High, r.Digits))
	if len(r.Mcc) > 0 {
		w.WriteString(" mcc " + plainNumbers(r.Mcc))
	}
	if r.HasAmount {
		w.WriteString(" amount " + strconv.Itoa(r.Amount.Low) + ".." + strconv.Itoa(r.Amount.High))
	}
	if len(r.Cur) > 0 {
		w.WriteString(" cur " + plainNumbers(r.Cur))
	}
	w.WriteString(" -> " + b.plainAction(r) + ";\n")
}

func (b *Book) plainAction(r Rule) string {
	if r.Decline {
		return "decline"
	}
	var names []string
	for _, place := range r.Routes {
		names = append(names, b.Routes[place].Name)
	}
	list := strings.Join(names, ", ")
	if r.Cheapest {
		return "cheapest " + list
	}
	return list
}

func plainNumbers(list []int) string {
	var texts []string
	for _, n := range list {
		texts = append(texts, strconv.Itoa(n))
	}
	return strings.Join(texts, ", ")
}

func padded(n, digits int) string {
	text := strconv.Itoa(n)
	return strings.Repeat("0", digits-len(text)) + text
}
