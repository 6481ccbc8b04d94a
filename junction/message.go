package junction

import (
	"strconv"
	"strings"

	"junction/api"
	"junction/rules"
)

// How many digits the numbers of a message may have.
const (
	mccDigits    = 4
	amountDigits = 10
	curDigits    = 3
)

// readMessage tells the payment that a message is: it may be none all the
// same, by its card's number or its amount.
func readMessage(message string) (api.Payment, bool) {
	parts := strings.SplitN(message, " ", 5) // a fifth part is one too many, however long
	if len(parts) != 4 {
		return api.Payment{}, false
	}
	mcc, fineMcc := readNumber(parts[1], mccDigits)
	amount, fineAmount := readNumber(parts[2], amountDigits)
	cur, fineCur := readNumber(parts[3], curDigits)
	return api.Payment{Pan: parts[0], Mcc: mcc, Amount: amount, Cur: cur}, fineMcc && fineAmount && fineCur
}

// readNumber asks for digits ahead of Atoi, which would let a sign pass.
func readNumber(text string, most int) (int, bool) {
	if len(text) > most || !rules.AllDigits(text) {
		return 0, false
	}
	n, err := strconv.Atoi(text)
	return n, err == nil
}
