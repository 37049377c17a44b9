package warm

import "granary/api"

// maxMarks is the sum of all marks.
const maxMarks = api.MarkActive | api.MarkStale | api.MarkWon | api.MarkHit

// laidRow puts an item behind a row of bytes.
func laidRow(to []byte, r api.Row) []byte {
	e := r.Entry
	to = laid(to, itemWidths(), uint64(len(e.Key)), uint64(len(e.Value)), e.Flags, uint64(e.Expiry), uint64(e.Touched), e.Token, marksOf(r), uint64(r.Queue), uint64(r.Class))
	to = append(to, e.Key...)
	return append(to, e.Value...)
}

// marksOf are an item's marks as a number.
func marksOf(r api.Row) uint64 {
	return ifSet(r.Active, api.MarkActive) + ifSet(r.Entry.Stale, api.MarkStale) + ifSet(r.Entry.Won, api.MarkWon) + ifSet(r.Entry.Hit, api.MarkHit)
}

// ifSet is a mark, if it is set.
func ifSet(is bool, mark uint64) uint64 {
	if is {
		return mark
	}
	return 0
}

// rowsOf are the items of some data; false, if these are not just so many items.
func rowsOf(data []byte, items int) ([]api.Row, bool) {
	var all []api.Row
	for len(data) > 0 {
		r, size := rowOf(data)
		if size == 0 {
			return nil, false
		}
		all = append(all, r)
		data = data[size:]
	}
	return all, len(all) == items
}

// rowOf is the item that some data begin with, and its bytes; 0, if there is none. Its value is a piece of the data.
func rowOf(data []byte) (api.Row, int) {
	if len(data) < itemHead {
		return api.Row{}, 0
	}
	n := numbersOf(data, itemWidths())
	value := itemHead + int(n[0])
	size := value + int(n[1])
	marks := int(n[6])
	if size > len(data) || marks > maxMarks {
		return api.Row{}, 0
	}
	return api.Row{
		Entry: api.Entry{
			Key: string(data[itemHead:value]), Value: data[value:size],
			Flags: n[2], Expiry: int(n[3]), Touched: int(n[4]), Token: n[5],
			Stale: marks&api.MarkStale != 0, Won: marks&api.MarkWon != 0, Hit: marks&api.MarkHit != 0,
		},
		Active: marks&api.MarkActive != 0,
		Queue:  int(n[7]),
		Class:  int(n[8]),
	}, size
}
