package choice

import "treadle/cell"

// From: a choice whose ticket holds this at first.
func From(bell *cell.Cell, ticket int64) *Choice {
	return &Choice{bell: bell, ticket: cell.New(ticket)}
}
