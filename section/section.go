// Package section gives names to the ids of a module's sections and to the numbers that tell forms apart in their contents, for the layers that read, write and check modules.
package section

// Ids.
const (
	Custom = iota
	Type
	Import
	Function
	Table
	Memory
	Global
	Export
	Start
	Element
	Code
	Data
	Count
	Tag
)

// WithInit stands, and a 0 behind it, ahead of a table that tells its first elements.
const WithInit = 0x40

// Bits of the number with which a segment begins. Of data segments there is one bit at most.
const (
	NotActive   = 1
	ToldOrOnly  = 2 // of an active one its table or memory is told, another one is only declared
	Expressions = 4 // the elements are expressions
)

// MaxType is the greatest number of a type, here as in all forms that speak of one.
const MaxType = 1<<31 - 1
