package impl

import (
	"iter"
	"math"
	"math/bits"
	"strconv"
	"strings"
)

// Codes of errors.
const (
	OK          = 0
	ErrInvalid  = 1
	ErrRange    = 2
	ErrLimit    = 3
	ErrState    = 4
	ErrSyntax   = 5
	ErrNotFound = 6
	ErrBudget   = 7
	ErrProof    = 8
)

// Limits of grounds.
const (
	MaxSize = 1048576
	Stride  = 8
)

// Sides of cells.
const (
	SdNorth = 0
	SdEast  = 1
	SdSouth = 2
	SdWest  = 3
)

// Field has a number for each cell.
type Field [64]float32

// Ground has cells with conductances, gains and heads.
type Ground struct {
	Wide    int8
	High    int8
	Conduct Field
	Gain    Field
	Heads   Field
	Fixed   uint64
}

// nanText is the only text of a number that is none, whatever its bits are.
const nanText = "7fc00000"

// numberDigits is how many hexadecimal digits the text of a number has.
const numberDigits = 8

// place is where a cell lies: x from west to east, y from north to south.
type place struct {
	x int64
	y int64
}

func (p place) north() place { return place{p.x, p.y - 1} }
func (p place) east() place  { return place{p.x + 1, p.y} }
func (p place) south() place { return place{p.x, p.y + 1} }
func (p place) west() place  { return place{p.x - 1, p.y} }

func (p place) number() int64 { return p.x + Stride*p.y }

func placeOf(cell int64) place { return place{cell % Stride, cell / Stride} }

// cellSide is one of the sides SdNorth to SdWest.
type cellSide int64

// of returns the place on this side of another one.
func (s cellSide) of(p place) place {
	steps := [...]func(place) place{
		SdNorth: place.north,
		SdEast:  place.east,
		SdSouth: place.south,
		SdWest:  place.west,
	}
	return steps[s](p)
}

func isSide(side int64) bool { return side >= SdNorth && side <= SdWest }

func isExtent(n int64) bool { return n >= 2 && n <= Stride }

// bitsIn goes through the numbers of the bits that are set, in ascending order.
func bitsIn(mask uint64) iter.Seq[int64] {
	return func(yield func(int64) bool) {
		for rest := mask; rest != 0; rest &= rest - 1 {
			if !yield(int64(bits.TrailingZeros64(rest))) {
				return
			}
		}
	}
}

// bitsOf returns the bits of the cells that are keys; the order of the keys does not matter to it.
func bitsOf(cells map[int64]bool) uint64 {
	mask := uint64(0)
	for cell := range cells {
		mask |= 1 << cell
	}
	return mask
}

// sizeOf returns the size of a number, without its sign (0 of -0).
func sizeOf(a float32) float32 {
	return float32(math.Abs(float64(a)))
}

func isFinite(a float32) bool {
	return sizeOf(a) <= math.MaxFloat32
}

// isAmount reports whether a number is plain, and at least 0.
func isAmount(a float32) bool { return IsPlain(a) && a >= 0 }

// ifFinite returns a number as a result, or ErrState if it is not finite.
func ifFinite(a float32) (float32, int64) {
	if !isFinite(a) {
		return 0, ErrState
	}
	return a, OK
}

// ifValid returns a ground as a result, or ErrState if it is not valid.
func ifValid(g Ground) (Ground, int64) {
	if !ValidGround(g) {
		return Ground{}, ErrState
	}
	return g, OK
}

// holds reports whether a place is one of a cell.
func (g *Ground) holds(p place) bool {
	return p.x >= 0 && p.x < int64(g.Wide) && p.y >= 0 && p.y < int64(g.High)
}

// hasCell reports whether a number is one of a cell; the place of one less than 0 is outside, too.
func (g *Ground) hasCell(cell int64) bool {
	return g.holds(placeOf(cell))
}

// isFixed reports whether a cell keeps its head.
func (g *Ground) isFixed(cell int64) bool {
	return g.Fixed>>cell&1 == 1
}

// cells returns the bits of all cells of a ground whose Wide and High are valid.
func (g *Ground) cells() uint64 {
	row := uint64(1)<<g.Wide - 1
	mask := uint64(0)
	for y := range g.High {
		mask |= row << (Stride * y)
	}
	return mask
}

// free returns the bits of all cells that are not fixed.
func (g *Ground) free() uint64 { return g.cells() &^ g.Fixed }

// beside returns the cell on a side of a cell, and whether there is one.
func (g *Ground) beside(cell int64, side cellSide) (int64, bool) {
	p := side.of(placeOf(cell))
	if !g.holds(p) {
		return 0, false
	}
	return p.number(), true
}

// neighbours goes through the neighbours of a cell, in the order of the sides, which is that of all sums.
func (g *Ground) neighbours(cell int64) iter.Seq[int64] {
	return func(yield func(int64) bool) {
		for side := cellSide(SdNorth); side <= SdWest; side++ {
			other, ok := g.beside(cell, side)
			if ok && !yield(other) {
				return
			}
		}
	}
}

// joint returns the joint of the conductances of a cell and a neighbour.
func (g *Ground) joint(cell, other int64) float32 {
	return JointOf(g.Conduct[cell], g.Conduct[other])
}

// flow returns what flows from a cell to a neighbour.
func (g *Ground) flow(cell, other int64) float32 {
	drop := float32(g.Heads[cell] - g.Heads[other])
	return float32(g.joint(cell, other) * drop)
}

// balance returns the gain of a cell less what flows from it.
func (g *Ground) balance(cell int64) float32 {
	sum := g.Gain[cell]
	for other := range g.neighbours(cell) {
		sum = float32(sum - g.flow(cell, other))
	}
	return sum
}

// outside returns a field in which only the numbers that are no cells are left.
func outside(f Field, cells uint64) Field {
	for cell := range bitsIn(cells) {
		f[cell] = 0
	}
	return f
}

// checkCell returns the first error of a ground and of the number of a cell.
func checkCell(g *Ground, cell int64) int64 {
	if !ValidGround(*g) {
		return ErrInvalid
	}
	if !g.hasCell(cell) {
		return ErrRange
	}
	return OK
}

// checkSide returns the first error of a ground, of the number of a cell, and of a side.
func checkSide(g *Ground, cell, side int64) int64 {
	code := checkCell(g, cell)
	if code == OK && !isSide(side) {
		return ErrRange
	}
	return code
}

// CodeName returns the name of an error code.
func CodeName(code int64) string {
	switch code {
	case OK:
		return "ok"
	case ErrInvalid:
		return "invalid"
	case ErrRange:
		return "range"
	case ErrLimit:
		return "limit"
	case ErrState:
		return "state"
	case ErrSyntax:
		return "syntax"
	case ErrNotFound:
		return "notfound"
	case ErrBudget:
		return "budget"
	case ErrProof:
		return "proof"
	}
	return ""
}

// SameNumber reports whether two numbers are the same.
func SameNumber(a, b float32) bool {
	if a != a || b != b {
		return a != a && b != b
	}
	return math.Float32bits(a) == math.Float32bits(b)
}

// IsPlain reports whether a number is plain.
func IsPlain(a float32) bool {
	return a >= -MaxSize && a <= MaxSize
}

// SameField reports whether two fields are the same.
func SameField(a, b Field) bool {
	for i := range a {
		if !SameNumber(a[i], b[i]) {
			return false
		}
	}
	return true
}

// ValidGround reports whether a ground is valid.
func ValidGround(g Ground) bool {
	if !isExtent(int64(g.Wide)) || !isExtent(int64(g.High)) {
		return false
	}
	cells := g.cells()
	if g.Fixed == 0 || g.Fixed&^cells != 0 {
		return false
	}
	for cell := range bitsIn(cells) {
		if !isAmount(g.Conduct[cell]) || !IsPlain(g.Gain[cell]) || !IsPlain(g.Heads[cell]) {
			return false
		}
	}
	// An array compares 0 and -0 as equal, and NaN as unequal, as these numbers must be.
	nothing := Field{}
	return outside(g.Conduct, cells) == nothing && outside(g.Gain, cells) == nothing && outside(g.Heads, cells) == nothing
}

// SameGround reports whether two grounds are the same.
func SameGround(a, b Ground) bool {
	if a.Wide != b.Wide || a.High != b.High || a.Fixed != b.Fixed {
		return false
	}
	return SameField(a.Conduct, b.Conduct) && SameField(a.Gain, b.Gain) && SameField(a.Heads, b.Heads)
}

// EvenGround returns the ground with equal cells.
func EvenGround(wide, high int64, conduct, head float32) (Ground, int64) {
	if !isAmount(conduct) || !IsPlain(head) {
		return Ground{}, ErrInvalid
	}
	if !isExtent(wide) || !isExtent(high) {
		return Ground{}, ErrRange
	}
	g := Ground{Wide: int8(wide), High: int8(high), Fixed: 1}
	for cell := range bitsIn(g.cells()) {
		g.Conduct[cell] = conduct
		g.Heads[cell] = head
	}
	return g, OK
}

// CellAt returns the number of the cell at a place.
func CellAt(g Ground, x, y int64) (int64, int64) {
	if !ValidGround(g) {
		return 0, ErrInvalid
	}
	p := place{x, y}
	if !g.holds(p) {
		return 0, ErrRange
	}
	return p.number(), OK
}

// BesideCell returns the number of the cell on a side of a cell.
func BesideCell(g Ground, cell, side int64) (int64, int64) {
	if code := checkSide(&g, cell, side); code != OK {
		return 0, code
	}
	other, ok := g.beside(cell, cellSide(side))
	if !ok {
		return 0, ErrNotFound
	}
	return other, OK
}

// CellsOf returns the bits of all cells.
func CellsOf(g Ground) (uint64, int64) {
	if !ValidGround(g) {
		return 0, ErrInvalid
	}
	return g.cells(), OK
}

// JointOf returns the joint of two conductances.
func JointOf(a, b float32) float32 {
	// NaN is not greater than 0 either.
	if !(a > 0) || !(b > 0) {
		return 0
	}
	// Where a call is inlined, a caller's product would be fused with the sum if it were not rounded here.
	sum := float32(float32(a) + float32(b))
	return float32(float32(2*float32(a*b)) / sum)
}

// FlowFrom returns what flows from a cell to its neighbour.
func FlowFrom(g Ground, cell, side int64) (float32, int64) {
	if code := checkSide(&g, cell, side); code != OK {
		return 0, code
	}
	other, ok := g.beside(cell, cellSide(side))
	if !ok {
		return 0, OK
	}
	return ifFinite(g.flow(cell, other))
}

// BalanceAt returns the balance of a cell.
func BalanceAt(g Ground, cell int64) (float32, int64) {
	if code := checkCell(&g, cell); code != OK {
		return 0, code
	}
	return ifFinite(g.balance(cell))
}

// BalancesOf returns the balances of all cells.
func BalancesOf(g Ground) (Field, int64) {
	if !ValidGround(g) {
		return Field{}, ErrInvalid
	}
	balances := Field{}
	for cell := range bitsIn(g.cells()) {
		balances[cell] = g.balance(cell)
		if !isFinite(balances[cell]) {
			return Field{}, ErrState
		}
	}
	return balances, OK
}

// WorstBalance returns the cell with the worst balance.
func WorstBalance(g Ground) (int64, float32, int64) {
	balances, code := BalancesOf(g)
	if code != OK {
		return 0, 0, code
	}
	free := g.free()
	if free == 0 {
		return 0, 0, ErrNotFound
	}
	worst := int64(bits.TrailingZeros64(free))
	for cell := range bitsIn(free) {
		if sizeOf(balances[cell]) > sizeOf(balances[worst]) {
			worst = cell
		}
	}
	return worst, balances[worst], OK
}

// SumOver returns the sum of a field over all cells.
func SumOver(g Ground, f Field) (float32, int64) {
	if !ValidGround(g) {
		return 0, ErrInvalid
	}
	// The cell 0 is there in every ground; a sum that began with 0 would lose the sign of -0.
	sum := f[0]
	for cell := range bitsIn(g.cells() &^ 1) {
		sum = float32(sum + f[cell])
	}
	return ifFinite(sum)
}

// HeadsBetween returns the least and the greatest head.
func HeadsBetween(g Ground) (float32, float32, int64) {
	if !ValidGround(g) {
		return 0, 0, ErrInvalid
	}
	least, greatest := g.Heads[0], g.Heads[0]
	for cell := range bitsIn(g.cells()) {
		head := g.Heads[cell]
		if head < least {
			least = head
		}
		if head > greatest {
			greatest = head
		}
	}
	return least, greatest, OK
}

// WithHead returns the ground with another head at a cell.
func WithHead(g Ground, cell int64, head float32) (Ground, int64) {
	if code := checkCell(&g, cell); code != OK {
		return Ground{}, code
	}
	g.Heads[cell] = head
	return ifValid(g)
}

// WithGain returns the ground with another gain at a cell.
func WithGain(g Ground, cell int64, gain float32) (Ground, int64) {
	if code := checkCell(&g, cell); code != OK {
		return Ground{}, code
	}
	g.Gain[cell] = gain
	return ifValid(g)
}

// WithConduct returns the ground with another conductance at a cell.
func WithConduct(g Ground, cell int64, conduct float32) (Ground, int64) {
	if code := checkCell(&g, cell); code != OK {
		return Ground{}, code
	}
	g.Conduct[cell] = conduct
	return ifValid(g)
}

// WithFixed returns the ground in which a cell is fixed, or is not.
func WithFixed(g Ground, cell int64, fixed bool) (Ground, int64) {
	if code := checkCell(&g, cell); code != OK {
		return Ground{}, code
	}
	if fixed {
		g.Fixed |= 1 << cell
	} else {
		g.Fixed &^= 1 << cell
	}
	return ifValid(g)
}

// FedCells returns the bits of all cells that are fed.
func FedCells(g Ground) (uint64, int64) {
	if !ValidGround(g) {
		return 0, ErrInvalid
	}
	fed := map[int64]bool{}
	waiting := []int64{}
	for cell := range bitsIn(g.Fixed) {
		fed[cell] = true
		waiting = append(waiting, cell)
	}
	for len(waiting) > 0 {
		cell := waiting[0]
		waiting = waiting[1:]
		for other := range g.neighbours(cell) {
			if !fed[other] && g.joint(cell, other) > 0 {
				fed[other] = true
				waiting = append(waiting, other)
			}
		}
	}
	return bitsOf(fed), OK
}

// MirrorGround returns the mirrored ground.
func MirrorGround(g Ground) (Ground, int64) {
	if !ValidGround(g) {
		return Ground{}, ErrInvalid
	}
	// The numbers that are no cells stay: a -0 there must be back behind a second mirroring.
	mirror := g
	mirror.Fixed = 0
	for cell := range bitsIn(g.cells()) {
		p := placeOf(cell)
		image := place{int64(g.Wide) - 1 - p.x, p.y}.number()
		mirror.Conduct[image] = g.Conduct[cell]
		mirror.Gain[image] = g.Gain[cell]
		mirror.Heads[image] = g.Heads[cell]
		if g.isFixed(cell) {
			mirror.Fixed |= 1 << image
		}
	}
	return mirror, OK
}

// NumberText returns the text of a number.
func NumberText(a float32) string {
	if a != a {
		return nanText
	}
	digits := strconv.FormatUint(uint64(math.Float32bits(a)), 16)
	return strings.Repeat("0", numberDigits-len(digits)) + digits
}

// ReadNumber returns the number with a text.
func ReadNumber(text string) (float32, int64) {
	value, err := strconv.ParseUint(text, 16, 32)
	if err != nil {
		return 0, ErrSyntax
	}
	// Too many or too few digits, capital letters, and the other bits of NaN, are no texts.
	a := math.Float32frombits(uint32(value))
	if NumberText(a) != text {
		return 0, ErrSyntax
	}
	return a, OK
}

// hasText reports whether no number that is no cell is -0, which a text would not tell.
func (g *Ground) hasText() bool {
	cells := g.cells()
	nothing := Field{}
	return SameField(outside(g.Conduct, cells), nothing) &&
		SameField(outside(g.Gain, cells), nothing) &&
		SameField(outside(g.Heads, cells), nothing)
}

// cellText returns the line of a cell.
func (g *Ground) cellText(cell int64) string {
	kind := "free"
	if g.isFixed(cell) {
		kind = "fixed"
	}
	words := []string{kind, NumberText(g.Conduct[cell]), NumberText(g.Gain[cell]), NumberText(g.Heads[cell])}
	return strings.Join(words, " ") + "\n"
}

// GroundText returns the text of a ground.
func GroundText(g Ground) string {
	if !ValidGround(g) || !g.hasText() {
		return ""
	}
	text := strings.Builder{}
	text.WriteString(strconv.Itoa(int(g.Wide)) + " " + strconv.Itoa(int(g.High)) + "\n")
	for cell := range bitsIn(g.cells()) {
		text.WriteString(g.cellText(cell))
	}
	return text.String()
}

// readExtents reads the line with Wide and High.
func readExtents(line string) (Ground, bool) {
	wideText, highText, _ := strings.Cut(line, " ")
	wide, wideErr := strconv.ParseInt(wideText, 10, 8)
	high, highErr := strconv.ParseInt(highText, 10, 8)
	if wideErr != nil || highErr != nil || !isExtent(wide) || !isExtent(high) {
		return Ground{}, false
	}
	return Ground{Wide: int8(wide), High: int8(high)}, true
}

// readCell reads the line of a cell into a ground.
func readCell(g *Ground, cell int64, line string) bool {
	words := strings.Split(line, " ")
	if len(words) != 4 {
		return false
	}
	if words[0] == "fixed" {
		g.Fixed |= 1 << cell
	}
	conduct, conductCode := ReadNumber(words[1])
	gain, gainCode := ReadNumber(words[2])
	head, headCode := ReadNumber(words[3])
	g.Conduct[cell], g.Gain[cell], g.Heads[cell] = conduct, gain, head
	return conductCode == OK && gainCode == OK && headCode == OK
}

// ReadGround returns the ground with a text.
func ReadGround(text string) (Ground, int64) {
	lines := strings.Split(text, "\n")
	g, ok := readExtents(lines[0])
	if !ok || len(lines) < 1+int(g.Wide)*int(g.High) {
		return Ground{}, ErrSyntax
	}
	next := 1
	for cell := range bitsIn(g.cells()) {
		if !readCell(&g, cell, lines[next]) {
			return Ground{}, ErrSyntax
		}
		next++
	}
	// A ground has one text alone: what has been read freely, or is not valid, does not give it back.
	if GroundText(g) != text {
		return Ground{}, ErrSyntax
	}
	return g, OK
}
