package impl

import (
	"iter"
	"math/bits"
)

// Codes of errors.
const (
	OK          = 0
	ErrInvalid  = 1
	ErrRange    = 2
	ErrLimit    = 3
	ErrState    = 4
	ErrSyntax   = 5
	ErrNotFound = 6
	ErrBudget   = 7
	ErrProof    = 8
)

// MaxDegree is the greatest degree of a field.
const MaxDegree = 5

// maxTimes is the greatest exponent, and the greatest number of squarings.
const maxTimes = 1000

// maxElements is the greatest number of elements of a field.
const maxElements = 1 << MaxDegree

// Field has 2 to the power Degree elements.
type Field struct {
	Degree int64
	Poly   int64
}

// element is an element of a field; which one it is of, a calculator knows.
type element uint8

// productTable has the product of every two elements of one field.
type productTable [maxElements][maxElements]element

// calculator calculates with the elements of one valid field.
type calculator struct {
	degree   int64
	products productTable
}

// CodeName returns the name of an error code.
func CodeName(code int64) string {
	names := [...]string{
		OK:          "ok",
		ErrInvalid:  "invalid",
		ErrRange:    "range",
		ErrLimit:    "limit",
		ErrState:    "state",
		ErrSyntax:   "syntax",
		ErrNotFound: "notfound",
		ErrBudget:   "budget",
		ErrProof:    "proof",
	}
	if code < 0 || code >= int64(len(names)) {
		return ""
	}
	return names[code]
}

// IsIrreducible reports whether a polynomial is irreducible, and its degree at most MaxDegree.
func IsIrreducible(poly int64) bool {
	degree := polyDegree(poly)
	if degree < 1 || degree > MaxDegree {
		return false
	}
	// One of two factors has at most half of the degree.
	for half := int64(1); 2*half <= degree; half++ {
		for divisor := range polysOf(half) {
			if polyRest(poly, divisor) == 0 {
				return false
			}
		}
	}
	return true
}

// ValidField reports whether a field is valid.
func ValidField(f Field) bool {
	return IsIrreducible(f.Poly) && f.Degree == polyDegree(f.Poly)
}

// FieldOf returns the first field of a degree.
func FieldOf(degree int64) (Field, int64) {
	for f := range fieldsOf(degree) {
		return f, OK
	}
	return Field{}, ErrRange
}

// FieldsOf returns all fields of a degree.
func FieldsOf(degree int64) ([]Field, int64) {
	var list []Field
	for f := range fieldsOf(degree) {
		list = append(list, f)
	}
	if len(list) == 0 {
		return nil, ErrRange
	}
	return list, OK
}

// MulIn returns a product.
func MulIn(f Field, a, b int64) (int64, int64) {
	c, code := calculatorFor(f, a, b)
	if code != OK {
		return 0, code
	}
	return int64(c.product(element(a), element(b))), OK
}

// PowerIn returns a power.
func PowerIn(f Field, a, n int64) (int64, int64) {
	c, code := calculatorTimes(f, a, n)
	if code != OK {
		return 0, code
	}
	power := element(1)
	for range n {
		power = c.product(power, element(a))
	}
	return int64(power), OK
}

// InverseIn returns an inverse.
func InverseIn(f Field, a int64) (int64, int64) {
	c, code := calculatorFor(f, a)
	if code != OK {
		return 0, code
	}
	if a == 0 {
		return 0, ErrState
	}
	return int64(c.quotient(1, element(a))), OK
}

// SquareTimes returns what an element becomes by squaring.
func SquareTimes(f Field, a, k int64) (int64, int64) {
	c, code := calculatorTimes(f, a, k)
	if code != OK {
		return 0, code
	}
	return int64(c.squared(element(a), k)), OK
}

// RootTimes returns what becomes an element by squaring.
func RootTimes(f Field, a, k int64) (int64, int64) {
	c, code := calculatorTimes(f, a, k)
	if code != OK {
		return 0, code
	}
	return int64(c.root(element(a), k)), OK
}

// OrderIn returns the order of an element.
func OrderIn(f Field, a int64) (int64, int64) {
	c, code := calculatorFor(f, a)
	if code != OK {
		return 0, code
	}
	if a == 0 {
		return 0, ErrState
	}
	return c.order(element(a)), OK
}

// FirstPrimitive returns the least primitive element.
func FirstPrimitive(f Field) (int64, int64) {
	c, code := calculatorFor(f)
	if code != OK {
		return 0, code
	}
	return c.first(func(a element) bool { return a != 0 && c.order(a) == c.size()-1 })
}

// LogIn returns a logarithm.
func LogIn(f Field, base, a int64) (int64, int64) {
	c, code := calculatorFor(f, base, a)
	if code != OK {
		return 0, code
	}
	if base == 0 {
		return 0, ErrState
	}
	power := element(1)
	for n := range c.order(element(base)) {
		if power == element(a) {
			return n, OK
		}
		power = c.product(power, element(base))
	}
	return 0, ErrNotFound
}

// TraceIn returns the trace of an element.
func TraceIn(f Field, a int64) (int64, int64) {
	c, code := calculatorFor(f, a)
	if code != OK {
		return 0, code
	}
	return int64(c.trace(element(a))), OK
}

// MinimalPoly returns the minimal polynomial of an element.
func MinimalPoly(f Field, a int64) (int64, int64) {
	c, code := calculatorFor(f, a)
	if code != OK {
		return 0, code
	}
	return c.minimalPoly(element(a)), OK
}

// ConjugatesIn returns the conjugates of an element.
func ConjugatesIn(f Field, a int64) ([]int64, int64) {
	c, code := calculatorFor(f, a)
	if code != OK {
		return nil, code
	}
	return c.conjugates(element(a)), OK
}

// SubfieldIn returns the elements of a subfield.
func SubfieldIn(f Field, k int64) ([]int64, int64) {
	c, code := calculatorFor(f)
	if code != OK {
		return nil, code
	}
	if k < 1 || k > c.degree {
		return nil, ErrRange
	}
	var list []int64
	for a := range c.elements() {
		if c.squared(a, k) == a {
			list = append(list, int64(a))
		}
	}
	return list, OK
}

// IsBasis reports whether elements are a basis.
func IsBasis(f Field, list []int64) (bool, int64) {
	c, code := calculatorFor(f, list...)
	if code != OK {
		return false, code
	}
	_, is := c.coordinates(list)
	return is, OK
}

// CoordinatesIn returns the coordinates of an element.
func CoordinatesIn(f Field, basis []int64, a int64) (int64, int64) {
	c, code := calculatorFor(f, basis...)
	if code != OK {
		return 0, code
	}
	if !c.has(a) {
		return 0, ErrRange
	}
	numbers, is := c.coordinates(basis)
	if !is {
		return 0, ErrState
	}
	return numbers[a], OK
}

// DualBasis returns the dual basis.
func DualBasis(f Field, basis []int64) ([]int64, int64) {
	c, code := calculatorFor(f, basis...)
	if code != OK {
		return nil, code
	}
	if _, is := c.coordinates(basis); !is {
		return nil, ErrState
	}
	dual := make([]int64, len(basis))
	for d := range c.elements() {
		traces := c.tracesWith(basis, d)
		// Each number of traces belongs to just one element.
		if bits.OnesCount64(traces) == 1 {
			dual[bits.TrailingZeros64(traces)] = int64(d)
		}
	}
	return dual, OK
}

// FirstNormal returns the least normal element.
func FirstNormal(f Field) (int64, int64) {
	c, code := calculatorFor(f)
	if code != OK {
		return 0, code
	}
	return c.first(func(a element) bool {
		_, is := c.coordinates(c.conjugates(a))
		return is
	})
}

// SplitIn returns an element that gives another one together with its square.
func SplitIn(f Field, a int64) (int64, int64) {
	c, code := calculatorFor(f, a)
	if code != OK {
		return 0, code
	}
	return c.first(func(b element) bool { return b.plus(c.squared(b, 1)) == element(a) })
}

// polyDegree returns the degree of a polynomial; -1 for 0, and 63 for a negative number, which is none.
func polyDegree(p int64) int64 {
	return int64(bits.Len64(uint64(p))) - 1
}

// polysOf returns all polynomials of a degree from 0 to MaxDegree, in ascending order.
func polysOf(degree int64) iter.Seq[int64] {
	return func(yield func(int64) bool) {
		least := int64(1) << degree
		for p := least; p < 2*least; p++ {
			if !yield(p) {
				return
			}
		}
	}
}

// polyProduct returns the product of two polynomials of lesser degrees than MaxDegree.
func polyProduct(p, q int64) int64 {
	product := int64(0)
	for i := range MaxDegree {
		if q>>i&1 == 1 {
			product ^= p << i
		}
	}
	return product
}

// polyRest returns the rest of the division of a polynomial by another one, which is not 0.
func polyRest(p, q int64) int64 {
	for polyDegree(p) >= polyDegree(q) {
		p ^= q << (polyDegree(p) - polyDegree(q))
	}
	return p
}

// fieldsOf returns all fields of a degree, in ascending order of Poly: none if there is no such degree.
func fieldsOf(degree int64) iter.Seq[Field] {
	return func(yield func(Field) bool) {
		if degree < 1 || degree > MaxDegree {
			return
		}
		for poly := range polysOf(degree) {
			if IsIrreducible(poly) && !yield(Field{Degree: degree, Poly: poly}) {
				return
			}
		}
	}
}

// calculatorFor returns the calculator of a field; ErrInvalid if it is none, ErrRange if a number is no element of it.
func calculatorFor(f Field, numbers ...int64) (*calculator, int64) {
	if !ValidField(f) {
		return nil, ErrInvalid
	}
	c := &calculator{degree: f.Degree}
	if !c.hasAll(numbers) {
		return nil, ErrRange
	}
	c.products.fill(c.size(), func(a, b element) element {
		return element(polyRest(polyProduct(int64(a), int64(b)), f.Poly))
	})
	return c, OK
}

// calculatorTimes returns the calculator of a field for an element and for something that is done n times; errors as for calculatorFor, and ErrRange for n.
func calculatorTimes(f Field, a, n int64) (*calculator, int64) {
	c, code := calculatorFor(f, a)
	if code != OK {
		return nil, code
	}
	if !isTimes(n) {
		return nil, ErrRange
	}
	return c, OK
}

// isTimes reports whether something can be done so many times.
func isTimes(n int64) bool {
	return 0 <= n && n <= maxTimes
}

// fill sets the products of as many elements as size says.
func (t *productTable) fill(size int64, multiply func(a, b element) element) {
	for a := range size {
		for b := range size {
			t[a][b] = multiply(element(a), element(b))
		}
	}
}

// plus returns the sum of two elements.
func (a element) plus(b element) element {
	return a ^ b
}

// elementsOf returns the elements that numbers stand for, which have to be elements.
func elementsOf(list []int64) []element {
	elements := make([]element, len(list))
	for i, a := range list {
		elements[i] = element(a)
	}
	return elements
}

// numbersOf returns the numbers that stand for elements, in new memory.
func numbersOf(elements []element) []int64 {
	list := make([]int64, len(elements))
	for i, a := range elements {
		list[i] = int64(a)
	}
	return list
}

// size returns the number of elements.
func (c *calculator) size() int64 {
	return 1 << c.degree
}

// has reports whether a number is an element.
func (c *calculator) has(a int64) bool {
	return 0 <= a && a < c.size()
}

// hasAll reports whether all numbers of a list are elements.
func (c *calculator) hasAll(list []int64) bool {
	for _, a := range list {
		if !c.has(a) {
			return false
		}
	}
	return true
}

// elements returns all elements, in ascending order.
func (c *calculator) elements() iter.Seq[element] {
	return func(yield func(element) bool) {
		for a := range c.size() {
			if !yield(element(a)) {
				return
			}
		}
	}
}

// first returns the least element that passes a test, and OK; ErrNotFound if there is none.
func (c *calculator) first(passes func(element) bool) (int64, int64) {
	for a := range c.elements() {
		if passes(a) {
			return int64(a), OK
		}
	}
	return 0, ErrNotFound
}

// product returns the product of two elements.
func (c *calculator) product(a, b element) element {
	return c.products[a][b]
}

// multiple returns the elements of a list multiplied with an element: zeros, if this is 0.
func (c *calculator) multiple(a element, list []element) []element {
	products := make([]element, len(list))
	for i, b := range list {
		products[i] = c.product(a, b)
	}
	return products
}

// quotient returns the element whose product with b, which is not 0, is a.
func (c *calculator) quotient(a, b element) element {
	q, _ := c.first(func(q element) bool { return c.product(q, b) == a })
	return element(q)
}

// squared returns what an element becomes by being squared k times.
func (c *calculator) squared(a element, k int64) element {
	for range k {
		a = c.product(a, a)
	}
	return a
}

// root returns what becomes an element by being squared k times.
func (c *calculator) root(a element, k int64) element {
	// As many squarings as the degree change nothing, so some more undo those that were made.
	return c.squared(a, c.degree-k%c.degree)
}

// order returns the order of an element other than 0.
func (c *calculator) order(a element) int64 {
	n := int64(1)
	for power := a; power != 1; power = c.product(power, a) {
		n++
	}
	return n
}

// trace returns the trace of an element, which is 0 or 1.
func (c *calculator) trace(a element) element {
	sum := element(0)
	for k := range c.degree {
		sum = sum.plus(c.squared(a, k))
	}
	return sum
}

// tracesWith returns the number whose bit i is the trace of the product of the element i of a basis and of d.
func (c *calculator) tracesWith(basis []int64, d element) uint64 {
	traces := uint64(0)
	for i, b := range basis {
		traces |= uint64(c.trace(c.product(element(b), d))) << i
	}
	return traces
}

// conjugates returns the conjugates of an element.
func (c *calculator) conjugates(a element) []int64 {
	list := []int64{int64(a)}
	for b := c.squared(a, 1); b != a; b = c.squared(b, 1) {
		list = append(list, int64(b))
	}
	return list
}

// minimalPoly returns the minimal polynomial of an element.
func (c *calculator) minimalPoly(a element) int64 {
	var coefs [MaxDegree + 1]element
	coefs[0] = 1
	for _, conjugate := range c.conjugates(a) {
		// From above, so that the lower coefficients are still those of the product before.
		for i := MaxDegree; i > 0; i-- {
			coefs[i] = coefs[i-1].plus(c.product(coefs[i], element(conjugate)))
		}
		coefs[0] = c.product(coefs[0], element(conjugate))
	}
	poly := int64(0)
	for i, coef := range coefs {
		poly |= int64(coef) << i
	}
	return poly
}

// coordinates returns, for each element, the number whose bits tell the elements of a list with this sum; false if list is no basis.
func (c *calculator) coordinates(list []int64) ([maxElements]int64, bool) {
	var numbers [maxElements]int64
	var found [maxElements]bool
	if int64(len(list)) != c.degree {
		return numbers, false
	}
	for number := range c.size() {
		sum := chosenSum(list, number)
		if found[sum] {
			return numbers, false
		}
		found[sum] = true
		numbers[sum] = number
	}
	return numbers, true
}

// chosenSum returns the sum of those elements of a list whose indices are bits of a number.
func chosenSum(list []int64, number int64) element {
	sum := element(0)
	for i, a := range list {
		if number>>i&1 == 1 {
			sum = sum.plus(element(a))
		}
	}
	return sum
}
