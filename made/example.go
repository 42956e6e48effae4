package made

// Example is the program of chapter 13, to which later chapters come back: a loop that counts down, gives each number out, and makes a list of objects.
const Example = `func main(i) i {
b0: %1 = const 1 %2 = nil br b1
b1: %3 = phi.i b0 %0 b2 %5 %4 = phi.p b0 %2 b2 %6 if %3 b2 b3
b2: %5 = sub %3 %1 %6 = call.p cons %3 %4 out %5 br b1
b3: %7 = load.i %4 0 ret %7
}
func cons(i p) p { b0: %2 = new ip store.i %2 0 %0 store.p %2 1 %1 ret %2 }`
