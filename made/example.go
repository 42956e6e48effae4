package made

// Example is the program of chapter 13, to which later chapters come back: a loop that counts down, gives each number out, and makes a list of objects.
const Example = `func main(i) i {
b0: %1 = const 1 %2 = nil br b1
b1: %3 = phi.i b0 %0 b2 %5 %4 = phi.p b0 %2 b2 %6 if %3 b2 b3
b2: %5 = sub %3 %1 %6 = call.p cons %3 %4 out %5 br b1
b3: %7 = load.i %4 0 ret %7
}
func cons(i p) p { b0: %2 = new ip store.i %2 0 %0 store.p %2 1 %1 ret %2 }`

// IntoExample is the program of chapter 15, to which later chapters come back: a pointer into an object goes round a loop, to another slot of another object each time.
const IntoExample = `func main(i) i {
b0: %1 = new ii %2 = const 1 %3 = slot %1 0 br b1
b1: %4 = phi.d b0 %3 b2 %8 %5 = phi.i b0 %0 b2 %7 if %5 b2 b3
b2: put.i %4 %5 %7 = sub %5 %2 %6 = new ii %8 = slot %6 1 br b1
b3: %9 = get.i %4 ret %9
}`
