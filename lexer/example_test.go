package lexer_test

import (
	"fmt"

	"simulacrum/api"
	"simulacrum/lexer"
)

func ExampleTokens() {
	l, p := lexer.Tokens("lw r1, 0x10(r2) ; first")
	for _, t := range l {
		fmt.Print(t.At, " ", t.Kind, " ", t.N, " ", t.S, "; ")
	}
	fmt.Println(p.E == api.OK)
	l, p = lexer.Tokens("a 12b")
	fmt.Println(len(l), p.At, p.E == api.ErrNumber)
	// Output:
	// 0 1 0 lw; 3 1 0 r1; 5 4 0 ,; 7 2 16 ; 11 4 0 (; 12 1 0 r2; 14 4 0 ); true
	// 0 2 true
}

func ExamplePrint() {
	l, _ := lexer.Tokens("\t.text\"a\\x41\\n\"\n.word -0x05;five")
	src, e := lexer.Print(l)
	fmt.Println(src)
	fmt.Println(e == api.OK)
	// Output:
	// .text "aA\n"
	// .word - 5
	// true
}

func ExamplePlace() {
	fmt.Println(lexer.Place("abc\ndef", 5))
	fmt.Println(lexer.Place("abc\ndef", 8))
	// Output:
	// 2 2
	// 0 0
}
