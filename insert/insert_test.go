package insert_test

import (
	"testing"

	"lychgate/api"
)

// P12.1: the chapter's examples, and DOC.md's.
func TestExamples(t *testing.T) {
	becomesText(t, `(\x:?.x+1)(2)`, `(\x:?.(<? => int>7 x)+1)(<int => ?>12 2)`, "int")
	becomesText(t, `(1:?)(2)`, `(<? => ? -> ?>3 (<int => ?>2 1))(<int => ?>7 2)`, "?")
	becomesText(t, `inl{?}true`, `inl{? + ?}(<bool => ?>7 true)`, "? + ?")
	becomesText(t, `if true then 1 else (2:?)`, `if true then 1 else <? => int>23 (<int => ?>22 2)`, "int")
	becomesText(t, `\x:int.x`, `\x:int.x`, "int -> int")
	becomesText(t, `\x:?.x+1`, `\x:?.(<? => int>6 x)+1`, "? -> int")
	becomesText(t, `(\x:?.x+1)(true)`, `(\x:?.(<? => int>7 x)+1)(<bool => ?>12 true)`, "int")
	becomesText(t, `(\x:int.x)(true:?)`, `(\x:int.x)(<? => int>16 (<bool => ?>12 true))`, "int")
}

// P12.1, this test and the next four: each row of the chapter's table, where all kids are of the types to which they are put. Nothing changes.
func TestNothingIsCast(t *testing.T) {
	for source, ofType := range map[string]string{
		`1`: "int", `-7`: "int", `true`: "bool", `false`: "bool",
		`\x:?.x`: "? -> ?", `\x:?.\y:?.x`: "? -> ? -> ?", `\x:int->?.[x, 1]`: "(int -> ?) -> (int -> ?) * int",
		`rec f(x:?):?.x`: "? -> ?", `rec f(x:int):int.f(x)`: "int -> int", `rec f(x:?):int->?.\y:int.x`: "? -> int -> ?",
		`(\x:int.true)(1)`: "bool", `\x:?.(\y:?.y)(x)`: "? -> ?", `(\f:?->int.f)(\x:?.1)`: "? -> int", `\f:(?->?)->?.f(\x:?.x)`: "((? -> ?) -> ?) -> ?",
		`let x:int=1 in x`: "int", `\x:?.let y:?=x in 1`: "? -> int", `let f:?->?=\x:?.x in f`: "? -> ?", `let x:int=1 in let x:bool=true in x`: "bool",
		`if true then 1 else 2`: "int", `\x:?.if false then x else x`: "? -> ?", `\x:?*int.if 1<2 then x else [fst x, 3]`: "? * int -> ? * int",
		`[1, true]`: "int * bool", `\x:?.[x, [x, 1]]`: "? -> ? * (? * int)",
		`fst [1, true]`: "int", `snd [1, true]`: "bool", `\x:?*(int*?).[fst x, snd snd x]`: "? * (int * ?) -> ? * ?",
		`inl{int+bool}1`: "int + bool", `inr{int+bool}true`: "int + bool", `\x:?.inl{?+?}x`: "? -> ? + ?", `\x:?.inr{int+?}x`: "? -> int + ?", `inr{int+(?->?)}(\x:?.x)`: "int + (? -> ?)",
		`case inl{int+bool}1 of x.x<1 | y.y`: "bool", `\x:?+?.case x of y.y | z.z`: "? + ? -> ?", `\x:int+?.case x of y.y | z.2`: "int + ? -> int",
		`1+2`: "int", `1-2`: "int", `1*2`: "int", `1/0`: "int", `1<2`: "bool", `1=2`: "bool", `(1+2)*3<4/5`: "bool",
	} {
		x := term(source)
		becomes(t, x, x, typed(ofType))
	}
}

// Each row that has a kid which may be put to another type.
func TestWhatIsCast(t *testing.T) {
	for source, want := range map[string][2]string{
		`rec f(x:int):?.x`:                             {`rec f(x:int):?.<int => ?>16 x`, "int -> ?"},
		`rec f(x:?):int.x`:                             {`rec f(x:?):int.<? => int>16 x`, "? -> int"},
		`rec f(x:?):?->bool.f(x)`:                      {`rec f(x:?):? -> bool.f(x)`, "? -> ? -> bool"},
		`rec f(x:int):?->int.\y:int.f(x)(y)`:           {`rec f(x:int):? -> int.<int -> int => ? -> int>21 (\y:int.(f(x))(<int => ?>33 y))`, "int -> ? -> int"},
		`rec f(x:int):int->?.\y:?.[x,y]`:               {`rec f(x:int):int -> ?.<? -> int * ? => int -> ?>21 (\y:?.[x, y])`, "int -> int -> ?"},
		`rec f(x:int*int):int*?.[fst x,f]`:             {`rec f(x:int * int):int * ?.<int * (int * int -> int * ?) => int * ?>24 ([fst x, f])`, "int * int -> int * ?"},
		`(\x:?.true)(1)`:                               {`(\x:?.true)(<int => ?>13 1)`, "bool"},
		`\x:?.(\y:int.y)(x)`:                           {`\x:?.(\y:int.y)(<? => int>17 x)`, "? -> int"},
		`\f:?.f(1)`:                                    {`\f:?.(<? => ? -> ?>6 f)(<int => ?>8 1)`, "? -> ?"},
		`\f:?.f(f)`:                                    {`\f:?.(<? => ? -> ?>6 f)(f)`, "? -> ?"},
		`\f:?.f(1)(2)`:                                 {`\f:?.(<? => ? -> ?>7 ((<? => ? -> ?>6 f)(<int => ?>8 1)))(<int => ?>11 2)`, "? -> ?"},
		`(\f:?->int.f)(\x:int.x)`:                      {`(\f:? -> int.f)(<int -> int => ? -> int>15 (\x:int.x))`, "? -> int"},
		`\f:int->?.(\g:?->bool.g(f))(f)`:               {`\f:int -> ?.(\g:? -> bool.g(<int -> ? => ?>25 f))(<int -> ? => ? -> bool>29 f)`, "(int -> ?) -> bool"},
		`let x:?=1 in x`:                               {`let x:?=<int => ?>9 1 in x`, "?"},
		`\x:?.let y:int=x in y`:                        {`\x:?.let y:int=<? => int>16 x in y`, "? -> int"},
		`let x:?=1 in x+2`:                             {`let x:?=<int => ?>9 1 in (<? => int>14 x)+2`, "int"},
		`let x:?=1 in let x:int=x in x`:                {`let x:?=<int => ?>9 1 in let x:int=<? => int>24 x in x`, "int"},
		`let f:?->int=\x:int.x in f(2)`:                {`let f:? -> int=<int -> int => ? -> int>14 (\x:int.x) in f(<int => ?>28 2)`, "int"},
		`\x:?.if x then 1 else 2`:                      {`\x:?.if <? => bool>9 x then 1 else 2`, "? -> int"},
		`\x:?.if true then x else 2`:                   {`\x:?.if true then <? => int>19 x else 2`, "? -> int"},
		`\x:?.if true then 1 else x`:                   {`\x:?.if true then 1 else <? => int>26 x`, "? -> int"},
		`\x:?.if x then [x, 1] else [2, x]`:            {`\x:?.if <? => bool>9 x then <? * int => int * int>16 ([x, 1]) else <int * ? => int * int>28 ([2, x])`, "? -> int * int"},
		`\x:?.fst x`:                                   {`\x:?.fst (<? => ? * ?>10 x)`, "? -> ?"},
		`\x:?.snd x`:                                   {`\x:?.snd (<? => ? * ?>10 x)`, "? -> ?"},
		`\x:?.snd fst x`:                               {`\x:?.snd (<? => ? * ?>10 (fst (<? => ? * ?>14 x)))`, "? -> ?"},
		`inl{?}1`:                                      {`inl{? + ?}(<int => ?>7 1)`, "? + ?"},
		`inr{?}1`:                                      {`inr{? + ?}(<int => ?>7 1)`, "? + ?"},
		`\x:?.inl{?}x`:                                 {`\x:?.inl{? + ?}x`, "? -> ? + ?"},
		`\x:?.inr{?}x`:                                 {`\x:?.inr{? + ?}x`, "? -> ? + ?"},
		`inl{?+bool}1`:                                 {`inl{? + bool}(<int => ?>12 1)`, "? + bool"},
		`inr{int+?}1`:                                  {`inr{int + ?}(<int => ?>11 1)`, "int + ?"},
		`\x:?.inl{int+bool}x`:                          {`\x:?.inl{int + bool}(<? => int>19 x)`, "? -> int + bool"},
		`\x:?.inr{int+bool}x`:                          {`\x:?.inr{int + bool}(<? => bool>19 x)`, "? -> int + bool"},
		`inr{?+(?*int)}[1, 2]`:                         {`inr{? + ? * int}(<int * int => ? * int>15 ([1, 2]))`, "? + ? * int"},
		`\x:?.case x of y.1 | z.2`:                     {`\x:?.case <? => ? + ?>11 x of y.1 | z.2`, "? -> int"},
		`\x:?.case x of y.y | z.z`:                     {`\x:?.case <? => ? + ?>11 x of y.y | z.z`, "? -> ?"},
		`\x:?.case x of y.1 | z.z`:                     {`\x:?.case <? => ? + ?>11 x of y.1 | z.<? => int>24 z`, "? -> int"},
		`\x:int+?.case x of y.y | z.z`:                 {`\x:int + ?.case x of y.y | z.<? => int>28 z`, "int + ? -> int"},
		`\x:?+bool.case x of y.y | z.z`:                {`\x:? + bool.case x of y.<? => bool>23 y | z.z`, "? + bool -> bool"},
		`\x:?+?.case x of y.[y,1]|z.[2,z]`:             {`\x:? + ?.case x of y.<? * int => int * int>20 ([y, 1]) | z.<int * ? => int * int>28 ([2, z])`, "? + ? -> int * int"},
		`\x:?.x+1`:                                     {`\x:?.(<? => int>6 x)+1`, "? -> int"},
		`\x:?.1-x`:                                     {`\x:?.1-(<? => int>8 x)`, "? -> int"},
		`\x:?.x*x`:                                     {`\x:?.(<? => int>6 x)*(<? => int>8 x)`, "? -> int"},
		`\x:?.1/x`:                                     {`\x:?.1/(<? => int>8 x)`, "? -> int"},
		`\x:?.x<1`:                                     {`\x:?.(<? => int>6 x)<1`, "? -> bool"},
		`\x:?.x=x`:                                     {`\x:?.(<? => int>6 x)=(<? => int>8 x)`, "? -> bool"},
		`\x:?.[\y:?.x+y, [\x:int.x, x]]`:               {`\x:?.[\y:?.(<? => int>12 x)+(<? => int>14 y), [\x:int.x, x]]`, "? -> (? -> int) * ((int -> int) * ?)"},
		`rec x(x:?):int.x`:                             {`rec x(x:?):int.<? => int>16 x`, "? -> int"}, // its argument hides it
		`\x:?.case x of x.x+1 | x.2`:                   {`\x:?.case <? => ? + ?>11 x of x.(<? => int>18 x)+1 | x.2`, "? -> int"},
		`\x:?.(\x:int.x)(x)+(\x:bool.\y:?.y)(true)(x)`: {`\x:?.((\x:int.x)(<? => int>17 x))+(<? => int>42 (((\x:bool.\y:?.y)(true))(x)))`, "? -> int"},
	} {
		becomesText(t, source, want[0], want[1])
	}
}

// An Is is gone; what is put to its type stands where it stood, and is what is cast, if the Is is: that cast tells where the Is stood.
func TestNoIsIsLeft(t *testing.T) {
	for source, want := range map[string][2]string{
		`1:int`:                           {`1`, "int"},
		`1:int:int:int`:                   {`1`, "int"},
		`1:?`:                             {`<int => ?>1 1`, "?"},
		`1:?:bool`:                        {`<? => bool>2 (<int => ?>1 1)`, "bool"},
		`1:?:?:int`:                       {`<? => int>4 (<int => ?>1 1)`, "int"},
		`1:int:?`:                         {`<int => ?>2 1`, "?"},
		`(1:int):?:?:int:int:?`:           {`<int => ?>16 (<? => int>10 (<int => ?>3 1))`, "?"},
		`\x:?.x:int`:                      {`\x:?.<? => int>6 x`, "? -> int"},
		`(\x:?.x):int->bool`:              {`<? -> ? => int -> bool>2 (\x:?.x)`, "int -> bool"},
		`[1:int, true:?]:?*bool`:          {`<int * ? => ? * bool>1 ([1, <bool => ?>9 true])`, "? * bool"},
		`inl{?}1:int+bool`:                {`<? + ? => int + bool>1 (inl{? + ?}(<int => ?>7 1))`, "int + bool"},
		`rec f(x:int):?.x:int`:            {`rec f(x:int):?.<int => ?>17 x`, "int -> ?"},
		`rec f(x:int):int.x:?`:            {`rec f(x:int):int.<? => int>19 (<int => ?>18 x)`, "int -> int"},
		`let x:?=1:? in (x:?):?`:          {`let x:?=<int => ?>9 1 in x`, "?"},
		`let x:int=(1:?) in x:int`:        {`let x:int=<? => int>13 (<int => ?>12 1) in x`, "int"},
		`if true:? then 1:? else (2:int)`: {`if <? => bool>8 (<bool => ?>4 true) then <? => int>17 (<int => ?>16 1) else 2`, "int"},
		`fst ([1, 2]:?)`:                  {`fst (<? => ? * ?>12 (<int * int => ?>6 ([1, 2])))`, "?"},
		`case 1:? of x.x:int | y.2:?`:     {`case <? => ? + ?>7 (<int => ?>6 1) of x.<? => int>15 x | y.<? => int>26 (<int => ?>25 2)`, "int"},
		`(1:?)+(2:int)`:                   {`(<? => int>3 (<int => ?>2 1))+2`, "int"},
		`\x:int+bool.case x of y.[y, x:?]|z.[(x:?), z]`: {`\x:int + bool.case x of y.<int * ? => int * bool>25 ([y, <int + bool => ?>29 x]) | z.<? * bool => int * bool>36 ([<int + bool => ?>38 x, z])`, "int + bool -> int * bool"},
	} {
		becomesText(t, source, want[0], want[1])
	}
}

// All fields, and where each term stands.
func TestFieldsAndPlaces(t *testing.T) {
	cast := func(at int, from, to string, over api.Term) api.Term {
		return api.Term{Kind: api.Cast, Type: typed(from), To: typed(to), Label: at + 1, At: at, Kids: []api.Term{over}}
	}
	x, num := name("x", 15), api.Term{Kind: api.Num, Num: -1, At: 21}
	body := api.Term{Kind: api.Op, Name: "-", At: 17, Kids: []api.Term{cast(15, "?", "int", x), num}}
	function := api.Term{Kind: api.Rec, Name: "f", Arg: "x", Type: unknown(), To: unknown(), At: 1, Kids: []api.Term{cast(17, "int", "?", body)}}
	whole := node(api.App, 25, function, cast(26, "bool", "?", node(api.Yes, 26)))
	becomes(t, term(`(rec f(x:?):?. x - ( -1))(true)`), whole, unknown())

	becomes(t, term(` 7 :int:int`), api.Term{Kind: api.Num, Num: 7, At: 1}, integer())
	left := api.Term{Kind: api.Inl, Type: typed("? + ?"), At: 0, Kids: []api.Term{cast(6, "int", "?", api.Term{Kind: api.Num, Num: 3, At: 6})}}
	becomes(t, term(`inl{?}3 :int+?`), cast(0, "? + ?", "int + ?", left), typed("int + ?"))
}
