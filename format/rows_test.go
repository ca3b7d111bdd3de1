package format_test

import "testing"

// P13.2: csv, tsv and sh

func TestCSV(t *testing.T) {
	for text, want := range map[string]string{
		`[]`: "", `[null]`: "", `[null,null]`: ",", `[1,"a\"b",null,true]`: `1,"a""b",,true`, `[false,-0,0.1,1e300,nan,1e1000]`: "false,-0,0.1,1e+300,null,1.7976931348623157e+308",
		`[""]`: `""`, `["",""]`: `"",""`, `["\""]`: `""""`, `["\"\""]`: `""""""`, `["a,b"," c ","d\ne\r","\t\\","é'"]`: "\"a,b\",\" c \",\"d\ne\r\",\"\t\\\",\"é'\"", `["1","null",null]`: `"1","null",`,
	} {
		check(t, "csv", one(text), want, "")
	}
}

func TestTSV(t *testing.T) {
	for text, want := range map[string]string{
		`[]`: "", `[null]`: "", `[null,null]`: "\t", `[1,"a\"b",null,true]`: "1\ta\"b\t\ttrue", `[false,-0,0.1,1e300,nan]`: "false\t-0\t0.1\t1e+300\tnull",
		`[""]`: "", `["",""]`: "\t", `["a\tb\nc\rd\\e"]`: `a\tb\nc\rd\\e`, `["\\t\\n\\\\"]`: `\\t\\n\\\\`, `["a,b","é'","\u0000\u000b\f"]`: "a,b\té'\t\x00\v\f",
	} {
		check(t, "tsv", one(text), want, "")
	}
}

func TestSh(t *testing.T) {
	for text, want := range map[string]string{
		`"it's"`: `'it'\''s'`, `""`: `''`, `"'"`: `''\'''`, `"''"`: `''\'''\'''`, `"a b$c\\\n\"!` + "`" + `"`: "'a b$c\\\n\"!`'", `"é"`: `'é'`,
		`null`: "null", `true`: "true", `false`: "false", `1.50`: "1.5", `nan`: "null",
		`[]`: "", `[1,"a'b",null,false,""]`: `1 'a'\''b' null false ''`, `["a","b"]`: `'a' 'b'`, `["null",null]`: `'null' null`,
	} {
		check(t, "sh", one(text), want, "")
	}
}

func TestNoRow(t *testing.T) {
	for _, name := range []string{"csv", "tsv"} {
		for text, told := range map[string]string{
			`null`: "null (null)", `true`: "boolean (true)", `1`: "number (1)", `"a"`: `string ("a")`, `{}`: "object ({})", `{"a":[1]}`: `object ({"a":[1]})`,
			`"abcdefghijklmnopqrstuvwxyz"`: `string ("abcdefghijklmnopqrst...)`,
		} {
			check(t, name, one(text), "", told+" cannot be "+name+"-formatted, only an array can be")
		}
		for text, told := range map[string]string{
			`[[]]`: "array ([])", `[{}]`: "object ({})", `[1,"a",null,[2],{}]`: "array ([2])", `[1,{"a":1},[2]]`: `object ({"a":1})`, `[[[1,2,3,4,5,6,7,8,9,10,11]]]`: "array ([[1,2,3,4,5,6,7,8,9,1...)",
		} {
			check(t, name, one(text), "", told+" is not valid in a "+name+" row")
		}
	}
}

func TestNoWords(t *testing.T) {
	for text, told := range map[string]string{
		`{}`: "object ({})", `{"a":"abcdefghijklmnopqrstuvwxyz"}`: `object ({"a":"abcdefghijklmno...)`, // itself
		`[[]]`: "array ([])", `[{}]`: "object ({})", `[1,"a",null,[2],{}]`: "array ([2])", `[1,{"a":1},[2]]`: `object ({"a":1})`,
	} {
		check(t, "sh", one(text), "", told+" can not be escaped for shell")
	}
}
