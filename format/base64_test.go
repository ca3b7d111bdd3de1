package format_test

import (
	"strings"
	"testing"
)

// P13.2: base64 and base64d

func TestBase64(t *testing.T) {
	for text, want := range map[string]string{
		`""`: "", `"f"`: "Zg==", `"fo"`: "Zm8=", `"foo"`: "Zm9v", `"foob"`: "Zm9vYg==", `"fooba"`: "Zm9vYmE=", `"foobar"`: "Zm9vYmFy", // RFC 4648
		`"hi"`: "aGk=", `"é"`: "w6k=", `"\u0000"`: "AA==", `"\u0000\u0000\u0000"`: "AAAA", `"~~>>??"`: "fn4+Pj8/", `"\ufffd"`: "77+9",
		`null`: "bnVsbA==", `12`: "MTI=", `[1,"a"]`: "WzEsImEiXQ==",
	} {
		check(t, "base64", one(text), want, "")
	}
}

func TestBase64d(t *testing.T) {
	for text, want := range map[string]string{
		"": "", "=": "", "==": "", "aGk=": "hi", "aGk": "hi", "aGk==": "hi", "Zg==": "f", "Zg=": "f", "Zg": "f", "Zm9v": "foo", "Zm9v=": "foo", "Zm9v==": "foo", "Zm9vYg": "foob",
		"w6k=": "é", "fn4+Pj8/": "~~>>??", "AA": "\x00",
		// Bits at the end that make no byte are left out.
		"Zh==": "f", "Zv": "f", "Zm9vYW": "fooa", "Zm+": "fo", "Zm//": "fo\ufffd",
		// Bad bytes are replaced, each by itself.
		"/w==": "\ufffd", "//79": "\ufffd\ufffd\ufffd", "4oI=": "\ufffd\ufffd", "YeKCYg==": "a\ufffd\ufffdb", "7aCA": "\ufffd\ufffd\ufffd", "77+9": "\ufffd",
	} {
		check(t, "base64d", str(text), want, "")
	}
	check(t, "base64d", one("1234"), "\ufffdm\ufffd", "")
	check(t, "base64d", one("null"), "\ufffd\ufffde", "")
	check(t, "base64d", one("true"), "\ufffd\ufffd\ufffd", "")
}

func TestNoBase64(t *testing.T) {
	const signs = "ABCDEFGHIJKLMNOPQRSTUVWXYZabcdefghijklmnopqrstuvwxyz0123456789+/"
	for _, text := range []string{"a", "a=", "a==", "abcde", "abcde=", "===", "aGk===", "=aGk", "aG=k", "a=Gk", "Zg==Zg==", "Zm9v\n", "Zm9v ", " Zm9v", "Zm-v", "Zm_v", "Zm9vé", "é", "é===", "\x00", "Z\x00==", "Zg,="} {
		check(t, "base64d", str(text), "", told(str(text))+" is not valid base64 data")
	}
	for c := range rune(256) {
		s := "Zm" + string(c) + "v"
		if strings.ContainsRune(signs, c) {
			formatted(t, "base64d", str(s))
		} else {
			failing(t, "base64d", str(s))
		}
	}
	for text, told := range map[string]string{
		`1`: "number (1)", `12345`: "number (12345)", `false`: "boolean (false)", `-1.5`: "number (-1.5)", `[]`: "array ([])", `["Zg"]`: `array (["Zg"])`, `{"a":1}`: `object ({"a":1})`, `"abcdefghijklmnopqrstuvwxyz!"`: `string ("abcdefghijklmnopqrst...)`,
	} {
		check(t, "base64d", one(text), "", told+" is not valid base64 data")
	}
}
