package format_test

import "testing"

// P13.2: html and uri

func TestHTML(t *testing.T) {
	for text, want := range map[string]string{
		`""`: "", `"a"`: "a", `"<"`: "&lt;", `">"`: "&gt;", `"&"`: "&amp;", `"'"`: "&#39;", `"\""`: "&quot;",
		`"<a href='x?y&z'>\"é\"</a>"`: "&lt;a href=&#39;x?y&amp;z&#39;&gt;&quot;é&quot;&lt;/a&gt;",
		`"&amp;&lt;"`:                 "&amp;amp;&amp;lt;",
		`"\u0000\t\n /;#\\"`:          "\x00\t\n /;#\\",
		// Of what is no string, its text.
		`null`: "null", `-1.5`: "-1.5", `["<",{"a":"'"}]`: "[&quot;&lt;&quot;,{&quot;a&quot;:&quot;&#39;&quot;}]",
	} {
		check(t, "html", one(text), want, "")
	}
}

func TestURI(t *testing.T) {
	for text, want := range map[string]string{
		`""`: "", `"é/ "`: "%C3%A9%2F%20", `"it's"`: "it%27s", `"-_.~"`: "-_.~", `"azAZ09"`: "azAZ09",
		`"@[` + "`" + `{/:"`:                "%40%5B%60%7B%2F%3A", // what stands beside letters and digits
		`"%20+=&?#!*()"`:                    "%2520%2B%3D%26%3F%23%21%2A%28%29",
		`"\u0000\u000a\u007f€\ud83d\ude00"`: "%00%0A%7F%E2%82%AC%F0%9F%98%80",
		`null`:                              "null", `-1.5`: "-1.5", `1e300`: "1e%2B300", `["a",{"b":1}]`: "%5B%22a%22%2C%7B%22b%22%3A1%7D%5D",
	} {
		check(t, "uri", one(text), want, "")
	}
}
