package names

import (
	"slices"

	"tappet/api"
)

// sentWord is the MESSAGEPROPERTY of a message that is sent.
const sentWord = "SEND_STATIC_INTERNAL"

// The words of attributes stand in lists at the places of what they mean, so that one list is read both ways.

func resourceWords() []string {
	return []string{api.ResStandard: "STANDARD", api.ResLinked: "LINKED", api.ResInternal: "INTERNAL"}
}

func messageWords() []string {
	return []string{api.MsgSend: sentWord, api.MsgUnqueued: "RECEIVE_UNQUEUED_INTERNAL", api.MsgQueued: "RECEIVE_QUEUED_INTERNAL"}
}

func lengthWords() []string {
	return []string{1: "uint8", 2: "uint16", 4: "uint32", 8: "uint64"}
}

func alarmWords() []string {
	return []string{api.ActTask: "ACTIVATETASK", api.ActEvent: "SETEVENT", api.ActCallback: "ALARMCALLBACK"}
}

func noticeWords() []string {
	return []string{api.ActNone: "NONE", api.ActTask: "ACTIVATETASK", api.ActEvent: "SETEVENT", api.ActCallback: "COMCALLBACK", api.ActFlag: "FLAG"}
}

// wordAt answers the word of a number, or an empty one, which no attribute has.
func wordAt[K ~int](words []string, k K) string {
	if k < 0 || int(k) >= len(words) {
		return ""
	}
	return words[k]
}

// placeOf answers the number of a word that is among some.
func placeOf[K ~int](words []string, word string) K { return K(slices.Index(words, word)) }

// entry answers the first of some entries that has a name, or a zero one.
func entry(l []api.Entry, name string) api.Entry {
	for _, e := range l {
		if e.Name == name {
			return e
		}
	}
	return api.Entry{}
}

func word(l []api.Entry, name string) string { return entry(l, name).Word }

func number(l []api.Entry, name string) uint32 { return entry(l, name).Number }

func flag(l []api.Entry, name string) bool { return word(l, name) == "TRUE" }

func params(l []api.Entry, name string) []api.Entry { return entry(l, name).Params }
