package schema

import (
	"slices"

	"tappet/api"
)

// Kinds answers the kinds of objects (P5.1).
func Kinds() []string {
	return []string{"OS", "APPMODE", "TASK", "ISR", "RESOURCE", "EVENT", "COUNTER", "ALARM", "MESSAGE"}
}

// Rows answers the table of attributes (P5.1).
func Rows() []api.Row {
	return []api.Row{
		{Object: "OS", Name: "STATUS", Want: api.WantWord, Words: []string{"STANDARD", "EXTENDED"}, Times: api.Maybe, Default: "EXTENDED"},
		{Object: "OS", Name: "STARTUPHOOK", Want: api.WantWord, Words: []string{"TRUE", "FALSE"}, Times: api.Maybe, Default: "FALSE"},
		{Object: "OS", Name: "ERRORHOOK", Want: api.WantWord, Words: []string{"TRUE", "FALSE"}, Times: api.Maybe, Default: "FALSE"},
		{Object: "OS", Name: "SHUTDOWNHOOK", Want: api.WantWord, Words: []string{"TRUE", "FALSE"}, Times: api.Maybe, Default: "FALSE"},
		{Object: "OS", Name: "PRETASKHOOK", Want: api.WantWord, Words: []string{"TRUE", "FALSE"}, Times: api.Maybe, Default: "FALSE"},
		{Object: "OS", Name: "POSTTASKHOOK", Want: api.WantWord, Words: []string{"TRUE", "FALSE"}, Times: api.Maybe, Default: "FALSE"},
		{Object: "OS", Name: "USEGETSERVICEID", Want: api.WantWord, Words: []string{"TRUE", "FALSE"}, Times: api.Maybe, Default: "FALSE"},
		{Object: "OS", Name: "USEPARAMETERACCESS", Want: api.WantWord, Words: []string{"TRUE", "FALSE"}, Times: api.Maybe, Default: "FALSE"},
		{Object: "OS", Name: "USERESSCHEDULER", Want: api.WantWord, Words: []string{"TRUE", "FALSE"}, Times: api.Maybe, Default: "TRUE"},
		{Object: "TASK", Name: "PRIORITY", Want: api.WantNumber, Lo: 0, Hi: 63, Times: api.Once},
		{Object: "TASK", Name: "SCHEDULE", Want: api.WantWord, Words: []string{"NON", "FULL"}, Times: api.Once},
		{Object: "TASK", Name: "ACTIVATION", Want: api.WantNumber, Lo: 1, Hi: 255, Times: api.Once},
		{Object: "TASK", Name: "AUTOSTART", Want: api.WantWord, Words: []string{"TRUE", "FALSE"}, Times: api.Once},
		{Object: "TASK", Under: [2]string{"AUTOSTART", "TRUE"}, Name: "APPMODE", Want: api.WantRef, Times: api.Any},
		{Object: "TASK", Name: "RESOURCE", Want: api.WantRef, Times: api.Any},
		{Object: "TASK", Name: "EVENT", Want: api.WantRef, Times: api.Any},
		{Object: "TASK", Name: "MESSAGE", Want: api.WantRef, Times: api.Any},
		{Object: "ISR", Name: "CATEGORY", Want: api.WantNumber, Lo: 1, Hi: 2, Times: api.Once},
		{Object: "ISR", Name: "PRIORITY", Want: api.WantNumber, Lo: 64, Hi: 127, Times: api.Once},
		{Object: "ISR", Name: "RESOURCE", Want: api.WantRef, Times: api.Any},
		{Object: "ISR", Name: "MESSAGE", Want: api.WantRef, Times: api.Any},
		{Object: "RESOURCE", Name: "RESOURCEPROPERTY", Want: api.WantWord, Words: []string{"STANDARD", "LINKED", "INTERNAL"}, Times: api.Once},
		{Object: "RESOURCE", Under: [2]string{"RESOURCEPROPERTY", "LINKED"}, Name: "LINKEDRESOURCE", Want: api.WantRef, Times: api.Once},
		{Object: "EVENT", Name: "MASK", Want: api.WantNumber, Lo: 1, Hi: 4294967295, Auto: true, Times: api.Maybe, Default: auto},
		{Object: "COUNTER", Name: "MAXALLOWEDVALUE", Want: api.WantNumber, Lo: 1, Hi: 2147483647, Times: api.Once},
		{Object: "COUNTER", Name: "TICKSPERBASE", Want: api.WantNumber, Lo: 1, Hi: 2147483647, Times: api.Once},
		{Object: "COUNTER", Name: "MINCYCLE", Want: api.WantNumber, Lo: 1, Hi: 2147483647, Times: api.Once},
		{Object: "ALARM", Name: "COUNTER", Want: api.WantRef, Times: api.Once},
		{Object: "ALARM", Name: "ACTION", Want: api.WantWord, Words: []string{"ACTIVATETASK", "SETEVENT", "ALARMCALLBACK"}, Times: api.Once},
		{Object: "ALARM", Under: [2]string{"ACTION", "ACTIVATETASK"}, Name: "TASK", Want: api.WantRef, Times: api.Once},
		{Object: "ALARM", Under: [2]string{"ACTION", "SETEVENT"}, Name: "TASK", Want: api.WantRef, Times: api.Once},
		{Object: "ALARM", Under: [2]string{"ACTION", "SETEVENT"}, Name: "EVENT", Want: api.WantRef, Times: api.Once},
		{Object: "ALARM", Under: [2]string{"ACTION", "ALARMCALLBACK"}, Name: "ALARMCALLBACKNAME", Want: api.WantText, Times: api.Once},
		{Object: "ALARM", Name: "AUTOSTART", Want: api.WantWord, Words: []string{"TRUE", "FALSE"}, Times: api.Once},
		{Object: "ALARM", Under: [2]string{"AUTOSTART", "TRUE"}, Name: "ALARMTIME", Want: api.WantNumber, Lo: 0, Hi: 2147483647, Times: api.Once},
		{Object: "ALARM", Under: [2]string{"AUTOSTART", "TRUE"}, Name: "CYCLETIME", Want: api.WantNumber, Lo: 0, Hi: 2147483647, Times: api.Once},
		{Object: "ALARM", Under: [2]string{"AUTOSTART", "TRUE"}, Name: "APPMODE", Want: api.WantRef, Times: api.Any},
		{Object: "MESSAGE", Name: "MESSAGEPROPERTY", Want: api.WantWord, Words: []string{"SEND_STATIC_INTERNAL", "RECEIVE_UNQUEUED_INTERNAL", "RECEIVE_QUEUED_INTERNAL"}, Times: api.Once},
		{Object: "MESSAGE", Under: [2]string{"MESSAGEPROPERTY", "SEND_STATIC_INTERNAL"}, Name: "CDATATYPE", Want: api.WantText, Words: []string{"uint8", "uint16", "uint32", "uint64"}, Times: api.Once},
		{Object: "MESSAGE", Under: [2]string{"MESSAGEPROPERTY", "RECEIVE_UNQUEUED_INTERNAL"}, Name: "SENDINGMESSAGE", Want: api.WantRef, Times: api.Once},
		{Object: "MESSAGE", Under: [2]string{"MESSAGEPROPERTY", "RECEIVE_UNQUEUED_INTERNAL"}, Name: "INITIALVALUE", Want: api.WantNumber, Lo: 0, Hi: 4294967295, Times: api.Maybe, Default: "0"},
		{Object: "MESSAGE", Under: [2]string{"MESSAGEPROPERTY", "RECEIVE_QUEUED_INTERNAL"}, Name: "SENDINGMESSAGE", Want: api.WantRef, Times: api.Once},
		{Object: "MESSAGE", Under: [2]string{"MESSAGEPROPERTY", "RECEIVE_QUEUED_INTERNAL"}, Name: "QUEUESIZE", Want: api.WantNumber, Lo: 1, Hi: 16, Times: api.Once},
		{Object: "MESSAGE", Name: "NOTIFICATION", Want: api.WantWord, Words: []string{"NONE", "ACTIVATETASK", "SETEVENT", "COMCALLBACK", "FLAG"}, Times: api.Maybe, Default: "NONE"},
		{Object: "MESSAGE", Under: [2]string{"NOTIFICATION", "ACTIVATETASK"}, Name: "TASK", Want: api.WantRef, Times: api.Once},
		{Object: "MESSAGE", Under: [2]string{"NOTIFICATION", "SETEVENT"}, Name: "TASK", Want: api.WantRef, Times: api.Once},
		{Object: "MESSAGE", Under: [2]string{"NOTIFICATION", "SETEVENT"}, Name: "EVENT", Want: api.WantRef, Times: api.Once},
		{Object: "MESSAGE", Under: [2]string{"NOTIFICATION", "COMCALLBACK"}, Name: "COMCALLBACKNAME", Want: api.WantText, Times: api.Once},
		{Object: "MESSAGE", Under: [2]string{"NOTIFICATION", "FLAG"}, Name: "FLAGNAME", Want: api.WantText, Times: api.Once},
	}
}

func known(kind string) bool { return slices.Contains(Kinds(), kind) }

// place is where attributes stand: right in the objects of a kind, or in the braces behind an attribute of theirs that has a word.
type place struct {
	object string
	under  [2]string
}

// inside is the place in the braces behind an attribute that has a word.
func inside(row api.Row, word string) place {
	return place{object: row.Object, under: [2]string{row.Name, word}}
}

// rowsAt answers the rows of the attributes that may stand at a place, in the table's order.
func rowsAt(table []api.Row, p place) []api.Row {
	var l []api.Row
	for _, row := range table {
		if row.Object == p.object && row.Under == p.under {
			l = append(l, row)
		}
	}
	return l
}
