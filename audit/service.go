package audit

import "tappet/api"

// service is what a call does to the book, that was answered so that it was done.
type service func(b *book, s api.Step)

// services are those that do something to the book, by their numbers.
func services() map[int]service {
	return map[int]service{
		api.SvShutdownOS:      (*book).shutdown,
		api.SvActivateTask:    (*book).activate,
		api.SvTerminateTask:   (*book).terminate,
		api.SvChainTask:       (*book).chain,
		api.SvGetResource:     (*book).get,
		api.SvReleaseResource: (*book).release,
		api.SvSetRelAlarm:     (*book).setRel,
		api.SvSetAbsAlarm:     (*book).setAbs,
		api.SvCancelAlarm:     (*book).cancel,
		api.SvSendMessage:     (*book).send,
		api.SvReceiveMessage:  (*book).receive,
		api.SvInitMessage:     (*book).empty,
	}
}

func (b *book) call(s api.Step, status api.Status) {
	do, known := b.services[s.Service]
	if known && isDone(s.Service, status) {
		do(b, s)
	}
}

// isDone: a call that is answered so was done. (A receipt gives a value also where it tells that others were lost.)
func isDone(service int, status api.Status) bool {
	return status == api.EOK || service == api.SvReceiveMessage && status == api.EComLimit
}
