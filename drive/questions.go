package drive

import (
	"portcullis/api"
	"portcullis/rom"
)

// What is asked of a rom, kind by kind. With an error a rom tells nothing beside it, so no answer does.

func read(r *rom.Rom, s api.Step) api.Answer {
	v, e := r.Read(s.N)
	return api.Answer{E: e, V: v}
}

func bump(r *rom.Rom, s api.Step) api.Answer {
	v, e := r.Bump(s.N)
	return api.Answer{E: e, V: v}
}

func bumpTo(r *rom.Rom, s api.Step) api.Answer {
	return api.Answer{E: r.BumpTo(s.N, s.V)}
}

func revoke(r *rom.Rom, s api.Step) api.Answer {
	return api.Answer{E: r.Revoke(s.N)}
}

func revoked(r *rom.Rom, s api.Step) api.Answer {
	is, e := r.Revoked(s.N)
	return api.Answer{E: e, Is: is}
}

func boot(r *rom.Rom, s api.Step) api.Answer {
	x, e := r.Boot(s.Bytes)
	return api.Answer{E: e, V: x.Version}
}

func confirm(r *rom.Rom, _ api.Step) api.Answer {
	return api.Answer{E: r.Confirm()}
}

func stage(r *rom.Rom, s api.Step) api.Answer {
	return api.Answer{E: r.Stage(s.Bytes)}
}

// start tells the digest out of the event that was added: the bytes that were started are the rom's alone.
func start(r *rom.Rom, _ api.Step) api.Answer {
	x, _, e := r.Start()
	if e != api.OK {
		return api.Answer{E: e}
	}
	l := r.Events()
	return api.Answer{V: x.Version, Hash: l[len(l)-1].Digest}
}

func quote(r *rom.Rom, s api.Step) api.Answer {
	return api.Answer{Hash: r.Quote(s.Bytes)}
}
