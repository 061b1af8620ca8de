
import Derived.Test.YtjooabgjkjnhhaaGreatDoorV24H
import Derived.Test.YtjooabgjkjnhhaaGreatDoorV24I
import Derived.Test.YtjooabgjkjnhhaaGreatDoorV24J
import Derived.Test.YtjooabgjkjnhhaaGreatDoorV24M
/-! The code's four contracts (landed at b849f55). -/
namespace Go.Proofs.YtjooabgjkjnhhaaGreatDoor
open Go.RowKit
theorem tokOf : Tok where
  put := fun t io ic lo lc w h _ => put_any t io ic lo lc w h
  get := fun ao cap b w hb hc hn hbig => get_any ao cap b w hb hc hn hbig
  narrow := fun t c io ic lo lc w h hl hc => narrow_any t c io ic lo lc w h hl hc
  issue := fun N M w g b vs l h hb key io ic id hi hc hn hbig => issue_any N M w g b vs l h hb key io ic id hi hc hn hbig
end Go.Proofs.YtjooabgjkjnhhaaGreatDoor
