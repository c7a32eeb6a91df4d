/- What Check, fresh and measure of package wire return, for every input: Check's error, a copy of the bytes in a row of its own, how many bytes the packet has that bytes begin with. -/
import Derived.Test.YtiigoeecklelpaaDoorWirePut
namespace Go.Proofs.YtiigoeecklelpaaDoor
open Go.RowKit
set_option linter.unusedVariables false

/-- A packet as a value. -/
def pkV (p : Pk) (bv : Value) : Value := .agg #[.int .i64 p.kind, .int .i64 p.ttl, .int .i64 p.ident, .int .i64 p.src, .int .i64 p.dst, .int .i64 p.pos, .bool p.more, bv]
theorem len_body {w : World} {v : Value} {zs : List Int} (h : Bytes w v zs) : ∃ a c, v = .slice a zs.length c := by
  rcases h with ⟨rfl, a', c', h, _⟩ | ⟨b, off, len, cap, h, _, _, _, h5, _⟩
  · exact ⟨_, _, h⟩
  · exact ⟨_, _, by rw [h5]; exact h⟩

/-- An error: nil, or an Errno. -/
def errV (e : Int) : Value := if e = 0 then .nilIface else .iface 55 (.int .i64 e)
end Go.Proofs.YtiigoeecklelpaaDoor
