/- What the law SyncBack of package portlaw2 returns, for every note, any bytes and any number: true. -/
import Derived.Test.YtbncegjnjlokmaaDoorSynRead
import Derived.Test.YtbncegjnjlokmaaDoorTold
namespace Go.Proofs.YtbncegjnjlokmaaDoor
open Go.RowKit
set_option linter.unusedVariables false

def factN : Nt := { what := 3, seq := 5, fl := zeroF }
theorem fact_ok : ntE factN = 0 := by decide
theorem fact_enc : encN factN = [6, 10] := by decide
theorem wrG_pos : ∀ (f : Nat) (z : Int), 0 < (wrG f z).length
  | 0, z => by simp [wrG]
  | f + 1, z => by simp only [wrG]; split <;> simp
theorem enc_pos {n : Nt} (h : ntE n = 0) : 0 < (encN n).length := by
  obtain ⟨l, hl, _⟩ := nums_head (ntE_ok h).1
  unfold encN
  rw [hl]
  simp only [flatW, List.length_append]
  have := wrG_pos 9 (zigI n.what)
  unfold wrL; omega
theorem erv_told (e : Int) : ErrVal (errV e) e := by
  unfold errV ErrVal
  by_cases h : e = 0
  · rw [if_pos h]; exact .inl ⟨rfl, h⟩
  · rw [if_neg h]; exact .inr rfl
theorem view_own {w : World} {base g cap : Nat} {zs : List Int} (own : OwnB w base (.slice (some ⟨g, 0, none⟩) zs.length cap) zs) (k : Nat) (hk : k ≤ zs.length) (h62 : zs.length < 2 ^ 62) : Bytes w (.slice (some ⟨g, 0, none⟩) k cap) (zs.take k) := by
  rcases own.bytes h62 with ⟨rfl, a, c, e, _⟩ | ⟨b, off, len, cap', e, hl, hm, _, hz, hr⟩
  · obtain rfl : k = 0 := by simpa using hk
    exact .inl ⟨rfl, _, _, rfl, fun h => by cases h⟩
  · cases e
    exact view_take hr hz hl hm h62 k (by omega)
end Go.Proofs.YtbncegjnjlokmaaDoor
