/- What the law SyncBack of package portlaw2 returns, for every note, any bytes and any number: true. -/
import Derived.Test.YtbncegjnjlokmaaDoorSynRead
import Derived.Test.YtbncegjnjlokmaaDoorTold
namespace Go.Proofs.YtbncegjnjlokmaaDoor
open Go.RowKit
set_option linter.unusedVariables false

def factN : Nt := { what := 3, seq := 5, fl := zeroF }
theorem fact_ok : ntE factN = 0 := by decide
theorem fact_enc : encN factN = [6, 10] := by decide
theorem wrG_pos : ∀ (f : Nat) (z : Int), 0 < (wrG f z).length
  | 0, z => by simp [wrG]
  | f + 1, z => by simp only [wrG]; split <;> simp
theorem enc_pos {n : Nt} (h : ntE n = 0) : 0 < (encN n).length := by
  obtain ⟨l, hl, _⟩ := nums_head (ntE_ok h).1
  unfold encN
  rw [hl]
  simp only [flatW, List.length_append]
  have := wrG_pos 9 (zigI n.what)
  unfold wrL; omega
set_option maxRecDepth 100000 in
theorem wpList_load_ntg {w : World} {ops : Array Oper} {rest : List Oper} {o : Oper} {a : Act} {Q : Exit → Act → World → Prop} (hw : Region.wanted o (yielded ops a.tmps) = true) (d : Operand)
    (ho : o.op = .load 29 d) (b : Nat) (p : Nt) (hd : a.eval d = .pointer (some ⟨b, 0, none⟩)) (hn : NtAt w b p)
    (h : wpList Tryd.prog ops Q rest (a.put o.dst (.agg #[.int .i64 p.what, .int .i64 p.seq, .int .i64 p.fl.key.kind, .int .i64 p.fl.key.src, .int .i64 p.fl.key.frm, .int .i64 p.fl.key.dst, .int .i64 p.fl.key.too, .int .i64 p.fl.st, .int .i64 p.fl.unt, .int .i64 p.fl.stp, .int .i64 p.fl.h0, .int .i64 p.fl.h1, .int .i64 p.fl.w0, .int .i64 p.fl.w1, .bool p.fl.d0, .bool p.fl.d1, .int .i64 p.fl.num])) w) : wpList Tryd.prog ops Q (o :: rest) a w := by
  refine wpList_step fun K hK => ?_
  rw [if_pos hw]
  have hrun := hn.ldI
  unfold Oper.wp
  simp [execOp, ho, hd, hrun, Result.andThen]
  exact hK _ _ h
theorem erv_told (e : Int) : ErrVal (errV e) e := by
  unfold errV ErrVal
  by_cases h : e = 0
  · rw [if_pos h]; exact .inl ⟨rfl, h⟩
  · rw [if_neg h]; exact .inr rfl
theorem view_own {w : World} {base g cap : Nat} {zs : List Int} (own : OwnB w base (.slice (some ⟨g, 0, none⟩) zs.length cap) zs) (k : Nat) (hk : k ≤ zs.length) (h62 : zs.length < 2 ^ 62) : Bytes w (.slice (some ⟨g, 0, none⟩) k cap) (zs.take k) := by
  rcases own.bytes h62 with ⟨rfl, a, c, e, _⟩ | ⟨b, off, len, cap', e, hl, hm, _, hz, hr⟩
  · obtain rfl : k = 0 := by simpa using hk
    exact .inl ⟨rfl, _, _, rfl, fun h => by cases h⟩
  · cases e
    exact view_take hr hz hl hm h62 k (by omega)
end Go.Proofs.YtbncegjnjlokmaaDoor
