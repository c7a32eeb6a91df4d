/- What bytes.Equal returns, for any two rows of bytes. -/
import Derived.Test.YtbncegjnjlokmaaDoorMgC
import Derived.Laws.BytesArg
import Derived.Lib.Bytes
namespace Go.Proofs.YtbncegjnjlokmaaDoor
open Go.RowKit
set_option linter.unusedVariables false
theorem conv_bytesN {w : World} {v : Value} {zs : List Int} (h : Bytes w v zs) : (convert 30 9 v).run Tryd.prog w = .ok (.string (strOfNums zs)) w := by
  rcases h with ⟨rfl, a, cap, rfl, hn⟩ | ⟨b, off, len, cap, rfl, h2, h3, h4, h5, h6⟩
  · rw [run_convert_bytes_string w _ _ _ a 0 cap Tryd.underlying30 Tryd.underlying5 Tryd.underlying9]
    rcases a with _ | ad
    · simp [Conv.bytesToString, strOfNums, ByteArray.empty, ByteArray.emptyWithCapacity]
      rfl
    · have := run_bytesToString (P := Tryd.prog) w ad 0 cap [] (by simp [loadCells, loadCellsFrom])
      rw [this]; rfl
  · exact run_convert_bytes_arg (P := Tryd.prog) w _ _ Tryd.underlying30 Tryd.underlying5 b off len cap zs h5 (fun i hi => h6.1 i (by omega)) _ Tryd.underlying9
theorem byte_inj {a b : Int} (ha : 0 ≤ a ∧ a ≤ 255) (hb : 0 ≤ b ∧ b ≤ 255) (h : UInt8.ofNat a.toNat = UInt8.ofNat b.toNat) : a = b := by
  have e := congrArg UInt8.toNat h
  simp only [UInt8.toNat_ofNat'] at e
  omega
theorem nums_inj : ∀ (xs ys : List Int), (∀ x ∈ xs, 0 ≤ x ∧ x ≤ 255) → (∀ x ∈ ys, 0 ≤ x ∧ x ≤ 255) → (xs.map fun n => UInt8.ofNat n.toNat) = (ys.map fun n => UInt8.ofNat n.toNat) → xs = ys
  | [], [], _, _, _ => rfl
  | [], y :: ys, _, _, h => by simp at h
  | x :: xs, [], _, _, h => by simp at h
  | x :: xs, y :: ys, hx, hy, h => by
    simp only [List.map_cons, List.cons.injEq] at h
    have e1 := byte_inj (hx x (List.mem_cons_self)) (hy y (List.mem_cons_self)) h.1
    have e2 := nums_inj xs ys (fun z hz => hx z (List.mem_cons_of_mem _ hz)) (fun z hz => hy z (List.mem_cons_of_mem _ hz)) h.2
    rw [e1, e2]
theorem str_inj {xs ys : List Int} (hx : ∀ x ∈ xs, 0 ≤ x ∧ x ≤ 255) (hy : ∀ x ∈ ys, 0 ≤ x ∧ x ≤ 255) (h : strOfNums xs = strOfNums ys) : xs = ys := by
  refine nums_inj xs ys hx hy ?_
  have e := congrArg (fun s : ByteArray => s.data.toList) h
  exact e
theorem str_eq {xs ys : List Int} (hx : ∀ x ∈ xs, 0 ≤ x ∧ x ≤ 255) (hy : ∀ x ∈ ys, 0 ≤ x ∧ x ≤ 255) : ((strOfNums xs).toList == (strOfNums ys).toList) = decide (xs = ys) := by
  rw [Lib.strOfNums_toList, Lib.strOfNums_toList]
  by_cases h : xs = ys
  · subst h; simp
  · rw [decide_eq_false h]
    have hn : ¬ Lib.bytesOf xs = Lib.bytesOf ys := fun e => h (nums_inj xs ys hx hy e)
    simpa using hn
set_option maxRecDepth 100000 in
set_option maxHeartbeats 4000000 in
theorem eqB_any (v u : Value) (xs ys : List Int) (w : World) (hv : Bytes w v xs) (hu : Bytes w u ys) :
    Calls Tryd.prog 34 #[v, u] w fun e w' => e = .returned (.bool (decide (xs = ys))) ∧ w' = w := by
  have q := conv_bytesN hv
  have q' := conv_bytesN hu
  have HE : Hid (((strOfNums xs).toList == (strOfNums ys).toList) = decide (xs = ys)) := str_eq hv.byte hu.byte
  generalize decide (xs = ys) = r at HE ⊢
  generalize strOfNums xs = S at q HE
  generalize strOfNums ys = S' at q' HE
  clear hv hu
  go_enter Tryd.func34, Tryd.ntmps34
  go_wp2
  go_ret
  exact ⟨by rw [← HE.out]; rfl, rfl⟩
end Go.Proofs.YtbncegjnjlokmaaDoor
