/- What find of package frag hands back of a pool that is not full and a name that is not bad: its group, among the others. -/
import Derived.Test.YtgodjaffmojhlaaDoorPoolAdd3
namespace Go.Proofs.YtgodjaffmojhlaaDoor
open Go.RowKit Go.Maps
set_option linter.unusedVariables false

/-- The group of a name, which began now if there was none, among the others. -/
structure Found (F : Nat → Prop) (pb mb : Nat) (s : Po) (n : Nm) (now : Int) (w w' : World) (g : Gb) (g1 g2 : List Gb) (s' : Po) : Prop where
  pool : PoolIn w' (Plus F w w') pb s' mb (g1 ++ g :: g2)
  grp : g.h = orNew (getH s.l n) n now
  life : s'.life = s.life
  time : s'.now = s.now
  set : ∀ x : Hp, x.name = n → setH s.l x = g1.map Gb.h ++ x :: g2.map Gb.h
  del : delH s.l n = (g1 ++ g2).map Gb.h
  turn : Turn F w w'
set_option maxRecDepth 100000 in
theorem find_ok (F : Nat → Prop) (pb mb : Nat) (s : Po) (gs : List Gb) (n : Nm) (now : Int) (w : World) (h : PoolIn w F pb s mb gs) (hF : ∀ k, F k → k < w.heap.size) (hn : NmOk n) (hnow : 0 ≤ now ∧ now ≤ 1000000) (hf : ¬ (getH s.l n = none ∧ 8 ≤ s.l.length)) (hb : (orNew (getH s.l n) n now).bad = false) :
    Calls Tryd.prog 22 #[ptrV pb, nmV n, .int .i64 now] w fun e w' => ∃ g g1 g2 s', e = .returned (.tuple #[ptrV g.b, .nilIface]) ∧ Found F pb mb s n now w w' g g1 g2 s' := by
  rcases hx : getH s.l n with _ | y
  · rw [hx] at hb hf
    have h8 : ¬ 8 ≤ s.l.length := fun h8 => hf ⟨rfl, h8⟩
    refine (find_new F pb mb s gs n now w h hF hn hx h8 hnow).mono ?_
    rintro e w' ⟨b, m, rfl, hin, htr⟩
    refine ⟨newGb n now b m, gs, [], _, rfl, hin, by rw [hx]; rfl, rfl, rfl, fun x hxn => ?_, ?_, htr⟩
    · rw [setH_new (by rw [hxn]; exact hx), h.list]; rfl
    · rw [List.append_nil, h.list]
      exact List.filter_eq_self.2 (fun x hxm => decide_eq_true (getH_none hx x hxm))
  · rw [hx] at hb
    have hyb : y.bad = false := hb
    obtain ⟨g, hg, hgy, hgn⟩ := find_mem h hx
    obtain ⟨g1, g2, rfl⟩ := List.append_of_mem hg
    refine (find_good F pb mb s (g1 ++ g :: g2) g n now w h hF hn hg hgn (by rw [hgy]; exact hyb)).mono ?_
    rintro e w' ⟨rfl, hbw⟩
    have hl := h.list
    have ha := h.ok.apart
    rw [← hl, List.map_append, List.map_cons] at ha
    rw [List.map_append, List.map_cons] at hl
    refine ⟨g, g1, g2, s, rfl, (h.below hF hbw).mono (fun k hk => .inl hk), by rw [hx, hgy]; rfl, rfl, rfl, fun x hxn => ?_, ?_, Turn.of_below hbw F⟩
    · rw [← hl]; exact setH_mid ha (hxn.trans hgn.symm)
    · rw [← hl, ← hgn, delH_mid ha, List.map_append]
end Go.Proofs.YtgodjaffmojhlaaDoor
