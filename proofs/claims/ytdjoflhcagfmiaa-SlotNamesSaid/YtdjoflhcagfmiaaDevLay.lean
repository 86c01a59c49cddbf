/-
  A piece laid on a sector of the call's own.
  Conditions: the piece is no longer than the sector.
-/
import Derived.Test.YtdjoflhcagfmiaaDevSame
import Derived.Laws.CopyOwn
set_option linter.unusedVariables false
set_option linter.unusedSimpArgs false
set_option maxRecDepth 100000
namespace Go.Proofs.Ytdjoflhcagfmiaa
open Go.RowKit

theorem infoByte1 : (Try.prog.info? 5).map (·.size) = some 1 := by kernel_rfl
theorem grownBy_setRow (w : World) (g : Nat) (cs : Array Value) : w.grownBy (w.setRow g cs) (some g) :=
  ⟨rfl, rfl, rfl, by simp [World.setRow], fun b _ hb => setRow_other _ _ _ _ (fun e => hb (by rw [e]))⟩
theorem wpList_copy_lay {P : Program} {w : World} {ops : Array Oper} {rest : List Oper} {o : Oper} {a : Act} {Q : Exit → Act → World → Prop} (hgd : o.guard = none) (d s : Operand) (dT sT : TypeId)
    (ho : o.op = .call { callee := .builtin .copy, args := #[d, s], argTypes := #[dT, sT] }) (elem : TypeId) (hu : P.underlying dT = some (.slice elem)) (hsz : (P.info? elem).map (·.size) = some 1)
    {B : Nat} {p : Bs} {u : Value} (g dCap : Nat) (hd : a.eval d = .slice (some ⟨g, 0, none⟩) p.length dCap) (hs : a.eval s = u) (hu2 : Txt w B u p)
    (cur : List Value) (t : TypeId) (hg : w.heap[g]? = some (.cells cur.toArray t (0, 0))) (hfit : p.length ≤ cur.length)
    (h : ∀ w', w'.heap[g]? = some (.cells (p.map u8 ++ cur.drop p.length).toArray t (0, 0)) → w.grownBy w' (some g) → wpList P ops Q rest (a.put o.dst (goInt p.length)) w') :
    wpList P ops Q (o :: rest) a w := by
  have H := hu2
  obtain ⟨A, cap, rfl, h1, h2, hn, h3⟩ := hu2
  by_cases h0 : p.length = 0
  · obtain rfl : p = [] := List.eq_nil_of_length_eq_zero h0
    refine wpList_copy_nothing hgd d s dT sT ho elem hu hsz _ A _ _ _ cap hd hs (by simp) ?_
    exact h w (by simpa using hg) (World.grownBy.refl w _)
  · obtain ⟨b, off, rfl, hb, hc⟩ := h3 (by omega)
    refine wpList_copy_own hgd d s dT sT ho elem hu hsz g 0 _ _ ⟨b, off, none⟩ _ cap hd hs cur.toArray t hg (p.map u8) (by simp) H.cells (by simpa using hfit) (u8s_oneCell p) ?_
    have := h (w.setRow g (p.map u8 ++ cur.drop p.length).toArray) (setRow_heap _ _ _ _ _ _ hg) (grownBy_setRow _ _ _)
    simpa using this

set_option maxHeartbeats 1000000 in
theorem lay_any (g cap lo : Nat) (s p : Bs) (pv : Value) (w : World) {B : Nat} (ho : w.ownsRow lo 5 1 (.slice (some ⟨g, 0, none⟩) s.length cap) s.length (s.map u8)) (hp : Txt w B pv p) (hl : p.length ≤ s.length) :
    Calls Try.prog 51 #[.slice (some ⟨g, 0, none⟩) s.length cap, pv] w fun e w' => (∃ v, e = .returned v) ∧ w'.ownsRow lo 5 1 (.slice (some ⟨g, 0, none⟩) s.length cap) s.length ((lay s p).map u8) ∧ w.grownBy w' (some g) := by
  have H := Lib.hid hp
  obtain ⟨A, c, rfl, -, -, -, -⟩ := hp
  rcases ho.2 with ⟨h, _⟩ | ⟨g', cap', cur, e, hlo, hgb, hle, hcm, hcs, htk⟩
  · cases h
  · cases e
    have h1 : (p.length : Int) ≤ cap := by omega
    have h0 : (0 : Int) ≤ p.length := by omega
    have G := Lib.hid hgb
    have K := Lib.hid (show lo ≤ g ∧ s.length ≤ cap ∧ cap ≤ maxLen ∧ cur.size = cap * 1 ∧ cur.toList.take (s.length * 1) = s.map u8 from ⟨hlo, hle, hcm, hcs, htk⟩)
    have HL := Lib.hid hl
    clear ho hlo hgb hle hcm hcs htk hl
    go_enter Try.func51, Try.ntmps51
    go_wp2_with (refine wpList_copy_lay (o := ⟨some 12, _, _, _, _, _⟩) rfl (.tmp 10) (.tmp 11) _ _ rfl 5 Try.underlying34 infoByte1 g _ rfl rfl H.out cur.toList 5 G.out (by have := K.out.2.2.2.1; have := K.out.2.1; have := HL.out; simp; omega) ?_; intro w1 hw1 hg1)
    go_end0
    refine ⟨⟨_, rfl⟩, ⟨by simp [lay]; have := HL.out; omega, .inr ⟨g, cap, _, rfl, K.out.1, hw1, K.out.2.1, K.out.2.2.1, ?_, ?_⟩⟩, hg1⟩
    · have := K.out; have := HL.out; simp; omega
    · have h1 := K.out.2.2.2.2
      have h2 := HL.out
      rw [Nat.mul_one] at h1 ⊢
      show (List.map u8 p ++ cur.toList.drop p.length).take s.length = _
      rw [List.take_append, List.length_map, List.take_of_length_le (by simp; omega), List.take_drop, show p.length + (s.length - p.length) = s.length from by omega, h1]
      simp [lay]
end Go.Proofs.Ytdjoflhcagfmiaa
