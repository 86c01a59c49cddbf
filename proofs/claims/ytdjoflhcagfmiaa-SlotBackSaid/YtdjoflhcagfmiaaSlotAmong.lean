/-
  Whether a record is among some, as the statements ask it.
  Conditions: none.
-/
import Derived.Test.YtdjoflhcagfmiaaSlotAlive
import Derived.StillTailTactics
set_option linter.unusedVariables false
set_option linter.unusedSimpArgs false
set_option maxRecDepth 100000
namespace Go.Proofs.Ytdjoflhcagfmiaa
open Go.RowKit

set_option maxHeartbeats 1000000 in
theorem among6 (v y : Value) (rs : List Rc) (r : Rc) (w : World) (h : RecsIn w w.heap.size v rs) (hr : RcIn w w.heap.size y r) (hlm : rs.length ≤ 100) :
    Calls Try.prog 23 #[v, y] w fun e w' => e = .returned (.bool (decide (r ∈ rs))) ∧ Below w.heap.size w w' := by
  have H := Lib.hid h
  have R := Lib.hid hr
  obtain ⟨A, cap, rfl, hmx, -⟩ := h
  obtain ⟨u1, rfl, t1⟩ := hr
  obtain ⟨A1, k1, q1, h1⟩ : ∃ A n c, u1 = .slice A n c := by obtain ⟨A, c, e, _⟩ := t1; exact ⟨A, _, c, e⟩
  subst h1
  have hq := heap_alloc_self w (.cells #[.int .u32 (r.1 : Int), .slice A1 k1 q1] 36)
  have hqb := below_new w (.cells #[.int .u32 (r.1 : Int), .slice A1 k1 q1] 36)
  clear t1 hmx
  go_enter Try.func23, Try.ntmps23
  go_wp2_with fail
  generalize w.alloc (.cells #[.int .u32 (r.1 : Int), .slice A1 k1 q1] 36) = q at hq hqb ⊢
  have Q := Lib.hid hq
  have QB := Lib.hid hqb
  clear hq hqb
  go_loopw [5] (fun s5 wr => ∃ i : Nat, i ≤ rs.length ∧ s5 = .int .i64 i ∧ (∀ j, j < i → ∀ x, rs[j]? = some x → x ≠ r) ∧ Below q.heap.size q wr) (fun s5 _ => rs.length - (intOf s5).toNat)
  case atStart => exact ⟨0, Nat.zero_le _, rfl, fun j hj => by omega, Below.refl _ _⟩
  case round =>
    obtain ⟨i, hi, rfl, hne, hb⟩ := hrel
    have HNE := Lib.hid hne
    have HB := Lib.hid hb
    have hbw := QB.out.trans (hb.mono QB.out.size)
    have HBW := Lib.hid hbw
    clear hne hb
    by_cases hlt : i < rs.length
    · have hlt' : (i : Int) < rs.length := by omega
      obtain ⟨b, off, u, rfl, hb0, hc0, hc1, ht⟩ := H.out.at hlt
      have hc0 := (hbw.cell (p := ⟨b, _, none⟩) hb0).trans hc0
      have hc1 := (hbw.cell (p := ⟨b, _, none⟩) hb0).trans hc1
      have HT := Lib.hid ((ht.below hbw).more hbw.size)
      obtain ⟨A5, k5, q5, h5⟩ : ∃ A n c, u = .slice A n c := by obtain ⟨A, c, e, _⟩ := ht; exact ⟨A, _, c, e⟩
      subst h5
      have hcr := (HB.out.block _ (heap_lt Q.out)).trans Q.out
      have HRI := Lib.hid ((R.out.below HBW.out).more HBW.out.size)
      have hget : rs[i]? = some rs[i] := List.getElem?_eq_getElem hlt
      have HGET := Lib.hid hget
      generalize rs[i] = x at hc0 HT HGET
      have C0 := Lib.hid hc0
      have C1 := Lib.hid hc1
      have CR := Lib.hid hcr
      clear hbw ht hget hc0 hc1 hcr
      go_wp2_with fail
      refine wp_region_still_tail 5 (by kernel_rfl) (by kernel_rfl) ?_
      change wpStill _ _ (World.drew wr) (fun a' => wpList _ _ _ _ a' (World.drew wr)) _ _
      have hc0 : wr.drew.cell? ⟨b, off + i * 2, none⟩ = some (.int .u32 (x.1 : Int)) := C0.out
      have hc1 : wr.drew.cell? ⟨b, off + i * 2 + 1, none⟩ = some (.slice A5 k5 q5) := C1.out
      have hcr : wr.drew.heap[w.heap.size]? = some (.cells #[.int .u32 (r.1 : Int), .slice A1 k1 q1] 36 (0, 0)) := CR.out
      obtain ⟨d0, d1⟩ := cell2_of hcr
      have HT2 : Hid (Txt wr.drew wr.drew.heap.size (.slice A5 k5 q5) x.2) := HT
      have HR2 : Hid (RcIn wr.drew wr.drew.heap.size (.agg #[.int .u32 (r.1 : Int), .slice A1 k1 q1]) r) := HRI
      have HB2 : Hid (Below q.heap.size q wr.drew) := Lib.hid HB.out.drew
      generalize wr.drew = v2 at hc0 hc1 d0 d1 HT2 HR2 HB2 ⊢
      clear hcr HB HT HRI C0 C1 CR
      simp only [List.take_succ_cons, List.take_zero, List.drop_succ_cons, List.drop_zero]
      repeat still_step
      refine wpStill_nil ?_
      clear hc0 hc1 d0 d1
      go_wp2_with fail
      refine (same6 _ _ x r v2 ⟨_, rfl, HT2.out⟩ HR2.out).mono ?_
      rintro e w3 ⟨rfl, b3⟩
      have B3 := Lib.hid (HB2.out.trans (b3.mono HB2.out.size))
      clear b3
      by_cases he : x = r
      · have hd : decide (x = r) = true := decide_eq_true he
        have hmem : r ∈ rs := by rw [← he]; exact List.mem_of_getElem? HGET.out
        have HM := Lib.hid (decide_eq_true hmem : decide (r ∈ rs) = true)
        rw [hd]
        clear he hd hmem
        go_wp2_with fail
        go_ret
        exact ⟨by rw [HM.out]; rfl, QB.out.trans (B3.out.mono QB.out.size)⟩
      · have hd : decide (x = r) = false := decide_eq_false he
        have HX := Lib.hid he
        rw [hd]
        clear he hd
        go_wp2_with fail
        go_roundw
        case measure => simp [intOf]; omega
        case rel =>
          refine ⟨i + 1, by omega, by go_num, fun j hj z hz => ?_, B3.out⟩
          rcases Nat.lt_or_ge j i with h | h
          · exact HNE.out j h z hz
          · obtain rfl : j = i := by omega
            rw [HGET.out] at hz
            cases hz
            exact HX.out
    · obtain rfl : i = rs.length := by omega
      have hlt' : ¬ (rs.length : Int) < rs.length := by omega
      have hmem : r ∉ rs := fun hm => by
        obtain ⟨j, hj⟩ := List.mem_iff_getElem?.1 hm
        exact HNE.out j (List.getElem?_eq_some_iff.1 hj).1 r hj rfl
      have HM := Lib.hid (decide_eq_false hmem : decide (r ∈ rs) = false)
      clear hmem hbw
      go_wp2_with fail
      go_ret
      exact ⟨by rw [HM.out]; rfl, HBW.out⟩
end Go.Proofs.Ytdjoflhcagfmiaa
