/-
  The document's own functions Through and Out of package track.
  Conditions: none.
-/
import Derived.Test.YtnhglgpmmipjaaaTrkRefD
set_option linter.unusedVariables false
set_option linter.unusedSimpArgs false
set_option maxRecDepth 100000
namespace Go.Proofs.Ytnhglgpmmipjaaa
open Go.RowKit

def thrE (s : Sec) (a b : Int) : Int := if shapedB s then (if lieS s.2.1 a b < 0 then 2 else 0) else 8
def thrL (s : Sec) (a b : Int) : Int := if thrE s a b = 0 then lieS s.2.1 a b else 0
/-- The first end to which a way leads, whose lie is that one. -/
def outT (s : Sec) (a lie : Int) : Option Nat := (List.range s.2.2.length).find? fun t => decide (lieS s.2.1 a (t : Int) = lie)
def outE (s : Sec) (a lie : Int) : Int := if shapedB s then (if lie < 0 then 2 else match outT s a lie with | none => 2 | some _ => 0) else 8
def outV (s : Sec) (a lie : Int) : Int := if outE s a lie = 0 then (match outT s a lie with | none => 0 | some t => (t : Int)) else 0
theorem outT_none {s : Sec} {a lie : Int} (h : ∀ t, t < s.2.2.length → lieS s.2.1 a (t : Int) ≠ lie) : outT s a lie = none := by
  rw [outT, List.find?_eq_none]
  intro t ht
  simpa using h t (List.mem_range.1 ht)
theorem outT_some {s : Sec} {a lie : Int} {t : Nat} (ht : t < s.2.2.length) (he : lieS s.2.1 a (t : Int) = lie) (h : ∀ j, j < t → lieS s.2.1 a (j : Int) ≠ lie) : outT s a lie = some t := by
  rw [outT]
  have hr : List.range s.2.2.length = List.range t ++ t :: (List.range' (t + 1) (s.2.2.length - t - 1)) := by
    rw [List.range_eq_range', List.range_eq_range', show s.2.2.length = t + (1 + (s.2.2.length - t - 1)) from by omega, ← List.range'_append_1, Nat.zero_add, Nat.add_comm 1, List.range'_succ]
    congr 3
    omega
  rw [hr, List.find?_append, List.find?_eq_none.2 (fun x hx => by simpa using h x (List.mem_range.1 hx)), Option.none_or, List.find?_cons_of_pos (by simpa using he)]

theorem rthrough_any (v : Value) (s : Sec) (a b : Int) (w : World) (h : SecV w w.heap.size v s) :
    Calls Try.prog 24 #[v, .int .i64 a, .int .i64 b] w fun e w' => e = .returned (.tuple #[.int .i64 (thrL s a b), .int .i64 (thrE s a b)]) ∧ Below w.heap.size w w' := by
  have H := Lib.hid h
  obtain ⟨u, rfl, hu⟩ := h
  obtain ⟨A, c, rfl, -, -⟩ := hu.slice
  clear hu
  obtain ⟨id, pt, l⟩ := s
  dsimp only at H ⊢
  have hq0 := heap_alloc_self w (.cells #[.int .i64 id, .int .i64 pt, .slice A l.length c] 33)
  have hqb := below_new w (.cells #[.int .i64 id, .int .i64 pt, .slice A l.length c] 33)
  go_enter Try.func24, Try.ntmps24
  go_wp2_with fail
  generalize w.alloc (.cells #[.int .i64 id, .int .i64 pt, .slice A l.length c] 33) = q at hq0 hqb ⊢
  have X0 := Lib.hid hq0
  have QB := Lib.hid hqb
  clear hq0 hqb
  refine (rshaped_any _ (id, pt, l) q ((H.out.below QB.out).more QB.out.size)).mono ?_
  rintro e w1 ⟨rfl, b1⟩
  have B1 := Lib.hid (QB.out.trans (b1.mono QB.out.size))
  obtain ⟨k0, k1, k2⟩ := cell3_of ((b1.block _ (heap_lt X0.out)).trans X0.out)
  clear b1
  cases hs : shapedB (id, pt, l) with
  | false =>
    have hE : thrE (id, pt, l) a b = 8 := by rw [thrE, hs]; rfl
    have hL : thrL (id, pt, l) a b = 0 := by rw [thrL, hE]; rfl
    have HE := Lib.hid hE
    have HL := Lib.hid hL
    clear hs hE hL
    go_wp2_with fail
    refine bodyPost_ret (results_tmp2 rfl _ _ _) rfl ?_
    exact ⟨by rw [HE.out, HL.out]; rfl, B1.out⟩
  | true =>
    have hE : thrE (id, pt, l) a b = if lieS pt a b < 0 then 2 else 0 := by rw [thrE, hs]; rfl
    have hL : thrL (id, pt, l) a b = if thrE (id, pt, l) a b = 0 then lieS pt a b else 0 := rfl
    clear hs
    have HE0 := Lib.hid hE
    have HL0 := Lib.hid hL
    clear hE hL
    go_wp2_with fail
    refine (rlie_any _ (id, pt, l) a b w1 ((H.out.below B1.out).more B1.out.size)).mono ?_
    rintro e w2 ⟨rfl, b2⟩
    have B2 := Lib.hid (B1.out.trans (b2.mono B1.out.size))
    clear b2 k0 k1 k2
    dsimp only
    by_cases hz : lieS pt a b < 0
    · have hE : thrE (id, pt, l) a b = 2 := by rw [HE0.out, if_pos hz]
      have hL : thrL (id, pt, l) a b = 0 := by rw [HL0.out, hE]; rfl
      have HE := Lib.hid hE
      have HL := Lib.hid hL
      clear hE hL
      generalize lieS pt a b = z at hz ⊢
      go_wp2_with fail
      refine bodyPost_ret (results_tmp2 rfl _ _ _) rfl ?_
      exact ⟨by rw [HE.out, HL.out]; rfl, B2.out⟩
    · have hE : thrE (id, pt, l) a b = 0 := by rw [HE0.out, if_neg hz]
      have hL : thrL (id, pt, l) a b = lieS pt a b := by rw [HL0.out, hE, if_pos rfl]
      have HE := Lib.hid hE
      have HL := Lib.hid hL
      clear hE hL
      go_wp2_with fail
      refine bodyPost_ret (results_tmp2 rfl _ _ _) rfl ?_
      exact ⟨by rw [HE.out, HL.out]; rfl, B2.out⟩

theorem rout_any (v : Value) (s : Sec) (a lie : Int) (w : World) (h : SecV w w.heap.size v s) :
    Calls Try.prog 25 #[v, .int .i64 a, .int .i64 lie] w fun e w' => e = .returned (.tuple #[.int .i64 (outV s a lie), .int .i64 (outE s a lie)]) ∧ Below w.heap.size w w' := by
  have H := Lib.hid h
  obtain ⟨u, rfl, hu⟩ := h
  obtain ⟨A, c, rfl, -, hum⟩ := hu.slice
  clear hu
  obtain ⟨id, pt, l⟩ := s
  dsimp only at H ⊢
  obtain ⟨n, hn⟩ : ∃ n, n = l.length := ⟨_, rfl⟩
  have HN := Lib.hid hn
  have hnm : n ≤ 9223372036854775807 := by obtain ⟨u', e, hu'⟩ := H.out; obtain ⟨A', c', e', h1, h2⟩ := hu'.slice; dsimp only at h1; unfold maxLen at h2; omega
  rw [← hn] at H ⊢
  clear hn hum
  have hq0 := heap_alloc_self w (.cells #[.int .i64 id, .int .i64 pt, .slice A n c] 33)
  have hqb := below_new w (.cells #[.int .i64 id, .int .i64 pt, .slice A n c] 33)
  go_enter Try.func25, Try.ntmps25
  go_wp2_with fail
  generalize w.alloc (.cells #[.int .i64 id, .int .i64 pt, .slice A n c] 33) = q at hq0 hqb ⊢
  have X0 := Lib.hid hq0
  have QB := Lib.hid hqb
  clear hq0 hqb
  refine (rshaped_any _ (id, pt, l) q ((H.out.below QB.out).more QB.out.size)).mono ?_
  rintro e w1 ⟨rfl, b1⟩
  have B1 := Lib.hid (QB.out.trans (b1.mono QB.out.size))
  have X1 := Lib.hid ((b1.block _ (heap_lt X0.out)).trans X0.out)
  clear b1
  have FIN : Hid (∀ (E V : Int) (o : Ending), o = .returned (.tuple #[.int .i64 V, .int .i64 E]) → outE (id, pt, l) a lie = E → outV (id, pt, l) a lie = V → o = .returned (.tuple #[.int .i64 (outV (id, pt, l) a lie), .int .i64 (outE (id, pt, l) a lie)])) := Lib.hid (fun E V o h1 h2 h3 => by rw [h1, h2, h3])
  have NOV : Hid (outE (id, pt, l) a lie ≠ 0 → outV (id, pt, l) a lie = 0) := Lib.hid (fun h => by rw [outV, if_neg h])
  cases hs : shapedB (id, pt, l) with
  | false =>
    have HE : Hid (outE (id, pt, l) a lie = 8) := Lib.hid (by rw [outE, hs]; rfl)
    have HV := Lib.hid (NOV.out (by rw [HE.out]; decide))
    clear hs
    go_wp2_with fail
    refine bodyPost_ret (results_tmp2 rfl _ _ _) rfl ?_
    exact ⟨FIN.out 8 0 _ rfl HE.out HV.out, B1.out⟩
  | true =>
    have HE0 : Hid (outE (id, pt, l) a lie = if lie < 0 then 2 else match outT (id, pt, l) a lie with | none => 2 | some _ => 0) := Lib.hid (by rw [outE, hs]; rfl)
    clear hs
    by_cases hl : lie < 0
    · have HE : Hid (outE (id, pt, l) a lie = 2) := Lib.hid (by rw [HE0.out, if_pos hl])
      have HV := Lib.hid (NOV.out (by rw [HE.out]; decide))
      go_wp2_with fail
      refine bodyPost_ret (results_tmp2 rfl _ _ _) rfl ?_
      exact ⟨FIN.out 2 0 _ rfl HE.out HV.out, B1.out⟩
    · have HE1 := Lib.hid (HE0.out.trans (if_neg hl))
      go_wp2_with fail
      go_loopw [8] (fun s8 wr => ∃ t : Nat, t ≤ n ∧ s8 = .int .i64 t ∧ (∀ j, j < t → lieS pt a (j : Int) ≠ lie) ∧ wr.heap[w.heap.size]? = some (.cells #[.int .i64 id, .int .i64 pt, .slice A n c] 33 (0, 0)) ∧ Below w.heap.size w wr) (fun s8 _ => n - (intOf s8).toNat)
      case atStart => exact ⟨0, by omega, by go_num, fun j hj => absurd hj (by omega), X1.out, B1.out⟩
      case round =>
        obtain ⟨t, ht, rfl, hall, hx, hb⟩ := hrel
        have HALL := Lib.hid hall
        have XR := Lib.hid hx
        have BW := Lib.hid hb
        clear hall hx hb
        obtain ⟨k0, k1, k2⟩ := cell3_of XR.out
        by_cases hlt : t < n
        · have hlt' : (t : Int) < n := by omega
          go_wp2_with fail
          refine (rlie_any _ (id, pt, l) a (t : Int) wr ((H.out.below BW.out).more BW.out.size)).mono ?_
          rintro e w2 ⟨rfl, b2⟩
          have B2 := Lib.hid (BW.out.trans (b2.mono BW.out.size))
          have XS := Lib.hid ((b2.block _ (heap_lt XR.out)).trans XR.out)
          clear b2 k0 k1 k2
          dsimp only
          obtain ⟨z, hz⟩ : ∃ z, z = lieS pt a (t : Int) := ⟨_, rfl⟩
          rw [← hz]
          have HZ := Lib.hid hz
          clear hz
          by_cases he : z = lie
          · have hT : outT (id, pt, l) a lie = some t := outT_some (by rw [← HN.out]; exact hlt) (by rw [← HZ.out]; exact he) HALL.out
            have HE : Hid (outE (id, pt, l) a lie = 0) := Lib.hid (by rw [HE1.out, hT])
            have HV : Hid (outV (id, pt, l) a lie = (t : Int)) := Lib.hid (by rw [outV, HE.out, if_pos rfl, hT])
            clear hT
            go_wp2_with fail
            refine bodyPost_ret (results_tmp2 rfl _ _ _) rfl ?_
            exact ⟨FIN.out 0 (t : Int) _ rfl HE.out HV.out, B2.out⟩
          · have HNX : Hid (∀ j, j < t + 1 → lieS pt a (j : Int) ≠ lie) := Lib.hid (fun j hj => by
              rcases Nat.lt_or_ge j t with h | h
              · exact HALL.out j h
              · obtain rfl : j = t := by omega
                rw [← HZ.out]; exact he)
            go_wp2_with fail
            go_roundw
            case measure => simp [intOf]; omega
            case rel => exact ⟨t + 1, by omega, by go_num, HNX.out, XS.out, B2.out⟩
        · obtain rfl : t = n := by omega
          have hlt' : ¬ (t : Int) < t := by omega
          have hT : outT (id, pt, l) a lie = none := outT_none fun j hj => HALL.out j (by rw [HN.out]; exact hj)
          have HE : Hid (outE (id, pt, l) a lie = 2) := Lib.hid (by rw [HE1.out, hT])
          have HV := Lib.hid (NOV.out (by rw [HE.out]; decide))
          clear hT
          go_wp2_with fail
          refine bodyPost_ret (results_tmp2 rfl _ _ _) rfl ?_
          exact ⟨FIN.out 2 0 _ rfl HE.out HV.out, BW.out⟩
end Go.Proofs.Ytnhglgpmmipjaaa
