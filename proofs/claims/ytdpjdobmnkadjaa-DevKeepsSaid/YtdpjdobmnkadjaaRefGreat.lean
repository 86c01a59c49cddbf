/-
  The document's own functions: Great, with what it leaves.
  Conditions: each list is as long as a list may be that is read before the call.
-/
import Derived.Test.YtdpjdobmnkadjaaDevSized
import Derived.Test.YtdpjdobmnkadjaaDevAlive
import Derived.Test.YtdpjdobmnkadjaaRefToldM
set_option linter.unusedVariables false
set_option linter.unusedSimpArgs false
namespace Go.Proofs.Ytdpjdobmnkadjaa
open Go.RowKit

def sumS (ss : List Bs) : Nat := (ss.map List.length).sum
def sumW (ws : List Wr) : Nat := (ws.map fun x => x.2.length).sum
theorem sumS_snoc {ss : List Bs} {i : Nat} {s : Bs} (h : ss[i]? = some s) : sumS (ss.take (i + 1)) = sumS (ss.take i) + s.length := by
  rw [List.take_add_one, h]
  simp [sumS]
theorem sumW_snoc {ws : List Wr} {i : Nat} {x : Wr} (h : ws[i]? = some x) : sumW (ws.take (i + 1)) = sumW (ws.take i) + x.2.length := by
  rw [List.take_add_one, h]
  simp [sumW]
theorem sumS_mem : ∀ {ss : List Bs} {s : Bs}, s ∈ ss → s.length ≤ sumS ss
  | a :: ss, s, h => by
    simp only [sumS, List.map_cons, List.sum_cons]
    rcases List.mem_cons.1 h with rfl | h
    · omega
    · have := sumS_mem h
      unfold sumS at this
      omega
theorem sumW_mem : ∀ {ws : List Wr} {x : Wr}, x ∈ ws → x.2.length ≤ sumW ws
  | a :: ws, x, h => by
    simp only [sumW, List.map_cons, List.sum_cons]
    rcases List.mem_cons.1 h with rfl | h
    · omega
    · have := sumW_mem h
      unfold sumW at this
      omega
theorem told1_sum : ∀ (ss : List Bs), (told1 ss).length = 9 * ss.length + sumS ss
  | [] => rfl
  | s :: ss => by
    have e : told1 (s :: ss) = toldS s ++ told1 ss := by simp [told1]
    rw [e, List.length_append, toldS_length, told1_sum ss]
    simp only [sumS, List.map_cons, List.sum_cons, List.length_cons]
    omega
theorem told2_sum : ∀ (ws : List Wr), (told2 ws).length = 18 * ws.length + sumW ws
  | [] => rfl
  | s :: ss => by
    have e : told2 (s :: ss) = toldW s ++ told2 ss := by simp [told2]
    rw [e, List.length_append, toldW_length, told2_sum ss]
    simp only [sumW, List.map_cons, List.sum_cons, List.length_cons]
    omega
/-- A disk that is not great. -/
structure Small (ss : List Bs) (ws : List Wr) : Prop where
  n : ss.length + ws.length ≤ 600
  t : sumS ss + sumW ws ≤ 200000
theorem Small.tells {ss : List Bs} {ws : List Wr} (h : Small ss ws) (hr : Reach47 ss ws) : Tells ss ws :=
  ⟨by have := h.n; omega, by have := h.n; omega, by rw [told1_sum, told2_sum]; have := h.n; have := h.t; omega, fun x hx => (hr.w x hx).2⟩
theorem Small.fits {ss : List Bs} {ws : List Wr} (h : Small ss ws) : Fits ss ws :=
  ⟨by have := h.n; omega, by have := h.n; omega, fun s hs => by have := sumS_mem hs; have := h.t; omega, fun x hx => by have := sumW_mem hx; have := h.t; omega⟩
def GreatSaid (ss : List Bs) (ws : List Wr) (e : Ending) : Prop := ∃ g : Bool, e = .returned (.bool g) ∧ (g = false → Small ss ws)

set_option maxHeartbeats 8000000 in
theorem great_small (d : Value) (ss : List Bs) (ws : List Wr) (w : World) (h : DiskIn w w.heap.size d ss ws) (hr : Reach47 ss ws) :
    Calls Try.prog 21 #[d] w fun e w' => GreatSaid ss ws e ∧ Below w.heap.size w w' := by
  obtain ⟨v1, v2, rfl, h1, h2⟩ := h
  have H1 := Lib.hid h1
  have H2 := Lib.hid h2
  have HR := Lib.hid hr
  obtain ⟨A1, c1, rfl, -, -, -, -⟩ := h1
  obtain ⟨A2, c2, rfl, -, -, -, -⟩ := h2
  have hb1 := heap_alloc_self w (.cells #[.slice A1 ss.length c1, .slice A2 ws.length c2] 25)
  have HB0 := Lib.hid (below_new w (.cells #[.slice A1 ss.length c1, .slice A2 ws.length c2] 25))
  have hns : (ss.length : Int) ≤ 140737488351232 := by have := hr.n; omega
  have hnw : (ws.length : Int) ≤ 140737488351232 := by have := hr.m; omega
  clear hr
  go_enter Try.func21, Try.ntmps21
  go_wp2_with fail
  generalize w.alloc (.cells #[.slice A1 ss.length c1, .slice A2 ws.length c2] 25) = w1 at HB0 hb1 ⊢
  have C1 := Lib.hid hb1
  clear hb1
  go_loopw [3, 4] (fun s3 s4 wr => ∃ (i n : Nat), i ≤ ss.length ∧ s3 = .int .i64 (n : Int) ∧ s4 = .int .i64 i ∧ n ≤ 422212465053696 ∧ Hid (n = ss.length + ws.length + sumS (ss.take i)) ∧ wr = w1) (fun _ s4 _ => ss.length - (intOf s4).toNat)
  case atStart => exact ⟨0, ss.length + ws.length, by omega, by go_num, rfl, by omega, Lib.hid (by simp [sumS]), by first | rfl | trivial⟩
  case round =>
    obtain ⟨i, n, hi, rfl, rfl, hb, NE, rfl⟩ := hrel
    obtain ⟨k0, k1⟩ := cell2_of C1.out
    rcases (by omega : (i < ss.length ∧ n ≤ 200000) ∨ (i < ss.length ∧ ¬ n ≤ 200000) ∨ ¬ i < ss.length) with ⟨hlt, hn'⟩ | hno
    · have hlt' : (i : Int) < ss.length := by omega
      obtain ⟨s, hse, hsr, b, off, u, hA, hbb, hc, ht⟩ : ∃ s, ss[i]? = some s ∧ s.length ≤ 140737488351232 ∧ ∃ b off u, A1 = some ⟨b, off, none⟩ ∧ b < w.heap.size ∧ wr.cell? ⟨b, off + i, none⟩ = some u ∧ Txt wr w.heap.size u s := ⟨ss[i], List.getElem?_eq_getElem hlt, HR.out.s _ (List.getElem_mem hlt), (H1.out.below HB0.out).at hlt⟩
      subst hA
      obtain ⟨A3, c3, rfl, -, -, -, -⟩ := ht
      have hsn := sumS_snoc hse
      have HSN := Lib.hid hsn
      have hn2 : (n : Int) ≤ 200000 := by omega
      have hsr' : (s.length : Int) ≤ 140737488351232 := by omega
      clear hsn hse hlt
      go_wp2_with fail
      go_roundw
      case measure => simp [intOf]; omega
      case rel => exact ⟨i + 1, n + s.length, by omega, by go_num, by go_num, by omega, Lib.hid (by rw [HSN.out, NE.out]; omega), by first | rfl | trivial⟩
    · rcases hno with ⟨hlt, hn'⟩ | hlt
      · have EX : Hid (i = ss.length ∨ 200000 < n) := Lib.hid (.inr (by omega))
        have hlt' : (i : Int) < ss.length := by omega
        have hn3 : ¬ (n : Int) ≤ 200000 := by omega
        clear hlt hn'
        go_wp2_with fail
        clear k0 k1 hlt' hn3
        go_loopw [3, 5] (fun s3 s5 wx => ∃ (k n2 : Nat), k ≤ ws.length ∧ s3 = .int .i64 (n2 : Int) ∧ s5 = .int .i64 k ∧ n2 ≤ 562949953404928 ∧ Hid (n2 = n + sumW (ws.take k)) ∧ wx = wr) (fun _ s5 _ => ws.length - (intOf s5).toNat)
        case atStart => exact ⟨0, n, by omega, rfl, rfl, by omega, Lib.hid (by simp [sumW]), by first | rfl | trivial⟩
        case round =>
          obtain ⟨k, n2, hk, rfl, rfl, hb2, hn2e, rfl⟩ := hrel
          obtain ⟨k0, k1⟩ := cell2_of C1.out
          rcases (by omega : (k < ws.length ∧ n2 ≤ 200000) ∨ (k < ws.length ∧ ¬ n2 ≤ 200000) ∨ ¬ k < ws.length) with ⟨hkt, hn2⟩ | hno
          · have hkt' : (k : Int) < ws.length := by omega
            obtain ⟨x, hxe, hxr, b, off, u, hA, hbb, hc0, hc, ht⟩ : ∃ x, ws[k]? = some x ∧ x.2.length ≤ 140737488351232 ∧ ∃ b off u, A2 = some ⟨b, off, none⟩ ∧ b < w.heap.size ∧ wr.cell? ⟨b, off + k * 2, none⟩ = some (.int .i64 x.1) ∧ wr.cell? ⟨b, off + k * 2 + 1, none⟩ = some u ∧ Txt wr w.heap.size u x.2 := ⟨ws[k], List.getElem?_eq_getElem hkt, (HR.out.w _ (List.getElem_mem hkt)).1, (H2.out.below HB0.out).at hkt⟩
            subst hA
            obtain ⟨A3, c3, rfl, -, -, -, -⟩ := ht
            have hsn := sumW_snoc hxe
            have HSN := Lib.hid hsn
            have hn2' : (n2 : Int) ≤ 200000 := by omega
            have hxr' : (x.2.length : Int) ≤ 140737488351232 := by omega
            clear hsn hxe hkt
            go_wp2_with fail
            go_roundw
            case measure => simp [intOf]; omega
            case rel => exact ⟨k + 1, n2 + x.2.length, by omega, by go_num, by go_num, by omega, Lib.hid (by rw [HSN.out, hn2e.out]; omega), by first | rfl | trivial⟩
          · rcases hno with ⟨hkt, hn2⟩ | hkt
            · have hkt' : (k : Int) < ws.length := by omega
              have hn3 : ¬ (n2 : Int) ≤ 200000 := by omega
              have hn4 : (200000 : Int) < n2 := by omega
              clear hkt hn2
              go_wp2_with fail
              go_ret
              exact ⟨⟨_, rfl, fun h => by cases h⟩, HB0.out⟩
            · have hkt' : ¬ (k : Int) < ws.length := by omega
              by_cases hn3 : 200000 < n2
              · have hn4 : (200000 : Int) < n2 := by omega
                clear hn3 hkt
                go_wp2_with fail
                go_ret
                exact ⟨⟨_, rfl, fun h => by cases h⟩, HB0.out⟩
              · have hn4 : ¬ (200000 : Int) < n2 := by omega
                by_cases hcnt : 600 < ss.length + ws.length
                · have hc4 : (600 : Int) < (ss.length : Int) + ws.length := by omega
                  clear hn3 hkt hcnt
                  go_wp2_with fail
                  go_ret
                  exact ⟨⟨_, rfl, fun h => by cases h⟩, HB0.out⟩
                · have hc4 : ¬ (600 : Int) < (ss.length : Int) + ws.length := by omega
                  have HSM : Hid (Small ss ws) := Lib.hid ⟨by omega, by
                    have e1 := hn2e.out
                    have e2 := NE.out
                    have e3 : k = ws.length := by omega
                    have e4 : i = ss.length := by rcases EX.out with h | h <;> omega
                    subst e3 e4
                    rw [List.take_length] at e1 e2
                    omega⟩
                  clear hn3 hkt hcnt
                  go_wp2_with fail
                  go_ret
                  exact ⟨⟨_, rfl, fun _ => HSM.out⟩, HB0.out⟩
      · have EX : Hid (i = ss.length ∨ 200000 < n) := Lib.hid (.inl (by omega))
        have hlt' : ¬ (i : Int) < ss.length := by omega
        clear hlt
        go_wp2_with fail
        clear k0 k1 hlt'
        go_loopw [3, 5] (fun s3 s5 wx => ∃ (k n2 : Nat), k ≤ ws.length ∧ s3 = .int .i64 (n2 : Int) ∧ s5 = .int .i64 k ∧ n2 ≤ 562949953404928 ∧ Hid (n2 = n + sumW (ws.take k)) ∧ wx = wr) (fun _ s5 _ => ws.length - (intOf s5).toNat)
        case atStart => exact ⟨0, n, by omega, rfl, rfl, by omega, Lib.hid (by simp [sumW]), by first | rfl | trivial⟩
        case round =>
          obtain ⟨k, n2, hk, rfl, rfl, hb2, hn2e, rfl⟩ := hrel
          obtain ⟨k0, k1⟩ := cell2_of C1.out
          rcases (by omega : (k < ws.length ∧ n2 ≤ 200000) ∨ (k < ws.length ∧ ¬ n2 ≤ 200000) ∨ ¬ k < ws.length) with ⟨hkt, hn2⟩ | hno
          · have hkt' : (k : Int) < ws.length := by omega
            obtain ⟨x, hxe, hxr, b, off, u, hA, hbb, hc0, hc, ht⟩ : ∃ x, ws[k]? = some x ∧ x.2.length ≤ 140737488351232 ∧ ∃ b off u, A2 = some ⟨b, off, none⟩ ∧ b < w.heap.size ∧ wr.cell? ⟨b, off + k * 2, none⟩ = some (.int .i64 x.1) ∧ wr.cell? ⟨b, off + k * 2 + 1, none⟩ = some u ∧ Txt wr w.heap.size u x.2 := ⟨ws[k], List.getElem?_eq_getElem hkt, (HR.out.w _ (List.getElem_mem hkt)).1, (H2.out.below HB0.out).at hkt⟩
            subst hA
            obtain ⟨A3, c3, rfl, -, -, -, -⟩ := ht
            have hsn := sumW_snoc hxe
            have HSN := Lib.hid hsn
            have hn2' : (n2 : Int) ≤ 200000 := by omega
            have hxr' : (x.2.length : Int) ≤ 140737488351232 := by omega
            clear hsn hxe hkt
            go_wp2_with fail
            go_roundw
            case measure => simp [intOf]; omega
            case rel => exact ⟨k + 1, n2 + x.2.length, by omega, by go_num, by go_num, by omega, Lib.hid (by rw [HSN.out, hn2e.out]; omega), by first | rfl | trivial⟩
          · rcases hno with ⟨hkt, hn2⟩ | hkt
            · have hkt' : (k : Int) < ws.length := by omega
              have hn3 : ¬ (n2 : Int) ≤ 200000 := by omega
              have hn4 : (200000 : Int) < n2 := by omega
              clear hkt hn2
              go_wp2_with fail
              go_ret
              exact ⟨⟨_, rfl, fun h => by cases h⟩, HB0.out⟩
            · have hkt' : ¬ (k : Int) < ws.length := by omega
              by_cases hn3 : 200000 < n2
              · have hn4 : (200000 : Int) < n2 := by omega
                clear hn3 hkt
                go_wp2_with fail
                go_ret
                exact ⟨⟨_, rfl, fun h => by cases h⟩, HB0.out⟩
              · have hn4 : ¬ (200000 : Int) < n2 := by omega
                by_cases hcnt : 600 < ss.length + ws.length
                · have hc4 : (600 : Int) < (ss.length : Int) + ws.length := by omega
                  clear hn3 hkt hcnt
                  go_wp2_with fail
                  go_ret
                  exact ⟨⟨_, rfl, fun h => by cases h⟩, HB0.out⟩
                · have hc4 : ¬ (600 : Int) < (ss.length : Int) + ws.length := by omega
                  have HSM : Hid (Small ss ws) := Lib.hid ⟨by omega, by
                    have e1 := hn2e.out
                    have e2 := NE.out
                    have e3 : k = ws.length := by omega
                    have e4 : i = ss.length := by rcases EX.out with h | h <;> omega
                    subst e3 e4
                    rw [List.take_length] at e1 e2
                    omega⟩
                  clear hn3 hkt hcnt
                  go_wp2_with fail
                  go_ret
                  exact ⟨⟨_, rfl, fun _ => HSM.out⟩, HB0.out⟩
end Go.Proofs.Ytdpjdobmnkadjaa
