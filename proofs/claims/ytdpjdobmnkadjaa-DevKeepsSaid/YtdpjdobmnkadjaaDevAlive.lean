/-
  What the statements ask on the way: a sector of one byte, whether a disk is great, and what is left of a write that is torn.
  Conditions: none.
-/
import Derived.Test.YtdpjdobmnkadjaaDevRead
set_option linter.unusedVariables false
set_option linter.unusedSimpArgs false
namespace Go.Proofs.Ytdpjdobmnkadjaa
open Go.RowKit

def lenV : Value → Nat
  | .slice _ n _ => n
  | _ => 0
theorem own_snoc8 {w : World} {base e i : Nat} {v : Value} {n : UInt8} (h : w.ownsRow base e 1 v (i + 1) ((List.replicate i n).map u8 ++ [.int .u8 (n.toNat : Int)])) : w.ownsRow base e 1 v (i + 1) ((List.replicate (i + 1) n).map u8) := by
  rw [List.replicate_succ', List.map_append]
  exact h
/-- It answers yes or no. -/
def Said (e : Ending) : Prop := ∃ g : Bool, e = .returned (.bool g)
def ofL (n : UInt8) : Bs := List.replicate 128 n
theorem ofL_length (n : UInt8) : (ofL n).length = 128 := List.length_replicate

set_option maxHeartbeats 1000000 in
theorem of_any (n : UInt8) (w : World) : Calls Try.prog 14 #[.int .u8 (n.toNat : Int)] w fun e w' => ∃ y, e = .returned y ∧ w'.ownsRow w.heap.size 5 1 y 128 ((ofL n).map u8) ∧ Below w.heap.size w w' := by
  obtain ⟨i0, hi, hz0, hz1, hz2⟩ := info_parts infoByte
  have I0 := Lib.hid hi
  have I1 := Lib.hid hz0
  have I2 := Lib.hid hz1
  have I3 := Lib.hid hz2
  clear hi hz0 hz1 hz2
  go_enter Try.func14, Try.ntmps14
  go_wp2_with fail
  go_loopw [3] (fun s3 wr => ∃ i : Nat, i ≤ 128 ∧ wr.ownsRow w.heap.size 5 1 s3 i ((List.replicate i n).map u8) ∧ Below w.heap.size w wr) (fun s3 _ => 128 - lenV s3)
  case atStart => exact ⟨0, by omega, World.ownsRow_nil _ _ _ _, Below.refl _ _⟩
  case round =>
    obtain ⟨i, hi, ho, hb⟩ := hrel
    obtain ⟨A3, c3, rfl⟩ := own_slice_ ho
    have HO := Lib.hid ho
    have HB := Lib.hid hb
    clear ho hb
    by_cases hlt : i < 128
    · have hlt' : (i : Int) < 128 := by omega
      go_wp2_with ((with_reducible show wpList _ _ _ (⟨some 10, _, _, _, _, _⟩ :: _) _ _); refine wpList_append_any rfl (.tmp 7) (.tmp 9) _ rfl Try.underlying30 I0.out I1.out rfl I2.out (by decide) I3.out (by decide) rfl (HO.out.alloc _) (m := 1) rfl (news := [.int .u8 (n.toNat : Int)]) rfl (fun j u hj => by rw [World.cell?_alloc_new]; simpa using hj) (by simp [Value.oneCell']) (by omega) (by have := HB.out.size; simp; omega) ?_; intro v4 w4 hown4 hgrow4)
      have O4 := Lib.hid (own_snoc8 hown4)
      have B4 := Lib.hid ((HB.out.alloc HB.out.size (.cells #[.int .u8 (n.toNat : Int)] 5)).grown hgrow4 (Nat.le_trans HB.out.size (by simp)) (own_ge HO.out))
      obtain ⟨A5, c5, h5⟩ := own_slice_ hown4
      subst h5
      clear hown4 hgrow4
      go_roundw
      case measure => simp only [lenV]; omega
      case rel => exact ⟨i + 1, by omega, O4.out, B4.out⟩
    · obtain rfl : i = 128 := by omega
      have hlt' : ¬ ((128 : Nat) : Int) < 128 := by omega
      go_wp2_with fail
      go_ret
      exact ⟨_, rfl, HO.out, HB.out⟩

set_option maxRecDepth 100000 in
set_option maxHeartbeats 2000000 in
theorem great_any (d : Value) (ss : List Bs) (ws : List Wr) (w : World) (h : DiskIn w w.heap.size d ss ws) :
    Calls Try.prog 21 #[d] w fun e w' => Said e ∧ Below w.heap.size w w' := by
  obtain ⟨v1, v2, rfl, h1, h2⟩ := h
  have H1 := Lib.hid h1
  have H2 := Lib.hid h2
  obtain ⟨A1, c1, rfl, -, -, -, -⟩ := h1
  obtain ⟨A2, c2, rfl, -, -, -, -⟩ := h2
  have hb1 := heap_alloc_self w (.cells #[.slice A1 ss.length c1, .slice A2 ws.length c2] 25)
  have HB0 := Lib.hid (below_new w (.cells #[.slice A1 ss.length c1, .slice A2 ws.length c2] 25))
  go_enter Try.func21, Try.ntmps21
  go_wp2_with fail
  generalize w.alloc (.cells #[.slice A1 ss.length c1, .slice A2 ws.length c2] 25) = w1 at HB0 hb1 ⊢
  obtain ⟨k0, k1⟩ := cell2_of hb1
  clear hb1
  go_loopw [3, 4] (fun s3 s4 wr => ∃ (i : Nat) (n : Int), i ≤ ss.length ∧ s3 = .int .i64 n ∧ s4 = .int .i64 i ∧ wr = w1) (fun _ s4 _ => ss.length - (intOf s4).toNat)
  case atStart => exact ⟨0, _, by omega, rfl, rfl, by first | rfl | trivial⟩
  case round =>
    obtain ⟨i, n, hi, rfl, rfl, rfl⟩ := hrel
    have hbnd : (ss.length : Int) ≤ 9223372036854775807 := by have := H1.out.le; unfold maxLen at *; omega
    rcases (by omega : (i < ss.length ∧ n ≤ 200000) ∨ (i < ss.length ∧ ¬ n ≤ 200000) ∨ ¬ i < ss.length) with ⟨hlt, hn'⟩ | hno
    · have hlt' : (i : Int) < ss.length := by omega
      obtain ⟨b, off, u, rfl, hbb, hc, ht⟩ := (H1.out.below HB0.out).at hlt
      obtain ⟨A3, c3, rfl, -, -, -, -⟩ := ht
      go_wp2_with fail
      go_roundw
      case measure => simp [intOf]; omega
      case rel => exact ⟨i + 1, _, by omega, rfl, by go_num, by first | rfl | trivial⟩
    · rcases hno with ⟨hlt, hn'⟩ | hlt
      all_goals
        first
        | have hlt' : (i : Int) < ss.length := by omega
        | have hlt' : ¬ (i : Int) < ss.length := by omega
        clear hlt
        go_wp2_with fail
        go_loopw [3, 5] (fun s3 s5 wx => ∃ (k : Nat) (n : Int), k ≤ ws.length ∧ s3 = .int .i64 n ∧ s5 = .int .i64 k ∧ wx = wr) (fun _ s5 _ => ws.length - (intOf s5).toNat)
        case atStart => exact ⟨0, _, by omega, rfl, rfl, by first | rfl | trivial⟩
        case round =>
          clear hlt'
          obtain ⟨k, n2, hk, rfl, rfl, rfl⟩ := hrel
          have hbn2 : (ws.length : Int) ≤ 9223372036854775807 := by have := H2.out.le; unfold maxLen at *; omega
          rcases (by omega : (k < ws.length ∧ n2 ≤ 200000) ∨ (k < ws.length ∧ ¬ n2 ≤ 200000) ∨ ¬ k < ws.length) with ⟨hkt, hn2⟩ | hno
          · have hkt' : (k : Int) < ws.length := by omega
            obtain ⟨b, off, u, rfl, hbb, hc0, hc, ht⟩ := (H2.out.below HB0.out).at hkt
            obtain ⟨A3, c3, rfl, -, -, -, -⟩ := ht
            go_wp2_with fail
            go_roundw
            case measure => simp [intOf]; omega
            case rel => exact ⟨k + 1, _, by omega, rfl, by go_num, by first | rfl | trivial⟩
          · rcases hno with ⟨hkt, hn2⟩ | hkt
            · have hkt' : (k : Int) < ws.length := by omega
              have hn3 : 200000 < n2 := by omega
              clear hkt
              go_wp2_with fail
              go_ret
              exact ⟨⟨_, rfl⟩, HB0.out⟩
            · have hkt' : ¬ (k : Int) < ws.length := by omega
              clear hkt
              by_cases hn3 : 200000 < n2
              · go_wp2_with fail
                go_ret
                exact ⟨⟨_, rfl⟩, HB0.out⟩
              · go_wp2_with fail
                go_ret
                exact ⟨⟨_, rfl⟩, HB0.out⟩

/-- What is left of a write of 7s to sector 20, of a new disk. -/
theorem nums_one (w : World) (b : Nat) (k : Int) (h : w.heap[b]? = some (.cells #[.int .i64 k] 3 (0, 0))) : NumsIn w w.heap.size (.slice (some ⟨b, 0, none⟩) 1 1) [k] :=
  ⟨_, 1, rfl, Nat.le_refl _, by unfold maxLen; omega, fun e => (by cases e), fun _ => ⟨b, 0, rfl, heap_lt h, fun j hj => by
    obtain rfl : j = 0 := by simpa using hj
    rw [cell_of_row _ _ _ _ _ _ h]; rfl⟩⟩
def leftL (k : Nat) : Bs := lay z128 ((ofL 7).take k)
theorem leftL_length (k : Nat) : (leftL k).length = 128 := by
  rw [leftL, lay_length]
  · exact z128_length
  · rw [List.length_take, ofL_length, z128_length]; omega
theorem okW7 : okW ((20 : Int), ofL 7) := ⟨by decide, by decide, ofL_length 7⟩
theorem may7 : May newD [((20 : Int), ofL 7)] := ⟨may_new.n, by simp, may_new.s, fun x hx => by rw [List.mem_singleton.1 hx]; exact okW7⟩
theorem newD_at {i : Nat} (h : i < 32) : newD.getD i [] = z128 := by rw [List.getD_eq_getElem?_getD, newD, List.getElem?_replicate, if_pos h]; rfl
theorem write7 : writeE newD [] 20 (ofL 7) = 0 := by
  rw [writeE, if_pos (by rw [atE, if_pos (mayB_iff.2 may_new)]; rfl), if_pos (ofL_length 7)]; rfl
theorem crash7 {k : Int} (h : fitK k) : crashE newD [((20 : Int), ofL 7)] [k] = 0 := crashE_zero may7 rfl (fun x hx => by rw [List.mem_singleton.1 hx]; exact h)
theorem crashS7 {k : Int} (h : fitK k) : crashS newD [((20 : Int), ofL 7)] [k] = newD.set 20 (leftL k.toNat) := by
  rw [crashS, if_pos (crash7 h)]
  show layAll newD [(20, (ofL 7).take k.toNat)] = _
  rw [layAll_cons, layAll_nil, modify_set _ _ _ (by rw [may_new.n]; show 20 < 32; omega)]
  have : newD[20]'(by rw [may_new.n]; omega) = z128 := by simp only [newD, List.getElem_replicate]
  simp only [leftL]
  show newD.set 20 (lay (newD[20]'(by rw [may_new.n]; omega)) _) = _
  rw [this]
theorem may_left (k : Nat) : May (newD.set 20 (leftL k)) [] := ⟨by rw [List.length_set, may_new.n], by simp, fun x hx => by
  rcases List.mem_or_eq_of_mem_set hx with h | h
  · exact may_new.s x h
  · rw [h]; exact leftL_length k, by simp⟩
theorem at_left (k : Nat) : atE (newD.set 20 (leftL k)) [] 20 = 0 := by rw [atE, if_pos (mayB_iff.2 (may_left k))]; rfl
theorem read_left (k : Nat) : readS (newD.set 20 (leftL k)) [] 20 = leftL k := by
  rw [readS, if_pos (at_left k)]
  show (newD.set 20 (leftL k)).getD 20 [] = _
  rw [List.getD_eq_getElem?_getD, List.getElem?_set_self (by rw [may_new.n]; omega)]; rfl

set_option maxHeartbeats 1000000 in
theorem left_any (k : Int) (hk : fitK k) (w : World) : Calls Try.prog 19 #[.int .i64 k] w fun e w' => e = .returned (.string ⟨((leftL k.toNat).take 4).toArray⟩) ∧ Below w.heap.size w w' := by
  have HK := Lib.hid hk
  clear hk
  go_enter Try.func19, Try.ntmps19
  go_wp2_with fail
  refine (new_any w).mono ?_
  rintro e w1 ⟨v1, rfl, hs1, b1⟩
  have B1 := Lib.hid b1
  have D1 := Lib.hid (show DiskAt w1 w.heap.size (.agg #[v1, .slice none 0 0]) newD [] from ⟨_, _, rfl, hs1, WtsAt.nil_ _ _⟩)
  clear hs1 b1
  go_wp2_with fail
  refine (of_any 7 w1).mono ?_
  rintro e w2 ⟨y2, rfl, ho2, b2⟩
  have B2 := Lib.hid (B1.out.trans (b2.mono B1.out.size))
  have X2 : Hid (Txt w2 w2.heap.size y2 (ofL 7)) := Lib.hid (Txt.own (by rw [ofL_length]; unfold maxLen; omega) (base := w1.heap.size) (e := 5) (by rw [ofL_length]; exact ho2))
  have D2 := Lib.hid ((D1.out.below b2).in_)
  clear ho2 b2 D1 B1
  go_wp2_with fail
  refine (write_any _ _ newD [] 20 (ofL 7) w2 D2.out X2.out).mono ?_
  rintro e w3 ⟨d3, rfl, hd3, b3⟩
  rw [write7]
  rw [writeS, writeW, if_pos write7, if_pos write7] at hd3
  obtain ⟨a3, c3, rfl, hs3, hw3⟩ := hd3
  obtain ⟨A3, k3, rfl⟩ := secs_slice hs3
  obtain ⟨A4, k4, rfl⟩ := wts_slice hw3
  have B3 := Lib.hid (B2.out.trans (b3.mono B2.out.size))
  have D3 := Lib.hid (show DiskAt w3 w2.heap.size (.agg #[.slice A3 newD.length k3, .slice A4 ([] ++ [((20 : Int), ofL 7)]).length k4]) newD ([] ++ [((20 : Int), ofL 7)]) from ⟨_, _, rfl, hs3, hw3⟩)
  clear hs3 hw3 b3 D2 X2 B2
  go_wp2_with fail
  have hq := two_boxes w3 (.cells #[.slice A3 newD.length k3, .slice A4 1 k4] 25) (.cells #[.int .i64 k] 3)
  generalize (w3.alloc (.cells #[.slice A3 newD.length k3, .slice A4 1 k4] 25)).alloc (.cells #[.int .i64 k] 3) = q at hq ⊢
  obtain ⟨q0, q1, qb⟩ := hq
  have QB := Lib.hid (B3.out.trans (qb.mono B3.out.size))
  refine (crash_any _ _ newD [((20 : Int), ofL 7)] [k] q ((D3.out.below qb).in_) (nums_one _ _ _ q1)).mono ?_
  rintro e w4 ⟨d4, rfl, hd4, b4⟩
  rw [crash7 HK.out]
  rw [crashS7 HK.out] at hd4
  obtain ⟨a5, c5, rfl, hs5, hw5⟩ := hd4
  obtain ⟨A5, k5, rfl⟩ := secs_slice hs5
  obtain ⟨A6, k6, rfl⟩ := wts_slice hw5
  have B4 := Lib.hid (QB.out.trans (b4.mono QB.out.size))
  have D4 := Lib.hid (show DiskAt w4 q.heap.size (.agg #[.slice A5 (newD.set 20 (leftL k.toNat)).length k5, .slice A6 0 k6]) (newD.set 20 (leftL k.toNat)) [] from ⟨_, _, rfl, hs5, hw5⟩)
  obtain ⟨n5, hn5⟩ : ∃ n5, n5 = (newD.set 20 (leftL k.toNat)).length := ⟨_, rfl⟩
  rw [← hn5] at D4 ⊢
  clear hs5 hw5 b4 D3 QB q0 q1 qb hn5
  go_wp2_with fail
  have qb := below_new w4 (.cells #[.slice A5 n5 k5, .slice A6 0 k6] 25)
  generalize w4.alloc (.cells #[.slice A5 n5 k5, .slice A6 0 k6] 25) = q at qb ⊢
  have QB := Lib.hid (B4.out.trans (qb.mono B4.out.size))
  refine (read_any _ (newD.set 20 (leftL k.toNat)) [] 20 q ((D4.out.below qb).in_)).mono ?_
  rintro e w5 ⟨y5, rfl, ho5, b5⟩
  rw [at_left]
  rw [read_left, leftL_length] at ho5
  obtain ⟨A7, k7, rfl⟩ := own_slice_ ho5
  have B5 := Lib.hid (QB.out.trans (b5.mono QB.out.size))
  have hx5 : Txt w5 w5.heap.size (.slice A7 (leftL k.toNat).length k7) (leftL k.toNat) := by
    rw [leftL_length]
    exact Txt.own (by rw [leftL_length]; unfold maxLen; omega) (base := q.heap.size) (e := 5) (by rw [leftL_length]; exact ho5)
  have hcut := hx5.cut (k := 4) (by rw [leftL_length]; omega)
  have hk7 : 128 ≤ k7 := by
    obtain ⟨_, _, e, h1, _⟩ := hx5
    cases e
    rw [leftL_length] at h1
    exact h1
  have hstr := run_txt_string hcut
  clear ho5 b5 hx5 hcut qb D4
  go_wp2_with fail
  go_ret
  exact ⟨rfl, B5.out⟩

theorem left3 (w : World) : Calls Try.prog 19 #[.int .i64 3] w fun e w' => e = .returned (.string ⟨#[7, 7, 7, 0]⟩) ∧ Below w.heap.size w w' :=
  (left_any 3 (by decide) w).mono (by rintro e w' ⟨rfl, b⟩; exact ⟨by rw [show (leftL (3 : Int).toNat).take 4 = [7, 7, 7, 0] from by decide +kernel], b⟩)
theorem left128 (w : World) : Calls Try.prog 19 #[.int .i64 128] w fun e w' => e = .returned (.string ⟨#[7, 7, 7, 7]⟩) ∧ Below w.heap.size w w' :=
  (left_any 128 (by decide) w).mono (by rintro e w' ⟨rfl, b⟩; exact ⟨by rw [show (leftL (128 : Int).toNat).take 4 = [7, 7, 7, 7] from by decide +kernel], b⟩)
theorem left0 (w : World) : Calls Try.prog 19 #[.int .i64 0] w fun e w' => e = .returned (.string ⟨#[0, 0, 0, 0]⟩) ∧ Below w.heap.size w w' :=
  (left_any 0 (by decide) w).mono (by rintro e w' ⟨rfl, b⟩; exact ⟨by rw [show (leftL (0 : Int).toNat).take 4 = [0, 0, 0, 0] from by decide +kernel], b⟩)

theorem alive_true (w : World) : Calls Try.prog 18 #[] w fun e w' => e = .returned (.bool true) ∧ Below w.heap.size w w' := by
  go_enter Try.func18, Try.ntmps18
  go_wp2_with fail
  refine (left3 _).mono ?_
  rintro e w1 ⟨rfl, b1⟩
  have B1 := Lib.hid b1
  clear b1
  go_wp2_with fail
  refine (left128 _).mono ?_
  rintro e w2 ⟨rfl, b2⟩
  have B2 := Lib.hid (B1.out.trans (b2.mono B1.out.size))
  clear b2
  go_wp2_with fail
  refine (left0 _).mono ?_
  rintro e w3 ⟨rfl, b3⟩
  have B3 := Lib.hid (B2.out.trans (b3.mono B2.out.size))
  clear b3
  go_wp2_with fail
  go_ret
  exact ⟨rfl, B3.out⟩
end Go.Proofs.Ytdpjdobmnkadjaa
