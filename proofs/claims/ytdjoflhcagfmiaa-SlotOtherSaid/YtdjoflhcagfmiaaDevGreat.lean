/-
  Whether a disk is great: yes or no.
  Conditions: none.
-/
import Derived.Test.YtdjoflhcagfmiaaDevRead
set_option linter.unusedVariables false
set_option linter.unusedSimpArgs false
set_option maxRecDepth 100000
namespace Go.Proofs.Ytdjoflhcagfmiaa
open Go.RowKit

def lenV : Value → Nat
  | .slice _ n _ => n
  | _ => 0
theorem own_snoc8 {w : World} {base e i : Nat} {v : Value} {n : UInt8} (h : w.ownsRow base e 1 v (i + 1) ((List.replicate i n).map u8 ++ [.int .u8 (n.toNat : Int)])) : w.ownsRow base e 1 v (i + 1) ((List.replicate (i + 1) n).map u8) := by
  rw [List.replicate_succ', List.map_append]
  exact h
/-- It answers yes or no. -/
def Said (e : Ending) : Prop := ∃ g : Bool, e = .returned (.bool g)
set_option maxRecDepth 100000 in
set_option maxHeartbeats 2000000 in
theorem great_any (d : Value) (ss : List Bs) (ws : List Wr) (w : World) (h : DiskIn w w.heap.size d ss ws) :
    Calls Try.prog 15 #[d] w fun e w' => Said e ∧ Below w.heap.size w w' := by
  obtain ⟨v1, v2, rfl, h1, h2⟩ := h
  have H1 := Lib.hid h1
  have H2 := Lib.hid h2
  obtain ⟨A1, c1, rfl, -, -, -, -⟩ := h1
  obtain ⟨A2, c2, rfl, -, -, -, -⟩ := h2
  have hb1 := heap_alloc_self w (.cells #[.slice A1 ss.length c1, .slice A2 ws.length c2] 29)
  have HB0 := Lib.hid (below_new w (.cells #[.slice A1 ss.length c1, .slice A2 ws.length c2] 29))
  go_enter Try.func15, Try.ntmps15
  go_wp2_with fail
  generalize w.alloc (.cells #[.slice A1 ss.length c1, .slice A2 ws.length c2] 29) = w1 at HB0 hb1 ⊢
  obtain ⟨k0, k1⟩ := cell2_of hb1
  clear hb1
  go_loopw [3, 4] (fun s3 s4 wr => ∃ (i : Nat) (n : Int), i ≤ ss.length ∧ s3 = .int .i64 n ∧ s4 = .int .i64 i ∧ wr = w1) (fun _ s4 _ => ss.length - (intOf s4).toNat)
  case atStart => exact ⟨0, _, by omega, rfl, rfl, by first | rfl | trivial⟩
  case round =>
    obtain ⟨i, n, hi, rfl, rfl, rfl⟩ := hrel
    have hbnd : (ss.length : Int) ≤ 9223372036854775807 := by have := H1.out.le; unfold maxLen at *; omega
    rcases (by omega : (i < ss.length ∧ n ≤ 200000) ∨ (i < ss.length ∧ ¬ n ≤ 200000) ∨ ¬ i < ss.length) with ⟨hlt, hn'⟩ | hno
    · have hlt' : (i : Int) < ss.length := by omega
      obtain ⟨b, off, u, rfl, hbb, hc, ht⟩ := (H1.out.below HB0.out).at hlt
      obtain ⟨A3, c3, rfl, -, -, -, -⟩ := ht
      go_wp2_with fail
      go_roundw
      case measure => simp [intOf]; omega
      case rel => exact ⟨i + 1, _, by omega, rfl, by go_num, by first | rfl | trivial⟩
    · rcases hno with ⟨hlt, hn'⟩ | hlt
      all_goals
        first
        | have hlt' : (i : Int) < ss.length := by omega
        | have hlt' : ¬ (i : Int) < ss.length := by omega
        clear hlt
        go_wp2_with fail
        go_loopw [3, 5] (fun s3 s5 wx => ∃ (k : Nat) (n : Int), k ≤ ws.length ∧ s3 = .int .i64 n ∧ s5 = .int .i64 k ∧ wx = wr) (fun _ s5 _ => ws.length - (intOf s5).toNat)
        case atStart => exact ⟨0, _, by omega, rfl, rfl, by first | rfl | trivial⟩
        case round =>
          clear hlt'
          obtain ⟨k, n2, hk, rfl, rfl, rfl⟩ := hrel
          have hbn2 : (ws.length : Int) ≤ 9223372036854775807 := by have := H2.out.le; unfold maxLen at *; omega
          rcases (by omega : (k < ws.length ∧ n2 ≤ 200000) ∨ (k < ws.length ∧ ¬ n2 ≤ 200000) ∨ ¬ k < ws.length) with ⟨hkt, hn2⟩ | hno
          · have hkt' : (k : Int) < ws.length := by omega
            obtain ⟨b, off, u, rfl, hbb, hc0, hc, ht⟩ := (H2.out.below HB0.out).at hkt
            obtain ⟨A3, c3, rfl, -, -, -, -⟩ := ht
            go_wp2_with fail
            go_roundw
            case measure => simp [intOf]; omega
            case rel => exact ⟨k + 1, _, by omega, rfl, by go_num, by first | rfl | trivial⟩
          · rcases hno with ⟨hkt, hn2⟩ | hkt
            · have hkt' : (k : Int) < ws.length := by omega
              have hn3 : 200000 < n2 := by omega
              clear hkt
              go_wp2_with fail
              go_ret
              exact ⟨⟨_, rfl⟩, HB0.out⟩
            · have hkt' : ¬ (k : Int) < ws.length := by omega
              clear hkt
              by_cases hn3 : 200000 < n2
              · go_wp2_with fail
                go_ret
                exact ⟨⟨_, rfl⟩, HB0.out⟩
              · go_wp2_with fail
                go_ret
                exact ⟨⟨_, rfl⟩, HB0.out⟩

/-- What is left of a write of 7s to sector 20, of a new disk. -/
theorem nums_one (w : World) (b : Nat) (k : Int) (h : w.heap[b]? = some (.cells #[.int .i64 k] 3 (0, 0))) : NumsIn w w.heap.size (.slice (some ⟨b, 0, none⟩) 1 1) [k] :=
  ⟨_, 1, rfl, Nat.le_refl _, by unfold maxLen; omega, fun e => (by cases e), fun _ => ⟨b, 0, rfl, heap_lt h, fun j hj => by
    obtain rfl : j = 0 := by simpa using hj
    rw [cell_of_row _ _ _ _ _ _ h]; rfl⟩⟩
end Go.Proofs.Ytdjoflhcagfmiaa
