/-
  What is asked of a point at a place, as the statement looks it up.
  Conditions: none.
-/
import Derived.Test.YtjgdgdccnbmbiaaYWayGoesM
import Derived.Test.YtjgdgdccnbmbiaaYGWayM
set_option linter.unusedVariables false
set_option linter.unusedSimpArgs false
set_option maxRecDepth 100000
namespace Go.Proofs.Ytjgdgdccnbmbiaa
open Go.RowKit

set_option maxHeartbeats 4000000 in
theorem lie_any (v : Value) (x : Wy) (pt a : Int) (w : World) (h : WayV w w.heap.size v x) :
    Calls Try.prog 27 #[v, .int .i64 pt, .int .i64 a] w fun e w' => e = .returned (.int .i64 (lieW x pt a)) ∧ Below w.heap.size w w' := by
  obtain ⟨u0, u1, u2, rfl, hin⟩ := h
  obtain ⟨D0, d0, rfl, -, -⟩ := hin.path.slice
  obtain ⟨D1, d1, rfl, -, -⟩ := hin.over.slice
  obtain ⟨D2, d2, rfl, hcl, hcm⟩ := hin.asks.slice
  obtain ⟨n0, hn0⟩ : ∃ n, n = x.path.length := ⟨_, rfl⟩
  obtain ⟨n1, hn1⟩ : ∃ n, n = x.over.length := ⟨_, rfl⟩
  obtain ⟨n2, hn2⟩ : ∃ n, n = x.asks.length := ⟨_, rfl⟩
  have AS : Hid (AsksIn w w.heap.size (.slice D2 n2 d2) x.asks) := Lib.hid (by rw [hn2]; exact hin.asks)
  have HN := Lib.hid hn2
  have hm2 : n2 ≤ 9223372036854775807 := by rw [hn2]; unfold maxLen at hcm; omega
  rw [← hn0, ← hn1, ← hn2]
  clear hn0 hn1 hn2 hin hcl hcm
  have hq0 := heap_alloc_self w (.cells #[.slice D0 n0 d0, .slice D1 n1 d1, .slice D2 n2 d2, .int .i64 x.near] 36)
  have hqb := below_new w (.cells #[.slice D0 n0 d0, .slice D1 n1 d1, .slice D2 n2 d2, .int .i64 x.near] 36)
  go_enter Try.func27, Try.ntmps27
  go_upto_region 1 with fail
  generalize w.alloc (.cells #[.slice D0 n0 d0, .slice D1 n1 d1, .slice D2 n2 d2, .int .i64 x.near] 36) = q at hq0 hqb ⊢
  have X := Lib.hid hq0
  have BQ := Lib.hid hqb
  clear hq0 hqb
  obtain ⟨k0, k1, k2, k3⟩ := cell4_of X.out
  go_wp2_with fail
  go_loopw [7] (fun s7 wr => ∃ i : Nat, i ≤ n2 ∧ s7 = .int .i64 i ∧ (∀ j (hj : j < x.asks.length), j < i → ¬ (x.asks[j].1 = pt ∧ x.asks[j].2.2 = a)) ∧ wr = q) (fun s7 _ => n2 - (intOf s7).toNat)
  case atStart => exact ⟨0, by omega, by go_num, fun j hj h => absurd h (by omega), rfl⟩
  case round =>
    obtain ⟨i, hi, rfl, hall, rfl⟩ := hrel
    have HALL := Lib.hid hall
    clear hall
    by_cases hlt : i < n2
    · have hlt' : (i : Int) < n2 := by omega
      have hil : i < x.asks.length := by rw [← HN.out]; exact hlt
      obtain ⟨e1, e2, e3, hk⟩ : ∃ a b c, x.asks[i] = (a, b, c) := ⟨_, _, _, rfl⟩
      have HK : Hid (x.asks[i] = (e1, e2, e3)) := Lib.hid hk
      obtain ⟨bk, ok, e6, hbk, hg0, hg1, hg2⟩ := (AS.out.below sigR BQ.out).at hil
      cases e6
      rw [hk] at hg0 hg1 hg2
      have g0 : wr.cell? ⟨bk, ok + i * 3, none⟩ = some (.int .i64 e1) := hg0
      have g1 : wr.cell? ⟨bk, ok + i * 3 + 1, none⟩ = some (.int .i64 e2) := hg1
      have g2 : wr.cell? ⟨bk, ok + i * 3 + 2, none⟩ = some (.int .i64 e3) := hg2
      clear hk hg0 hg1 hg2 hbk
      by_cases h1 : e1 = pt
      · have d1 : (e1 == pt) = true := by simpa using h1
        by_cases h2 : e3 = a
        · have d2 : (e3 == a) = true := by simpa using h2
          have HR : Hid (lieW x pt a = e2) := Lib.hid (by
            rw [lieW_some hil (by rw [HK.out]; exact ⟨h1, h2⟩) (fun j hj => HALL.out j (by omega) hj), HK.out])
          clear h1 h2
          go_wp2_with fail
          go_ret
          exact ⟨by rw [HR.out]; rfl, BQ.out⟩
        · have d2 : (e3 == a) = false := by simpa using h2
          have NX : Hid (∀ j (hj : j < x.asks.length), j < i + 1 → ¬ (x.asks[j].1 = pt ∧ x.asks[j].2.2 = a)) := Lib.hid (fun j hj hji => by
            rcases Nat.lt_or_ge j i with h | h
            · exact HALL.out j hj h
            · obtain rfl : j = i := by omega
              rw [HK.out]; exact fun h3 => h2 h3.2)
          clear h1 h2
          go_wp2_with fail
          go_roundw
          case measure => simp [intOf]; omega
          case rel => exact ⟨i + 1, by omega, by go_num, NX.out, trivial⟩
      · have d1 : (e1 == pt) = false := by simpa using h1
        have NX : Hid (∀ j (hj : j < x.asks.length), j < i + 1 → ¬ (x.asks[j].1 = pt ∧ x.asks[j].2.2 = a)) := Lib.hid (fun j hj hji => by
          rcases Nat.lt_or_ge j i with h | h
          · exact HALL.out j hj h
          · obtain rfl : j = i := by omega
            rw [HK.out]; exact fun h3 => h1 h3.1)
        clear h1
        go_wp2_with fail
        go_roundw
        case measure => simp [intOf]; omega
        case rel => exact ⟨i + 1, by omega, by go_num, NX.out, trivial⟩
    · obtain rfl : n2 = i := by omega
      have hlt' : ¬ (n2 : Int) < n2 := by omega
      have HR : Hid (lieW x pt a = 0) := Lib.hid (lieW_none fun j hj => HALL.out j hj (by rw [HN.out]; exact hj))
      go_wp2_with fail
      go_ret
      exact ⟨by rw [HR.out]; rfl, BQ.out⟩
end Go.Proofs.Ytjgdgdccnbmbiaa
