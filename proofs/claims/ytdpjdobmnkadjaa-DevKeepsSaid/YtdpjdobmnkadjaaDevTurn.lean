/-
  All bytes of a disk of the call's own turned, in place: nothing that lay below its memory has changed.
  Conditions: at most 100,000 sectors and writes.
-/
import Derived.Test.YtdpjdobmnkadjaaRefTwin
import Derived.Laws.BitsAllLaws
set_option linter.unusedVariables false
set_option linter.unusedSimpArgs false
namespace Go.Proofs.Ytdpjdobmnkadjaa
open Go.RowKit

/-- A row of bytes of the call's own, whatever they are. -/
def RowSh (W : World) (lo : Nat) (y : Value) : Prop := ∃ xs : Bs, W.ownsRow lo 5 1 y xs.length (xs.map u8) ∧ xs.length ≤ maxLen
theorem RowSh.set {W : World} {lo g k : Nat} {y : Value} {cur : Array Value} (h : RowSh W lo y) (hg : W.heap[g]? = some (.cells cur 5 (0, 0))) (b : UInt8) : RowSh (W.setCell ⟨g, k, none⟩ (.int .u8 (b.toNat : Int))) lo y := by
  obtain ⟨xs, ho, hl⟩ := h
  rcases ho.2 with ⟨rfl, h0⟩ | ⟨g', cap, cur', rfl, hlo, hgb, hcap, hm, hsz, htk⟩
  · exact ⟨xs, ⟨ho.1, .inl ⟨rfl, h0⟩⟩, hl⟩
  · by_cases e : g' = g
    · subst e
      rw [hg] at hgb
      cases hgb
      have hset : (W.setCell ⟨g', k, none⟩ (.int .u8 (b.toNat : Int))).heap[g']? = some (.cells (cur.setIfInBounds k (.int .u8 (b.toNat : Int))) 5 (0, 0)) := by
        simp only [World.setCell, Array.getElem?_modify, if_true, hg, Option.map_some]
        rfl
      refine ⟨xs.set k b, ⟨by simp, .inr ⟨g', cap, _, by rw [List.length_set], hlo, hset, by rw [List.length_set]; exact hcap, hm, by rw [Array.size_setIfInBounds]; exact hsz, ?_⟩⟩, by rw [List.length_set]; exact hl⟩
      rw [Array.toList_setIfInBounds, List.length_set, List.take_set, htk, List.map_set]
      rfl
    · exact ⟨xs, ⟨ho.1, .inr ⟨g', cap, cur', rfl, hlo, (heap_setFar W g k g' _ e).trans hgb, hcap, hm, hsz, htk⟩⟩, hl⟩

/-- A disk of the call's own, its slices named, its bytes any ones. -/
structure TurnAt (W : World) (lo : Nat) (v1 v2 : Value) (n : Nat) (ws : List Wr) (ys zs : List Value) : Prop where
  o1 : W.ownsRow lo 30 1 v1 n ys
  l1 : ys.length = n
  e1 : ∀ (j : Nat) (y : Value), ys[j]? = some y → RowSh W lo y
  o2 : W.ownsRow lo 58 2 v2 ws.length (wcells ws zs)
  l2 : zs.length = ws.length
  e2 : ∀ (j : Nat) (z : Value), zs[j]? = some z → RowSh W lo z
theorem turnAt_of {W : World} {lo : Nat} {v1 v2 : Value} {ss : List Bs} {ws : List Wr} (h1 : SecsAt W lo v1 ss) (h2 : WtsAt W lo v2 ws) : ∃ ys zs, TurnAt W lo v1 v2 ss.length ws ys zs := by
  obtain ⟨ys, ho, hl, hm, he, hd⟩ := h1
  obtain ⟨zs, ho2, hl2, hm2, he2⟩ := h2
  refine ⟨ys, zs, ⟨ho, hl, fun j y hy => ?_, ho2, hl2, fun j z hz => ?_⟩⟩
  · have hj : j < ss.length := by rw [← hl]; exact (List.getElem?_eq_some_iff.1 hy).1
    exact ⟨ss[j], he j y _ hy (List.getElem?_eq_getElem hj)⟩
  · have hj : j < ws.length := by rw [← hl2]; exact (List.getElem?_eq_some_iff.1 hz).1
    exact ⟨ws[j].2, he2 j z _ hz (List.getElem?_eq_getElem hj)⟩
theorem flip8 (b : UInt8) : bits BinOp.xor IntKind.u8 (if IntKind.u8.signed = true then -1 else IntKind.u8.max) (b.toNat : Int) = ((255 ^^^ b : UInt8).toNat : Int) := by
  have h : (if IntKind.u8.signed = true then (-1 : Int) else IntKind.u8.max) = ((255 : Nat) : Int) := by decide
  rw [h, u8_xor_nat 255 b.toNat (by omega) (UInt8.toNat_lt _), UInt8.toNat_xor]
  rfl
def Ret (e : Ending) : Prop := ∃ v, e = .returned v
theorem own_set8 {w : World} {base n e size g k : Nat} {v : Value} {xs : List Value} {cur : Array Value} (hne : e ≠ 5) (h : w.ownsRow base e size v n xs) (hc : w.heap[g]? = some (.cells cur 5 (0, 0))) (x : Value) : (w.setCell ⟨g, k, none⟩ x).ownsRow base e size v n xs := by
  refine h.kept (grown_set w g k x) ?_
  cases hv : v.ownBlock with
  | none => exact .inl rfl
  | some q =>
    refine .inr fun e1 => ?_
    cases e1
    obtain ⟨c, h1, _⟩ := owns_block h hv
    rw [hc] at h1
    cases h1
    exact hne rfl
theorem TurnAt.set {W : World} {lo g k n : Nat} {v1 v2 : Value} {ws : List Wr} {ys zs : List Value} {cur : Array Value} (h : TurnAt W lo v1 v2 n ws ys zs) (hg : W.heap[g]? = some (.cells cur 5 (0, 0))) (b : UInt8) : TurnAt (W.setCell ⟨g, k, none⟩ (.int .u8 (b.toNat : Int))) lo v1 v2 n ws ys zs :=
  ⟨own_set8 (by decide) h.o1 hg _, h.l1, fun j y hy => (h.e1 j y hy).set hg b, own_set8 (by decide) h.o2 hg _, h.l2, fun j z hz => (h.e2 j z hz).set hg b⟩
theorem TurnAt.alloc {W : World} {lo n : Nat} {v1 v2 : Value} {ws : List Wr} {ys zs : List Value} (h : TurnAt W lo v1 v2 n ws ys zs) (o : Obj) : TurnAt (W.alloc o) lo v1 v2 n ws ys zs :=
  ⟨h.o1.alloc o, h.l1, fun j y hy => by obtain ⟨xs, a, b⟩ := h.e1 j y hy; exact ⟨xs, a.alloc o, b⟩, h.o2.alloc o, h.l2, fun j z hz => by obtain ⟨xs, a, b⟩ := h.e2 j z hz; exact ⟨xs, a.alloc o, b⟩⟩

set_option maxHeartbeats 8000000 in
theorem turn_any (d : Value) (ss : List Bs) (ws : List Wr) (lo : Nat) (w : World) (h : DiskAt w lo d ss ws) (hlo : lo ≤ w.heap.size) (hn : ss.length ≤ 100000) (hm : ws.length ≤ 100000) :
    Calls Try.prog 33 #[d] w fun e w' => Ret e ∧ Below lo w w' := by
  obtain ⟨v1, v2, rfl, h1, h2⟩ := h
  obtain ⟨ys, zs, ht⟩ := turnAt_of h1 h2
  obtain ⟨A1, c1, rfl⟩ := secs_slice h1
  obtain ⟨A2, c2, rfl⟩ := wts_slice h2
  obtain ⟨n, hnn⟩ : ∃ n, n = ss.length := ⟨_, rfl⟩
  rw [← hnn] at ht hn ⊢
  have hq0 := heap_alloc_self w (.cells #[.slice A1 n c1, .slice A2 ws.length c2] 25)
  have hqb : Below lo w (w.alloc (.cells #[.slice A1 n c1, .slice A2 ws.length c2] 25)) := (below_new w _).mono hlo
  have hqt := ht.alloc (.cells #[.slice A1 n c1, .slice A2 ws.length c2] 25)
  have LO := Lib.hid hlo
  have hn' : (n : Int) ≤ 100000 := by omega
  have hm' : (ws.length : Int) ≤ 100000 := by omega
  clear h1 h2 ht hnn hlo
  go_enter Try.func33, Try.ntmps33
  go_wp2_with fail
  generalize w.alloc (.cells #[.slice A1 n c1, .slice A2 ws.length c2] 25) = q at hq0 hqb hqt ⊢
  have Q0 := Lib.hid hq0
  have QB := Lib.hid hqb
  have QT := Lib.hid hqt
  clear hq0 hqb hqt
  go_loopw [2] (fun s2 wr => ∃ i : Nat, i ≤ n + ws.length ∧ s2 = .int .i64 i ∧ TurnAt wr lo (.slice A1 n c1) (.slice A2 ws.length c2) n ws ys zs ∧ wr.heap[w.heap.size]? = some (.cells #[.slice A1 n c1, .slice A2 ws.length c2] 25 (0, 0)) ∧ Below lo w wr) (fun s2 _ => n + ws.length - (intOf s2).toNat)
  case atStart => exact ⟨0, by omega, rfl, QT.out, Q0.out, QB.out⟩
  case round =>
    obtain ⟨i, hi, rfl, hta, hbx, hbw⟩ := hrel
    have TA := Lib.hid hta
    have BX := Lib.hid hbx
    have BW := Lib.hid hbw
    clear hta hbx hbw
    obtain ⟨k0, k1⟩ := cell2_of BX.out
    by_cases hin : i < n
    · have hin' : (i : Int) < n := by omega
      have hlt' : (i : Int) < (n : Int) + ws.length := by omega
      obtain ⟨y, hy⟩ : ∃ y, ys[i]? = some y := ⟨_, List.getElem?_eq_getElem (by rw [TA.out.l1]; exact hin)⟩
      obtain ⟨xs, hox, -⟩ := TA.out.e1 i y hy
      obtain ⟨Ay, cy, rfl⟩ := own_slice_ hox
      obtain ⟨ny, hny⟩ : ∃ ny, ny = xs.length := ⟨_, rfl⟩
      rw [← hny] at hy
      have HY := Lib.hid hy
      have hcy : ∃ hb, A1 = some ⟨hb, 0, none⟩ ∧ wr.cell? ⟨hb, i, none⟩ = some (.slice Ay ny cy) := by
        rcases TA.out.o1.2 with ⟨e, h0⟩ | ⟨hb, cap, cur, e, _⟩
        · omega
        · injection e with e1 e2 e3
          subst e1
          exact ⟨hb, rfl, by rw [TA.out.o1.cellAt i (by omega), hy]⟩
      obtain ⟨hb, rfl, hch⟩ := hcy
      have hnyl : (ny : Int) ≤ 9223372036854775807 := by obtain ⟨xs2, h3, h4⟩ := TA.out.e1 i _ hy; have h5 := own_slice_ h3; obtain ⟨a, b, h6⟩ := h5; injection h6 with e1 e2 e3; unfold maxLen at h4; omega
      have HI := Lib.hid (show i < n + ws.length by omega)
      clear hox hny hy hin
      go_wp2_with fail
      clear k0 k1 hch hin' hlt'
      go_loopw [4] (fun s4 wx => ∃ k : Nat, k ≤ ny ∧ s4 = .int .i64 k ∧ TurnAt wx lo (.slice (some ⟨hb, 0, none⟩) n c1) (.slice A2 ws.length c2) n ws ys zs ∧ wx.heap[w.heap.size]? = some (.cells #[.slice (some ⟨hb, 0, none⟩) n c1, .slice A2 ws.length c2] 25 (0, 0)) ∧ Below lo w wx) (fun s4 _ => ny - (intOf s4).toNat)
      case atStart => exact ⟨0, by omega, rfl, TA.out, BX.out, BW.out⟩
      case round =>
        clear TA BX BW
        obtain ⟨k, hk, rfl, hta, hbx, hbw⟩ := hrel
        have TA := Lib.hid hta
        have BX := Lib.hid hbx
        have BW := Lib.hid hbw
        clear hta hbx hbw
        by_cases hlt : k < ny
        · have hlt' : (k : Int) < ny := by omega
          obtain ⟨xs, hox, hxl⟩ := TA.out.e1 i _ HY.out
          rcases hox.2 with ⟨e, h0⟩ | ⟨g, cap, cur, e, hlo, hgb, -, -, -, -⟩
          · exfalso
            injection e with e1 e2 e3
            omega
          · injection e with e1 e2 e3
            subst e1 e2 e3
            have hcell := hox.cellAt k (by omega)
            rw [List.getElem?_map, List.getElem?_eq_getElem hlt] at hcell
            obtain ⟨b, hb⟩ : ∃ b : UInt8, b = xs[k] := ⟨_, rfl⟩
            have hcb : wr.cell? ⟨g, k, none⟩ = some (.int .u8 (b.toNat : Int)) := by rw [hcell, hb]; rfl
            have hfz := hox.frozenAt k
            have hb256 : (b.toNat : Int) < 256 := by have := b.toNat_lt; omega
            have GB := Lib.hid hgb
            have GL := Lib.hid hlo
            clear hox hxl hlo hgb hcell hb
            go_wp2_with fail
            go_roundw
            case measure => simp [intOf]; omega
            case rel =>
              refine ⟨k + 1, by omega, by go_num, ?_, ?_, ?_⟩
              · rw [flip8]; exact TA.out.set GB.out _
              · exact (heap_setFar wr g k w.heap.size _ (fun e => by have h1 := BX.out; rw [e, GB.out] at h1; cases h1)).trans BX.out
              · exact below_set BW.out GL.out k _
        · have hlt' : ¬ (k : Int) < ny := by omega
          clear hlt
          go_wp2_with fail
          go_roundw
          case measure => have := HI.out; simp [intOf]; omega
          case rel => exact ⟨i + 1, by have := HI.out; omega, by go_num, TA.out, BX.out, BW.out⟩
    · by_cases hlt : i < n + ws.length
      · have hin' : ¬ (i : Int) < n := by omega
        have hlt' : (i : Int) < (n : Int) + ws.length := by omega
        obtain ⟨j, hj⟩ : ∃ j : Nat, (i : Int) - (n : Int) = (j : Int) ∧ j < ws.length := ⟨i - n, by omega⟩
        obtain ⟨hij, hjl⟩ := hj
        have hjl' : (j : Int) < ws.length := by omega
        obtain ⟨y, hy⟩ : ∃ y, zs[j]? = some y := ⟨_, List.getElem?_eq_getElem (by rw [TA.out.l2]; exact hjl)⟩
        obtain ⟨xs, hox, -⟩ := TA.out.e2 j y hy
        obtain ⟨Ay, cy, rfl⟩ := own_slice_ hox
        obtain ⟨ny, hny⟩ : ∃ ny, ny = xs.length := ⟨_, rfl⟩
        rw [← hny] at hy
        have HY := Lib.hid hy
        have hcy : ∃ hb, A2 = some ⟨hb, 0, none⟩ ∧ wr.cell? ⟨hb, j * 2 + 1, none⟩ = some (.slice Ay ny cy) := by
          have hwc := (wcells_at ws zs j _ _ (List.getElem?_eq_getElem hjl) hy).2
          rcases TA.out.o2.2 with ⟨e, h0⟩ | ⟨hb, cap, cur, e, _⟩
          · omega
          · injection e with e1 e2 e3
            subst e1
            exact ⟨hb, rfl, by rw [TA.out.o2.cellAt (j * 2 + 1) (by omega), hwc]⟩
        obtain ⟨hb, rfl, hch⟩ := hcy
        have hnyl : (ny : Int) ≤ 9223372036854775807 := by obtain ⟨xs2, h3, h4⟩ := TA.out.e2 j _ hy; have h5 := own_slice_ h3; obtain ⟨a, b, h6⟩ := h5; injection h6 with e1 e2 e3; unfold maxLen at h4; omega
        have HI := Lib.hid hlt
        clear hox hny hy
        go_wp2_with fail
        clear k0 k1 hch hin' hlt' hij hjl'
        go_loopw [4] (fun s4 wx => ∃ k : Nat, k ≤ ny ∧ s4 = .int .i64 k ∧ TurnAt wx lo (.slice A1 n c1) (.slice (some ⟨hb, 0, none⟩) ws.length c2) n ws ys zs ∧ wx.heap[w.heap.size]? = some (.cells #[.slice A1 n c1, .slice (some ⟨hb, 0, none⟩) ws.length c2] 25 (0, 0)) ∧ Below lo w wx) (fun s4 _ => ny - (intOf s4).toNat)
        case atStart => exact ⟨0, by omega, rfl, TA.out, BX.out, BW.out⟩
        case round =>
          clear TA BX BW
          obtain ⟨k, hk, rfl, hta, hbx, hbw⟩ := hrel
          have TA := Lib.hid hta
          have BX := Lib.hid hbx
          have BW := Lib.hid hbw
          clear hta hbx hbw
          by_cases hlt : k < ny
          · have hlt' : (k : Int) < ny := by omega
            obtain ⟨xs, hox, hxl⟩ := TA.out.e2 j _ HY.out
            rcases hox.2 with ⟨e, h0⟩ | ⟨g, cap, cur, e, hlo, hgb, -, -, -, -⟩
            · exfalso
              injection e with e1 e2 e3
              omega
            · injection e with e1 e2 e3
              subst e1 e2 e3
              have hcell := hox.cellAt k (by omega)
              rw [List.getElem?_map, List.getElem?_eq_getElem hlt] at hcell
              obtain ⟨b, hb⟩ : ∃ b : UInt8, b = xs[k] := ⟨_, rfl⟩
              have hcb : wr.cell? ⟨g, k, none⟩ = some (.int .u8 (b.toNat : Int)) := by rw [hcell, hb]; rfl
              have hfz := hox.frozenAt k
              have hb256 : (b.toNat : Int) < 256 := by have := b.toNat_lt; omega
              have GB := Lib.hid hgb
              have GL := Lib.hid hlo
              clear hox hxl hlo hgb hcell hb
              go_wp2_with fail
              go_roundw
              case measure => simp [intOf]; omega
              case rel =>
                refine ⟨k + 1, by omega, by go_num, ?_, ?_, ?_⟩
                · rw [flip8]; exact TA.out.set GB.out _
                · exact (heap_setFar wr g k w.heap.size _ (fun e => by have h1 := BX.out; rw [e, GB.out] at h1; cases h1)).trans BX.out
                · exact below_set BW.out GL.out k _
          · have hlt' : ¬ (k : Int) < ny := by omega
            clear hlt
            go_wp2_with fail
            go_roundw
            case measure => have := HI.out; simp [intOf]; omega
            case rel => exact ⟨i + 1, by have := HI.out; omega, by go_num, TA.out, BX.out, BW.out⟩
      · have hlt' : ¬ (i : Int) < (n : Int) + ws.length := by omega
        clear hlt hin
        go_wp2_with fail
        refine bodyPost_end (v := .tuple #[]) ?_ rfl ⟨⟨_, rfl⟩, BW.out⟩
        simp [results, Try.results33, go_sem]
end Go.Proofs.Ytdpjdobmnkadjaa
