/-
  Records in two slots, as mathematics: numbers as bytes, a record's bytes and sectors, and what a slot tells.
  Conditions: none.
-/
import Derived.Test.YtdjoflhcagfmiaaMBase
import Derived.Test.YtdjoflhcagfmiaaCrcMath
import Derived.Test.YtdjoflhcagfmiaaMDisk
import Derived.Test.YtdjoflhcagfmiaaMCome
import Derived.Laws.BitsAllLaws
import Derived.Deep.RegionHeld3
import Derived.Test.YtdjoflhcagfmiaaMDev
import Derived.Laws.ShiftsVar
import Derived.Laws.ShiftsVarLaws
import Derived.Laws.CopyOwn
import Derived.Deep.RegionLaw
import Derived.StillTailTactics
set_option linter.unusedVariables false
set_option linter.unusedSimpArgs false
set_option maxRecDepth 100000
namespace Go.Proofs.Ytdjoflhcagfmiaa

/-- A number's bytes, so many, the lowest first. -/
def le : Nat → Nat → Bs
  | 0, _ => []
  | k + 1, n => UInt8.ofNat n :: le k (n / 256)
/-- The number of bytes. -/
def leN : Bs → Nat
  | [] => 0
  | b :: bs => b.toNat + 256 * leN bs
theorem le_length (k n : Nat) : (le k n).length = k := by
  induction k generalizing n with
  | zero => rfl
  | succ k ih => rw [le, List.length_cons, ih]
theorem leN_lt (bs : Bs) : leN bs < 256 ^ bs.length := by
  induction bs with
  | nil => simp [leN]
  | cons b bs ih =>
    have := UInt8.toNat_lt b
    rw [leN, List.length_cons, Nat.pow_succ]
    omega
theorem leN_le (k n : Nat) (h : n < 256 ^ k) : leN (le k n) = n := by
  induction k generalizing n with
  | zero => simp at h; subst h; rfl
  | succ k ih =>
    rw [le, leN, ih (n / 256) (by rw [Nat.pow_succ] at h; omega)]
    have : (UInt8.ofNat n).toNat = n % 256 := by simp
    omega
theorem le_leN (bs : Bs) : le bs.length (leN bs) = bs := by
  induction bs with
  | nil => rfl
  | cons b bs ih =>
    have := UInt8.toNat_lt b
    rw [leN, List.length_cons, le, show (b.toNat + 256 * leN bs) / 256 = leN bs from by omega, ih]
    congr 1
    apply UInt8.toNat.inj
    simp
theorem leN_le_mod (k n : Nat) : leN (le k n) = n % 256 ^ k := by
  induction k generalizing n with
  | zero => simp [leN, le, Nat.mod_one]
  | succ k ih =>
    have h1 : (UInt8.ofNat n).toNat = n % 256 := by simp
    rw [le, leN, ih (n / 256), h1, Nat.pow_succ, Nat.mul_comm (256 ^ k) 256, Nat.mod_mul]

/-- A record may be. -/
def okR (g : Nat) (t : Bs) : Prop := 1 ≤ g ∧ g < 4294967296 ∧ t.length ≤ 1882
instance (g : Nat) (t : Bs) : Decidable (okR g t) := by unfold okR; infer_instance
/-- The first sector of a generation's slot. -/
def slotN (g : Nat) : Nat := g % 2 * 16
/-- What a record's sum is of. -/
def summedR (g : Nat) (t : Bs) : Bs := le 4 g ++ (le 2 t.length ++ t)
def sumR (g : Nat) (t : Bs) : Nat := over 0 (summedR g t)
theorem sumR_lt (g : Nat) (t : Bs) : sumR g t < 4294967296 := over_lt (by omega) _
/-- A record's bytes. -/
def bodyR (g : Nat) (t : Bs) : Bs := le 4 (sumR g t) ++ (le 2 t.length ++ t)
theorem bodyR_length (g : Nat) (t : Bs) : (bodyR g t).length = t.length + 6 := by simp only [bodyR, List.length_append, le_length]; omega
/-- How many sectors bytes need. -/
def cntB (b : Bs) : Nat := (b.length + 117) / 118
def cntR (t : Bs) : Nat := (t.length + 123) / 118
theorem cntB_body (g : Nat) (t : Bs) : cntB (bodyR g t) = cntR t := by rw [cntB, bodyR_length, cntR]
/-- A piece of bytes. -/
def pieceB (b : Bs) (i : Nat) : Bs := (b.drop (118 * i)).take 118
theorem pieceB_le (b : Bs) (i : Nat) : (pieceB b i).length ≤ 118 := by rw [pieceB, List.length_take]; omega
/-- Bytes with noughts behind them. -/
def padB (b : Bs) : Bs := b ++ List.replicate (118 - b.length) 0
theorem padB_length {b : Bs} (h : b.length ≤ 118) : (padB b).length = 118 := by rw [padB, List.length_append, List.length_replicate]; omega
/-- A sector with a piece of a record. -/
def secP (g : Nat) (i n : Nat) (p : Bs) : Bs := le 4 g ++ (UInt8.ofNat i :: UInt8.ofNat n :: (padB p ++ le 4 g))
theorem secP_length {g i n : Nat} {p : Bs} (h : p.length ≤ 118) : (secP g i n p).length = 128 := by
  simp only [secP, List.length_append, List.length_cons, le_length, padB_length h]
def secR (g : Nat) (b : Bs) (i : Nat) : Bs := secP g i (cntB b) (pieceB b i)
theorem secR_length (g : Nat) (b : Bs) (i : Nat) : (secR g b i).length = 128 := secP_length (pieceB_le b i)
/-- A record's sectors. -/
def secsR (g : Nat) (t : Bs) : List Bs := (List.range (cntR t)).map (secR g (bodyR g t))
theorem secsR_length (g : Nat) (t : Bs) : (secsR g t).length = cntR t := by simp [secsR]
theorem secsR_at {g : Nat} {t : Bs} {i : Nat} (h : i < cntR t) : (secsR g t)[i]? = some (secR g (bodyR g t) i) := by simp [secsR, List.getElem?_range h]
theorem secsR_128 {g : Nat} {t : Bs} {s : Bs} (h : s ∈ secsR g t) : s.length = 128 := by
  obtain ⟨i, _, rfl⟩ := List.mem_map.1 h
  exact secR_length _ _ _
theorem cntR_pos (t : Bs) : 1 ≤ cntR t := by unfold cntR; omega
theorem cntR_le {t : Bs} (h : t.length ≤ 1882) : cntR t ≤ 16 := by unfold cntR; omega

/-- The parts of a sector. -/
def headG (s : Bs) : Nat := leN (s.take 4)
def tailG (s : Bs) : Nat := leN (s.drop 124)
def midB (s : Bs) : Bs := (s.drop 6).take 118
theorem secP_split {g i n : Nat} {p : Bs} : secP g i n p = le 4 g ++ ([UInt8.ofNat i, UInt8.ofNat n] ++ (padB p ++ le 4 g)) := rfl
theorem secP_head (g i n : Nat) (p : Bs) : (secP g i n p).take 4 = le 4 g := by
  rw [secP_split, List.take_append_of_le_length (by rw [le_length]; exact Nat.le_refl _), List.take_of_length_le (by rw [le_length]; exact Nat.le_refl _)]
theorem secP_mid {g i n : Nat} {p : Bs} (h : p.length ≤ 118) : midB (secP g i n p) = padB p := by
  have h6 : (le 4 g ++ [UInt8.ofNat i, UInt8.ofNat n]).length = 6 := by simp [le_length]
  rw [midB, secP_split, ← List.append_assoc, List.drop_append_of_le_length (by rw [h6]; exact Nat.le_refl _), List.drop_of_length_le (by rw [h6]; exact Nat.le_refl _), List.nil_append,
    List.take_append_of_le_length (by rw [padB_length h]; exact Nat.le_refl _), List.take_of_length_le (by rw [padB_length h]; exact Nat.le_refl _)]
theorem secP_tail {g i n : Nat} {p : Bs} (h : p.length ≤ 118) : (secP g i n p).drop 124 = le 4 g := by
  have h6 : (le 4 g ++ [UInt8.ofNat i, UInt8.ofNat n] ++ padB p).length = 124 := by simp [le_length, padB_length h]
  rw [secP_split, ← List.append_assoc, ← List.append_assoc, List.drop_append_of_le_length (by rw [h6]; exact Nat.le_refl _), List.drop_of_length_le (by rw [h6]; exact Nat.le_refl _), List.nil_append]
theorem secP_num (g i n : Nat) (p : Bs) : (secP g i n p)[5]? = some (UInt8.ofNat n) := by
  rw [secP_split, List.getElem?_append_right (by rw [le_length]; omega), le_length]; rfl

/-- What a slot's sectors tell. -/
def bodyS (S : List Bs) : Bs := (S.map midB).flatten
def genS (S : List Bs) : Nat := headG (S.getD 0 [])
def sizeS (b : Bs) : Nat := leN ((b.drop 4).take 2)
def textS (b : Bs) : Bs := (b.drop 6).take (sizeS b)
def toldR (S : List Bs) : Option (Nat × Bs) := if genS S = 0 ∨ (bodyS S).length - 6 < sizeS (bodyS S) then none else some (genS S, textS (bodyS S))
/-- The record that is whole in a slot. -/
def wholeR (S : List Bs) (at_ : Nat) : Option (Nat × Bs) :=
  match toldR S with
  | none => none
  | some (g, t) => if slotN g = at_ ∧ secsR g t = S.take (cntR t) then some (g, t) else none
def IsWhole (S : List Bs) (at_ g : Nat) (t : Bs) : Prop := okR g t ∧ slotN g = at_ ∧ secsR g t = S.take (cntR t)

theorem bodyS_length {S : List Bs} (h : ∀ s ∈ S, s.length = 128) : (bodyS S).length = 118 * S.length := by
  induction S with
  | nil => rfl
  | cons s S ih =>
    have h1 := ih fun x hx => h x (by simp [hx])
    have h2 := h s (by simp)
    unfold bodyS at h1 ⊢
    rw [List.map_cons, List.flatten_cons, List.length_append, h1, List.length_cons, midB, List.length_take, List.length_drop]
    omega
theorem bodyS_append (S T : List Bs) : bodyS (S ++ T) = bodyS S ++ bodyS T := by simp [bodyS]
theorem pad_full {b : Bs} (h : b.length = 118) : padB b = b := by simp [padB, h]
theorem join_full (b : Bs) : ∀ n, 118 * n ≤ b.length → ((List.range n).map fun i => padB (pieceB b i)).flatten = b.take (118 * n)
  | 0, _ => by simp
  | n + 1, h => by
    rw [List.range_succ, List.map_append, List.flatten_append, join_full b n (by omega), List.map_cons, List.map_nil, List.flatten_cons, List.flatten_nil, List.append_nil,
      pad_full (by rw [pieceB, List.length_take, List.length_drop]; omega), pieceB, show 118 * (n + 1) = 118 * n + 118 from by omega, ← List.take_add]
theorem join_all (b : Bs) (n : Nat) (h1 : b.length ≤ 118 * n) (h2 : 118 * (n - 1) ≤ b.length) (hn : 1 ≤ n) : ((List.range n).map fun i => padB (pieceB b i)).flatten = b ++ List.replicate (118 * n - b.length) 0 := by
  obtain ⟨m, rfl⟩ : ∃ m, n = m + 1 := ⟨n - 1, by omega⟩
  rw [show m + 1 - 1 = m from by omega] at h2
  rw [List.range_succ, List.map_append, List.flatten_append, join_full b m h2, List.map_cons, List.map_nil, List.flatten_cons, List.flatten_nil, List.append_nil, padB, ← List.append_assoc]
  have hd : pieceB b m = b.drop (118 * m) := by rw [pieceB, List.take_of_length_le (by rw [List.length_drop]; omega)]
  rw [hd, List.take_append_drop, List.length_drop]
  congr 2
  omega
theorem bodyS_secs {g : Nat} {t : Bs} : bodyS (secsR g t) = bodyR g t ++ List.replicate (118 * cntR t - (bodyR g t).length) 0 := by
  have h := join_all (bodyR g t) (cntR t) (by rw [bodyR_length]; unfold cntR; omega) (by rw [bodyR_length]; unfold cntR; omega) (cntR_pos t)
  rw [← h, bodyS, secsR, List.map_map]
  congr 1
  apply List.map_congr_left
  intro i _
  exact secP_mid (pieceB_le _ _)
theorem body_parts (g : Nat) (t r : Bs) (h : t.length < 65536) : sizeS (bodyR g t ++ r) = t.length ∧ textS (bodyR g t ++ r) = t := by
  have hs : sizeS (bodyR g t ++ r) = t.length := by
    rw [sizeS, bodyR, List.append_assoc, List.drop_append_of_le_length (by rw [le_length]; exact Nat.le_refl _), List.drop_of_length_le (by rw [le_length]; exact Nat.le_refl _), List.nil_append,
      List.append_assoc, List.take_append_of_le_length (by rw [le_length]; exact Nat.le_refl _), List.take_of_length_le (by rw [le_length]; exact Nat.le_refl _), leN_le _ _ (by omega)]
  refine ⟨hs, ?_⟩
  have h6 : (le 4 (sumR g t) ++ le 2 t.length).length = 6 := by simp [le_length]
  rw [textS, hs, bodyR, ← List.append_assoc, List.append_assoc, List.drop_append_of_le_length (by rw [h6]; exact Nat.le_refl _), List.drop_of_length_le (by rw [h6]; exact Nat.le_refl _), List.nil_append,
    List.take_append_of_le_length (Nat.le_refl _), List.take_length]
/-- What is whole is told. -/
theorem told_of_whole {S : List Bs} {a g : Nat} {t : Bs} (h : IsWhole S a g t) : toldR S = some (g, t) := by
  obtain ⟨⟨h1, h2, h3⟩, _, h4⟩ := h
  have hS : S = secsR g t ++ S.drop (cntR t) := by rw [h4, List.take_append_drop]
  have hg : genS S = g := by
    rw [genS, hS, List.getD_eq_getElem?_getD, List.getElem?_append_left (by rw [secsR_length]; exact cntR_pos t), secsR_at (cntR_pos t), Option.getD_some, headG, secR, secP_head, leN_le _ _ (by omega)]
  have hb : ∃ r, bodyS S = bodyR g t ++ r := ⟨_, by rw [hS, bodyS_append, bodyS_secs, List.append_assoc]⟩
  obtain ⟨r, hb⟩ := hb
  obtain ⟨p1, p2⟩ := body_parts g t r (by omega)
  have hl : (bodyR g t ++ r).length = t.length + 6 + r.length := by rw [List.length_append, bodyR_length]
  rw [toldR, hg, hb, p1, p2, if_neg (by rw [hl]; omega)]
theorem told_parts {S : List Bs} {g : Nat} {t : Bs} (h : toldR S = some (g, t)) : g = genS S ∧ t = textS (bodyS S) ∧ g ≠ 0 ∧ sizeS (bodyS S) ≤ (bodyS S).length - 6 := by
  unfold toldR at h
  split at h
  · cases h
  · rename_i hn
    cases h
    exact ⟨rfl, rfl, fun h => hn (.inl h), Nat.le_of_not_lt fun h => hn (.inr h)⟩
theorem textS_length (b : Bs) (h : sizeS b ≤ b.length - 6) : (textS b).length = sizeS b := by rw [textS, List.length_take, List.length_drop]; omega
theorem genS_lt (S : List Bs) : genS S < 4294967296 := by
  have h := leN_lt ((S.getD 0 []).take 4)
  have h4 : ((S.getD 0 []).take 4).length ≤ 4 := by rw [List.length_take]; omega
  have := Nat.pow_le_pow_right (n := 256) (by omega) h4
  rw [genS, headG]
  omega
theorem told_ok {S : List Bs} {g : Nat} {t : Bs} (hl : S.length = 16) (hs : ∀ s ∈ S, s.length = 128) (h : toldR S = some (g, t)) : okR g t := by
  obtain ⟨rfl, rfl, h1, h2⟩ := told_parts h
  refine ⟨by omega, genS_lt S, ?_⟩
  rw [textS_length _ h2]
  have := bodyS_length hs
  omega
theorem wholeR_iff {S : List Bs} {a g : Nat} {t : Bs} (hl : S.length = 16) (hs : ∀ s ∈ S, s.length = 128) : wholeR S a = some (g, t) ↔ IsWhole S a g t := by
  constructor
  · intro h
    unfold wholeR at h
    cases ht : toldR S with
    | none => rw [ht] at h; cases h
    | some r =>
      obtain ⟨g', t'⟩ := r
      rw [ht] at h
      simp only at h
      split at h
      · rename_i hc
        cases h
        exact ⟨told_ok hl hs ht, hc.1, hc.2⟩
      · cases h
  · intro h
    unfold wholeR
    rw [told_of_whole h]
    simp only
    rw [if_pos ⟨h.2.1, h.2.2⟩]
end Go.Proofs.Ytdjoflhcagfmiaa

/-
  A record's writes, as mathematics: what waits on a disk once it is put.
  Conditions: none.
-/
set_option linter.unusedVariables false
set_option linter.unusedSimpArgs false
set_option maxRecDepth 100000
namespace Go.Proofs.Ytdjoflhcagfmiaa

/-- The writes of a record. -/
def wrR (g : Nat) (t : Bs) (i : Nat) : Wr := (((slotN g + i : Nat) : Int), secR g (bodyR g t) i)
def putWs (g : Nat) (t : Bs) : List Wr := (List.range (cntR t)).map (wrR g t)
theorem putWs_length (g : Nat) (t : Bs) : (putWs g t).length = cntR t := by simp [putWs]
theorem putWs_at {g : Nat} {t : Bs} {i : Nat} (h : i < cntR t) : (putWs g t)[i]? = some (wrR g t i) := by simp [putWs, List.getElem?_range h]
def putE (ss : List Bs) (ws : List Wr) (g : Nat) (t : Bs) : Int :=
  if mayB ss ws then (if g = 0 then 2 else if 1882 < t.length then 3 else if 256 < ws.length + cntR t then 9 else 0) else 8
def putS (ss : List Bs) (ws : List Wr) (g : Nat) (t : Bs) : List Bs := if putE ss ws g t = 0 then ss else []
def putW (ss : List Bs) (ws : List Wr) (g : Nat) (t : Bs) : List Wr := if putE ss ws g t = 0 then ws ++ putWs g t else []
theorem slotN_cases (g : Nat) : slotN g = 0 ∨ slotN g = 16 := by
  unfold slotN
  rcases Nat.mod_two_eq_zero_or_one g with h | h <;> rw [h] <;> simp
theorem slotN_le (g : Nat) : slotN g ≤ 16 := by rcases slotN_cases g with h | h <;> omega
theorem wrR_ok {g : Nat} {t : Bs} {i : Nat} (hi : i < 16) : okW (wrR g t i) := by
  have := slotN_le g
  exact ⟨by show (0 : Int) ≤ ((slotN g + i : Nat) : Int); omega, by show ((slotN g + i : Nat) : Int) < 32; omega, secR_length _ _ _⟩
theorem putWs_ok {g : Nat} {t : Bs} (ht : t.length ≤ 1882) : ∀ x ∈ putWs g t, okW x := by
  intro x hx
  obtain ⟨i, hi, rfl⟩ := List.mem_map.1 hx
  exact wrR_ok (by have := List.mem_range.1 hi; have := cntR_le ht; omega)
theorem may_part {ss : List Bs} {ws : List Wr} {g : Nat} {t : Bs} (h : May ss ws) (ht : t.length ≤ 1882) {i : Nat} (hi : ws.length + i ≤ 256) : May ss (ws ++ (putWs g t).take i) :=
  ⟨h.n, by rw [List.length_append, List.length_take]; omega, h.s, fun x hx => by
    rcases List.mem_append.1 hx with hx | hx
    · exact h.w x hx
    · exact putWs_ok ht x (List.mem_of_mem_take hx)⟩
theorem part_snoc (ws : List Wr) {g : Nat} {t : Bs} {i : Nat} (hi : i < cntR t) : ws ++ (putWs g t).take (i + 1) = (ws ++ (putWs g t).take i) ++ [wrR g t i] := by
  rw [List.take_add_one, putWs_at hi, Option.toList_some, List.append_assoc]
theorem part_writeE {ss : List Bs} {ws : List Wr} {g : Nat} {t : Bs} (h : May ss ws) (ht : t.length ≤ 1882) {i : Nat} (hi : ws.length + i ≤ 256) (hin : i < cntR t) :
    writeE ss (ws ++ (putWs g t).take i) ((slotN g + i : Nat) : Int) (secR g (bodyR g t) i) = if ws.length + i = 256 then 9 else 0 := by
  have h16 := cntR_le ht
  have hs := slotN_le g
  have hm := mayB_iff.2 (may_part (g := g) h ht hi)
  have hl : (ws ++ (putWs g t).take i).length = ws.length + i := by rw [List.length_append, List.length_take, putWs_length]; omega
  rw [writeE, atE, hm, if_pos rfl, if_pos (by omega : (0 : Int) ≤ ((slotN g + i : Nat) : Int) ∧ ((slotN g + i : Nat) : Int) < 32)]; simp only [↓reduceIte]; rw [if_pos (secR_length _ _ _), hl]
end Go.Proofs.Ytdjoflhcagfmiaa

/-
  The library's iterators: over the bytes of a slice from the last to the first, and over its pieces.
  Conditions: none.
-/
set_option linter.unusedVariables false
set_option linter.unusedSimpArgs false
set_option maxRecDepth 100000
namespace Go.Proofs.Ytdjoflhcagfmiaa
open Go.RowKit Go.Shelf

attribute [local go_sem] Oper.semAt_some

/-- What a round keeps: whatever lay below the base, and each box that holds a slice of bytes or an int. -/
def KeepB (base : Nat) (W W' : World) : Prop := Below base W W' ∧ ∀ bn t v, (t = 34 ∨ t = 3) → Boxed W bn t v → Boxed W' bn t v
theorem KeepB.refl (base : Nat) (W : World) : KeepB base W W := ⟨Below.refl _ _, fun _ _ _ _ h => h⟩
theorem KeepB.trans {base : Nat} {A B C : World} (h : KeepB base A B) (k : KeepB base B C) : KeepB base A C := ⟨h.1.trans k.1, fun bn t v ht hb => k.2 bn t v ht (h.2 bn t v ht hb)⟩
theorem KeepB.drew {base : Nat} {A W : World} (h : KeepB base A W) : KeepB base A W.drew := ⟨h.1.drew, fun bn t v ht k => h.2 bn t v ht k⟩
theorem KeepB.putObj {base : Nat} (W : World) (l : Nat) (o o' : Obj) (hl : base ≤ l) (h : W.heap[l]? = some o) (ho : o.isCells = false) : KeepB base W (W.putObj l o') :=
  ⟨(Below.refl base W).grown (grownBy_putObj' W l o') (by have := (Array.getElem?_eq_some_iff.1 h).1; omega) (fun k e => by cases e; exact hl), fun bn t v ht hb =>
    hb.kept (grownBy_putObj' W l o') (fun e => by have e' : bn = l := (by simpa using e); subst e'; rw [show W.heap[bn]? = _ from hb] at h; cases h; cases ho)⟩
theorem KeepB.of_below {base : Nat} {W W' : World} (h : Below W.heap.size W W') (hb : base ≤ W.heap.size) : KeepB base W W' := ⟨h.mono hb, fun bn t v _ k => (h.block bn k.lt).trans k⟩

/-- A byte that is handed out, behind its number. -/
def encK (x : Nat × UInt8) : Array Value := #[.int .i64 x.1, .int .u8 (x.2.toNat : Int)]

set_option maxHeartbeats 2000000 in
theorem back1_whole (n : Nat) (hn : 1 ≤ n) (l bw base : Nat) (w0 : World) (xs : Bs) (wv : Value) (hwv : Txt w0 base wv xs) (hm : xs.length ≤ 1000)
    (J Jx : List (Nat × UInt8) → World → Prop)
    (W : World) (hJ : AbidesFrom W.heap.size J)
    (hY : ∀ pre x W, J pre W → pre.length < xs.length → YieldAt Fence.wide (n - 1) Try.prog l (encK x) W fun e W' =>
      (e = .returned (.bool true) ∧ J (pre ++ [x]) W' ∧ KeepB base W W') ∨ (e = .returned (.bool false) ∧ Jx (pre ++ [x]) W'))
    (hbase : base ≤ W.heap.size) (h0w : Below base w0 W) (hbw : Boxed W bw 34 wv) (h0 : J [] W) :
    CallsIn Fence.wide n Try.prog 88 #[.func (.yield l) #[] #[], .pointer (some ⟨bw, 0, none⟩)] W fun e W' => (∃ v, e = .returned v) ∧
      ((∃ xs', xs'.map (·.2) = xs.reverse ∧ J xs' W') ∨ ∃ pre, True ∧ Jx pre W') := by
  have HW := Lib.hid hwv
  obtain ⟨A, cap, rfl, -, -, -, -⟩ := hwv
  have hcw := hbw.cell
  refine callsIn_of_wp Try.func88 rfl trivial ?_ rfl
  simp only [Try.ntmps88, List.size_toArray, List.length_cons, List.length_nil, Nat.reduceAdd, Nat.reduceSub, Array.replicate_succ, Array.replicate_zero, List.push_toArray, List.append_toArray, List.nil_append, List.cons_append]
  gi_wp2
  clear hcw
  gi_loopw [3] (fun s3 wr => ∃ (k : Nat) (pre : List (Nat × UInt8)), k ≤ xs.length ∧ s3 = .int .i64 ((k : Int) - 1) ∧ pre.map (·.2) = (xs.drop k).reverse ∧ J pre wr ∧ KeepB base W wr) (fun s3 _ => (intOf s3 + 1).toNat)
  case atStart => exact ⟨xs.length, [], Nat.le_refl _, rfl, by simp, h0, KeepB.refl _ _⟩
  case round =>
    obtain ⟨k, pre, hk, rfl, hpre, hJs, hkp⟩ := hrel
    cases k with
    | succ k =>
      have hlt : k < xs.length := by omega
      have hki : ((k + 1 : Nat) : Int) - 1 = k := by omega
      rw [hki]
      have hlt' : (k : Int) < xs.length := by omega
      have hge : (0 : Int) ≤ k := by omega
      have hcell := (hkp.2 _ _ _ (.inl rfl) hbw).cell
      have hc : ∃ b off, A = some ⟨b, off, none⟩ ∧ wr.cell? ⟨b, off + k, none⟩ = some (.int .u8 (xs[k].toNat : Int)) := by
        obtain ⟨A', c', e, h1, h2, h3, h4⟩ := HW.out
        cases e
        obtain ⟨b, off, rfl, hb, hc⟩ := h4 (by omega)
        exact ⟨b, off, rfl, ((h0w.trans hkp.1).cell (p := ⟨b, _, none⟩) hb).trans (hc k hlt)⟩
      obtain ⟨b, off, rfl, hc⟩ := hc
      have hround := hY pre (k, xs[k]) wr hJs (by rw [← List.length_map (f := (·.2)), hpre]; simp; omega)
      have hround' := YieldAt.mono (R' := fun e W' => ∃ c, e = .returned (.bool c) ∧ Went c (J (pre ++ [(k, xs[k])]) W' ∧ KeepB base wr W') (Jx (pre ++ [(k, xs[k])]) W')) hround (by
        rintro e W' (⟨rfl, h⟩ | ⟨rfl, h⟩)
        · exact ⟨true, rfl, .inl ⟨rfl, h⟩⟩
        · exact ⟨false, rfl, .inr ⟨rfl, h⟩⟩)
      clear hround
      have hnext : (pre ++ [(k, xs[k])]).map (·.2) = (xs.drop k).reverse := by
        rw [List.map_append, hpre, List.drop_eq_getElem_cons hlt, List.reverse_cons]; rfl
      obtain ⟨fn, tmps, assign, body, hy, hR⟩ := hround'
      simp only [encK] at hy
      have HR := Lib.hid hR
      have HKP := Lib.hid hkp
      have HN := Lib.hid hnext
      clear hR hkp hJs hpre hnext
      generalize xs[k] = x at *
      gi_wp2_with (refine HR.out.mono ?_; rintro e W' ⟨c, rfl, hwent⟩)
      · rcases hwent with ⟨rfl, _⟩ | ⟨rfl, hJx3⟩
        · rename_i h; cases h
        · refine bodyPost_ret (results_none rfl _ _ _) rfl ?_
          exact ⟨⟨_, rfl⟩, .inr ⟨_, trivial, hJx3⟩⟩
      · rcases hwent with ⟨rfl, hJ3, hk3⟩ | ⟨rfl, _⟩
        · exact ⟨⟨k, _, by omega, rfl, HN.out, hJ3, HKP.out.trans hk3⟩, by simp only [intOf]; omega⟩
        · rename_i h; cases h
    | zero =>
      gi_wp2
      go_end0
      exact ⟨⟨_, rfl⟩, .inl ⟨pre, by simpa using hpre, hJs⟩⟩

/-- A piece that is handed out: its number, and the slice. -/
structure Ch (w0 : World) (B : Nat) (xs : Bs) where
  i : Nat
  v : Value
  ht : Txt w0 B v (pieceB xs i)
def encC {w0 : World} {B : Nat} {xs : Bs} (x : Ch w0 B xs) : Array Value := #[x.v]
theorem Txt.mid3 {W : World} {B : Nat} {A : Option Addr} {c : Nat} {xs : Bs} (h : Txt W B (.slice A xs.length c) xs) {k m : Nat} (hm : 0 < m) (hk : k + m ≤ xs.length) :
    ∃ b off, A = some ⟨b, off, none⟩ ∧ Txt W B (.slice (some ⟨b, off + k, none⟩) m m) ((xs.drop k).take m) := by
  obtain ⟨A', c', e, h1, h2, hn, h3⟩ := h
  cases e
  obtain ⟨b, off, rfl, hb, hc⟩ := h3 (by omega)
  have hl : ((xs.drop k).take m).length = m := by rw [List.length_take, List.length_drop]; omega
  refine ⟨b, off, rfl, some ⟨b, off + k, none⟩, m, by rw [hl], by omega, by omega, fun e => (by cases e), fun _ => ⟨b, off + k, rfl, hb, fun j hj => ?_⟩⟩
  rw [Nat.add_assoc, hc (k + j) (by omega)]
  simp
theorem cut_round {L k : Nat} (h : 118 * k < L) : (L + 117) / 118 ≥ k + 1 := by omega

set_option maxHeartbeats 2000000 in
theorem chunk1_whole (n : Nat) (hn : 1 ≤ n) (l bw bn base : Nat) (w0 : World) (xs : Bs) (wv : Value) (hwv : Txt w0 base wv xs) (hm : xs.length ≤ 100000)
    (J Jx : List (Ch w0 base xs) → World → Prop)
    (W : World) (hJ : AbidesFrom W.heap.size J)
    (hY : ∀ pre x W, J pre W → pre.length < cntB xs → YieldAt Fence.wide (n - 1) Try.prog l (encC x) W fun e W' =>
      (e = .returned (.bool true) ∧ J (pre ++ [x]) W' ∧ KeepB base W W') ∨ (e = .returned (.bool false) ∧ Jx (pre ++ [x]) W'))
    (hbase : base ≤ W.heap.size) (h0w : Below base w0 W) (hbw : Boxed W bw 34 wv) (hbn : Boxed W bn 3 (.int .i64 118)) (h0 : J [] W) :
    CallsIn Fence.wide n Try.prog 87 #[.func (.yield l) #[] #[], .pointer (some ⟨bw, 0, none⟩), .pointer (some ⟨bn, 0, none⟩)] W fun e W' => (∃ v, e = .returned v) ∧
      ((∃ xs', xs'.map (·.i) = List.range (cntB xs) ∧ J xs' W') ∨ ∃ pre, True ∧ Jx pre W') := by
  have HW := Lib.hid hwv
  obtain ⟨A, cap, rfl, hcap, -, -, -⟩ := hwv
  refine callsIn_of_wp Try.func87 rfl trivial ?_ rfl
  simp only [Try.ntmps87, List.size_toArray, List.length_cons, List.length_nil, Nat.reduceAdd, Nat.reduceSub, Array.replicate_succ, Array.replicate_zero, List.push_toArray, List.append_toArray, List.nil_append, List.cons_append]
  gi_wp2
  gi_loopw [4] (fun s4 wr => ∃ (k : Nat) (pre : List (Ch w0 base xs)), k ≤ cntB xs ∧ s4 = .int .i64 ((118 * k : Nat) : Int) ∧ pre.map (·.i) = List.range k ∧ J pre wr ∧ KeepB base W wr) (fun s4 _ => xs.length + 118 - (intOf s4).toNat)
  case atStart => exact ⟨0, [], Nat.zero_le _, rfl, rfl, h0, KeepB.refl _ _⟩
  case round =>
    obtain ⟨k, pre, hk, rfl, hpre, hJs, hkp⟩ := hrel
    have hcell := (hkp.2 _ _ _ (.inl rfl) hbw).cell
    have hcelln := (hkp.2 _ _ _ (.inr rfl) hbn).cell
    by_cases hlt : 118 * k < xs.length
    · have hlt' : ((118 * k : Nat) : Int) < xs.length := by omega
      have hge : (0 : Int) ≤ ((118 * k : Nat) : Int) := by omega
      have hle : ((118 * k : Nat) : Int) ≤ xs.length := by omega
      obtain ⟨m, hmm⟩ : ∃ m, m = min 118 (xs.length - 118 * k) := ⟨_, rfl⟩
      have hm0 : 0 < m := by omega
      have hkm : 118 * k + m ≤ xs.length := by omega
      obtain ⟨b, off, rfl, hsub⟩ := HW.out.mid3 hm0 hkm
      have hpc : (xs.drop (118 * k)).take m = pieceB xs k := by
        rw [pieceB, List.take_eq_take_iff, List.length_drop, hmm]; omega
      generalize hK : 118 * k = K at *
      gi_wp2
      gi_region
      have hmin : (if ((xs.length - K : Nat) : Int) < 118 then ((xs.length - K : Nat) : Int) else 118) = m := by split <;> omega
      rw [hmin]
      have h00 := hY pre ⟨k, .slice (some ⟨b, off + K, none⟩) m m, by rw [← hpc]; exact hsub⟩ wr.drew (abides_drew hJ hJs) (by rw [← List.length_map (f := (·.i)), hpre, List.length_range, cntB]; omega)
      obtain ⟨pp, hpp, hround⟩ : ∃ pp : List (Ch w0 base xs), pp.map (·.i) = List.range (k + 1) ∧ YieldAt Fence.wide (n - 1) Try.prog l #[.slice (some ⟨b, off + K, none⟩) m m] wr.drew (fun e W' =>
        (e = .returned (.bool true) ∧ J pp W' ∧ KeepB base wr.drew W') ∨ (e = .returned (.bool false) ∧ Jx pp W')) := ⟨_, by rw [List.map_append, hpre, List.range_succ]; rfl, h00⟩
      have hround' := YieldAt.mono (R' := fun e W' => ∃ c, e = .returned (.bool c) ∧ Went c (J pp W' ∧ KeepB base wr.drew W') (Jx pp W')) hround (by
        rintro e W' (⟨rfl, h⟩ | ⟨rfl, h⟩)
        · exact ⟨true, rfl, .inl ⟨rfl, h⟩⟩
        · exact ⟨false, rfl, .inr ⟨rfl, h⟩⟩)
      obtain ⟨fn, tmps, assign, body, hy, hR⟩ := hround'
      have HR := Lib.hid hR
      have HKP := Lib.hid hkp.drew
      have HPP := Lib.hid hpp
      have HPC := Lib.hid hpc
      clear hR hkp hJs hpp hround h00 hmin hsub hpc
      have HMM := Lib.hid hmm
      have hKm : (K : Int) + m ≤ cap := by omega
      clear hmm
      gi_wp2_with fail
      refine HR.out.mono ?_
      rintro e W' ⟨c, rfl, hwent⟩
      rcases hwent with ⟨rfl, hJ3, hk3⟩ | ⟨rfl, hJx3⟩
      · have hcelln' := ((HKP.out.trans hk3).2 _ _ _ (.inr rfl) hbn).cell
        have HK3 := Lib.hid (HKP.out.trans hk3)
        clear hk3
        gi_wp2
        go_roundw
        case rel => exact ⟨k + 1, pp, by have := HMM.out; rw [cntB]; omega, by go_num, HPP.out, hJ3, HK3.out⟩
        case measure => simp [intOf]; omega
      · gi_wp2
        refine bodyPost_ret (results_none rfl _ _ _) rfl ?_
        exact ⟨⟨_, rfl⟩, .inr ⟨_, trivial, hJx3⟩⟩
    · have hlt' : ¬ ((118 * k : Nat) : Int) < xs.length := by omega
      have hkk : k = cntB xs := by rw [cntB] at hk ⊢; omega
      gi_wp2
      go_end0
      exact ⟨⟨_, rfl⟩, .inl ⟨pre, by rw [hpre, hkk], hJs⟩⟩
end Go.Proofs.Ytdjoflhcagfmiaa

/-
  The number that bytes have, as the program reads it.
  Conditions: at most four bytes.
-/
set_option linter.unusedVariables false
set_option linter.unusedSimpArgs false
set_option maxRecDepth 100000
namespace Go.Proofs.Ytdjoflhcagfmiaa
open Go.RowKit Go.Shelf

attribute [local go_sem] Oper.semAt_some

theorem back_made (A : Option Addr) (n c : Nat) (w : World) :
    Calls Try.prog 62 #[.slice A n c] w fun e w' => e = .returned (.func (.func 88) #[] #[.pointer (some ⟨w.heap.size, 0, none⟩)]) ∧ w' = w.alloc (.cells #[.slice A n c] 34) := by
  have hmf : ∀ (fn : Fn) (first cap : Array Value) (w : World), (Instr.makeFunc fn first cap).run Try.prog w = .ok (.func fn first cap) w := fun _ _ _ _ => rfl
  go_enter Try.func62, Try.ntmps62
  go_wp2
  go_ret
  exact ⟨rfl, rfl⟩
theorem leN_pre (pre : List (Nat × UInt8)) (x : Nat × UInt8) : leN ((pre ++ [x]).map (·.2)).reverse = x.2.toNat + 256 * leN (pre.map (·.2)).reverse := by
  rw [List.map_append, List.map_cons, List.map_nil, List.reverse_append]; rfl
theorem leN_short {pre : List (Nat × UInt8)} (h : pre.length < 4) : leN (pre.map (·.2)).reverse < 16777216 := by
  have h1 := leN_lt (pre.map (·.2)).reverse
  rw [List.length_reverse, List.length_map] at h1
  exact Nat.lt_of_lt_of_le h1 (Nat.pow_le_pow_right (n := 256) (by omega) (by omega : pre.length ≤ 3))

theorem shl_or8 {n x : Nat} (hn : n < 16777216) (hx : x < 256) : (n * 256) ||| x = x + 256 * n := by
  have h := Nat.two_pow_add_eq_or_of_lt (i := 8) (b := x) (by omega) n
  rw [show n * 256 = 2 ^ 8 * n from by omega, ← h]; omega

set_option maxHeartbeats 2000000 in
theorem snum_any (v : Value) (xs : Bs) (w : World) (hx : Txt w w.heap.size v xs) (hl : xs.length ≤ 4) :
    Calls Try.prog 38 #[v] w fun e w' => e = .returned (.int .u32 (leN xs : Nat)) ∧ Below w.heap.size w w' := by
  have X := Lib.hid hx
  have HL := Lib.hid hl
  obtain ⟨A, cap, rfl, -, -, -, -⟩ := hx
  clear hl
  refine (callsIn_wide (n := 3)).1 ?_
  refine callsIn_of_wp_marks Try.func38 rfl trivial ?_ rfl
  simp only [Try.ntmps38, List.size_toArray, List.length_cons, List.length_nil, Nat.reduceAdd, Nat.reduceSub, Array.replicate_succ, Array.replicate_zero, List.push_toArray, List.append_toArray, List.nil_append, List.cons_append]
  gi_wp2_with fail
  have hq1 := heap_alloc_self w (.cells #[.int .u32 0] 33)
  have hqb := below_new w (.cells #[.int .u32 0] 33)
  generalize w.alloc (.cells #[.int .u32 0] 33) = q at hq1 hqb ⊢
  refine ⟨trivial, ?_⟩
  refine (callsIn_wide.2 (back_made A xs.length cap q)).mono ?_
  rintro e w2 ⟨rfl, he2⟩
  have hBW : Boxed w2 q.heap.size 34 (.slice A xs.length cap) := by rw [he2]; exact Boxed.new q _ _
  have hb2 : Below q.heap.size q w2 := by rw [he2]; exact below_new _ _
  clear he2
  have QB := Lib.hid hqb
  have B2 := Lib.hid (hqb.trans (hb2.mono hqb.size))
  have N2 : Hid (Boxed w2 w.heap.size 33 (.int .u32 0)) := Lib.hid ((hb2.block _ (heap_lt hq1)).trans hq1)
  have LW : Hid (w.heap.size < q.heap.size ∧ q.heap.size < w2.heap.size) := Lib.hid ⟨heap_lt hq1, hBW.lt⟩
  clear hq1 hqb hb2
  gi_wp2_with fail
  refine wpIn_rangeFunc_ownF rfl (by omega) (gf := 88) (lb := #[.pointer (some ⟨q.heap.size, 0, none⟩)]) rfl trivial (enters_of Try.func88 (by kernel_rfl) rfl)
    (encs := encK) (Kp := KeepB w.heap.size) (S := fun xs' : List (Nat × UInt8) => xs'.map (·.2) = xs.reverse) (Sp := fun _ => True) (N := xs.length) (w0 := w2)
    (fun l J Jx W hW hJ hJx hY h0 => back1_whole 2 (by omega) l q.heap.size w.heap.size w2 xs _ (X.out.below B2.out) (by have := HL.out; omega) J Jx W hJ hY (by have := hW.size; have := LW.out; omega) (hW.mono (by have := LW.out; omega)) ((hW.block _ hBW.lt).trans hBW) h0)
    KeepB.trans (fun W l o o' hl h ho _ => KeepB.putObj W l o o' (by have := LW.out; omega) h ho) (Below.refl _ _) (fun _ => rfl)
    (fun pre W => Boxed W w.heap.size 33 (.int .u32 (leN (pre.map (·.2)).reverse : Nat)) ∧ Below w.heap.size w2 W)
    (fun _ _ _ => False)
    (OwnFrom.and (fun s W W' row (h : W.heap[w.heap.size]? = _) hg hr => heap_turned h hg (fun r e => (hr r e).2)) (ownFrom_below (by have := LW.out; omega) (by have := LW.out; omega)))
    (fun _ _ _ _ _ hs _ _ => hs)
    ⟨N2.out, Below.refl _ _⟩
    (fun x => { tmps := #[.slice A xs.length cap, undef, .int .u32 0, .pointer (some ⟨w.heap.size, 0, none⟩), undef, .int .u8 (x.2.toNat : Int), .slice A xs.length cap, .func (.func 88) #[] #[.pointer (some ⟨q.heap.size, 0, none⟩)], .int .i64 x.1, .int .u8 (x.2.toNat : Int), undef, undef, undef, undef, undef, undef], defers := [] }) ?assign ?body ?done ?stop
  case assign =>
    intro l x W K hK
    dsimp only [encK]
    gi_wp2
    exact hK
  case body =>
    rintro l pre x W ⟨hn, hB⟩ hlt
    have hc := hn.cell
    have hf := hn.frozen
    have hs := leN_short (pre := pre) (by have := HL.out; omega)
    have hp := leN_pre pre x
    generalize leN (pre.map (·.2)).reverse = N at *
    have hx8 := UInt8.toNat_lt x.2
    gi_wp2
    have hv : bits .or .u32 ((N : Int) * 256) (x.2.toNat : Int) = ((x.2.toNat + 256 * N : Nat) : Int) := by
      have h := shl_or8 hs hx8
      have h2 := u32_or_nat (N * 256) x.2.toNat (by omega) (by omega)
      rw [h] at h2
      rw [← h2]
      congr 1
    rw [hv, ← hp]
    exact ⟨KeepsOthers.setCell W _ _, ⟨(Below.refl _ _).setCell (p := ⟨w.heap.size, 0, none⟩) (Nat.le_refl _) _, fun bn t v ht hb => hb.kept (grownBy_setCell' W w.heap.size _) (fun e => by
      obtain rfl : bn = w.heap.size := by simpa using e
      have h1 : W.heap[w.heap.size]? = _ := hb
      have h2 : W.heap[w.heap.size]? = _ := hn
      rw [h1] at h2
      cases h2
      rcases ht with h | h <;> exact absurd h (by decide))⟩, hn.set _, hB.setCell (p := ⟨w.heap.size, 0, none⟩) (Nat.le_refl _) _⟩
  case done =>
    rintro D xs' W hD hS ⟨hn, hB⟩ hK
    rw [hS, List.reverse_reverse] at hn
    have hc := hn.cell
    gi_wp2
    refine ⟨by simp, .inl ⟨_, _, rfl, run_takeDeferred hK, ?_⟩⟩
    refine ⟨_, results_tmp rfl _ _ _, rfl, ?_⟩
    exact B2.out.trans (hB.trans ((Below.refl _ _).grown (grownBy_putObj' W D (.deferred none)) (by have := (Nat.le_trans B2.out.size hB.size); exact this) (fun k hk => by cases hk; have := LW.out; omega)))
  case stop =>
    rintro D c pre W _ _ h _
    exact h.elim
end Go.Proofs.Ytdjoflhcagfmiaa

/-
  What a slot's sectors tell, as the program reads it.
  Conditions: sixteen sectors of 128 bytes each.
-/
set_option linter.unusedVariables false
set_option linter.unusedSimpArgs false
set_option maxRecDepth 100000
namespace Go.Proofs.Ytdjoflhcagfmiaa
open Go.RowKit

/-- A text in memory of the call's own, not shared below lo; it may be written. -/
def OwnTxt (W : World) (lo : Nat) (u : Value) (t : Bs) : Prop :=
  ∃ (b off cap : Nat) (cs : Array Value), u = .slice (some ⟨b, off, none⟩) t.length cap ∧ lo ≤ b ∧ W.heap[b]? = some (.cells cs 5 (0, 0)) ∧ t.length ≤ cap ∧ cap ≤ maxLen ∧ ∀ j (h : j < t.length), cs[off + j]? = some (u8 t[j])
theorem OwnTxt.txt {W : World} {lo : Nat} {u : Value} {t : Bs} (h : OwnTxt W lo u t) : Txt W W.heap.size u t := by
  obtain ⟨b, off, cap, cs, rfl, hb, hh, h1, h2, h3⟩ := h
  refine ⟨_, cap, rfl, h1, h2, fun e => (by cases e), fun _ => ⟨b, off, rfl, (Array.getElem?_eq_some_iff.1 hh).1, fun j hj => ?_⟩⟩
  rw [cell_of_row _ _ _ _ _ _ hh]
  exact h3 j hj
theorem OwnTxt.below {W W' : World} {lo : Nat} {u : Value} {t : Bs} (h : OwnTxt W lo u t) (hb : Below W.heap.size W W') : OwnTxt W' lo u t := by
  obtain ⟨b, off, cap, cs, rfl, h0, hh, h1, h2, h3⟩ := h
  exact ⟨b, off, cap, cs, rfl, h0, (hb.block _ (Array.getElem?_eq_some_iff.1 hh).1).trans hh, h1, h2, h3⟩
theorem OwnTxt.mono {W : World} {lo lo' : Nat} {u : Value} {t : Bs} (h : OwnTxt W lo u t) (hl : lo' ≤ lo) : OwnTxt W lo' u t := by
  obtain ⟨b, off, cap, cs, rfl, h0, h⟩ := h
  exact ⟨b, off, cap, cs, rfl, Nat.le_trans hl h0, h⟩
/-- What is told of a slot: a record, or none. -/
def ToldSaid (W : World) (lo : Nat) (r : Option (Nat × Bs)) (e : Ending) : Prop :=
  match r with
  | none => e = .returned (.tuple #[.agg #[.int .u32 0, .slice none 0 0], .bool false])
  | some (g, t) => ∃ u, e = .returned (.tuple #[.agg #[.int .u32 g, u], .bool true]) ∧ OwnTxt W lo u t

theorem bodyS_snoc {S : List Bs} {i : Nat} {s : Bs} (h : S[i]? = some s) : bodyS (S.take (i + 1)) = bodyS (S.take i) ++ (s.drop 6).take 118 := by
  rw [List.take_add_one, h, Option.toList_some, bodyS_append]
  simp [bodyS, midB]
theorem infoRec : (Try.prog.info? 36).map (fun i => (i.zero, i.size, i.bytes)) = some (some (.agg #[.int .u32 0, .slice none 0 0]), 2, 32) := by kernel_rfl
theorem infoRec2 : (Try.prog.info? 36).map (·.size) = some 2 := by kernel_rfl

set_option maxHeartbeats 4000000 in
theorem stold_any (v : Value) (S : List Bs) (w : World) (h : SecsIn w w.heap.size v S) (hl : S.length = 16) (h128 : ∀ s ∈ S, s.length = 128) :
    Calls Try.prog 54 #[v] w fun e w' => ToldSaid w' w.heap.size (toldR S) e ∧ Below w.heap.size w w' := by
  have H := Lib.hid h
  obtain ⟨A, cap, rfl, -, -, -, -⟩ := h
  have HL := Lib.hid hl
  rw [hl] at H ⊢
  obtain ⟨i0, hi, hz0, hz1, hz2⟩ := info_parts infoByte
  have I0 := Lib.hid hi
  have I1 := Lib.hid hz0
  have I2 := Lib.hid hz1
  have I3 := Lib.hid hz2
  have H128 := Lib.hid h128
  clear hi hz0 hz1 hz2 hl h128
  go_enter Try.func54, Try.ntmps54
  go_wp2_with fail
  have hq1 := heap_alloc_self w (.cells #[.int .u32 0, .slice none 0 0] 36)
  have hqb := below_new w (.cells #[.int .u32 0, .slice none 0 0] 36)
  generalize w.alloc (.cells #[.int .u32 0, .slice none 0 0] 36) = q at hq1 hqb ⊢
  have Q1 := Lib.hid hq1
  have QB := Lib.hid hqb
  have QL : w.heap.size < q.heap.size := heap_lt hq1
  have QB0 := Lib.hid hqb
  clear hq1 hqb
  go_loopw [4, 12] (fun s4 s12 wr => ∃ i : Nat, i ≤ 16 ∧ s12 = .int .i64 i ∧ wr.ownsRow q.heap.size 5 1 s4 (118 * i) ((bodyS (S.take i)).map u8) ∧ wr.heap[w.heap.size]? = some (.cells #[.int .u32 0, .slice none 0 0] 36 (0, 0)) ∧ Below w.heap.size w wr ∧ q.heap.size ≤ wr.heap.size) (fun _ s12 _ => 16 - (intOf s12).toNat)
  case atStart => exact ⟨0, by omega, rfl, World.ownsRow_nil _ _ _ _, Q1.out, QB.out, Nat.le_refl _⟩
  case round =>
    obtain ⟨i, hi, rfl, ho, hc, hb, hs⟩ := hrel
    clear Q1 QB
    obtain ⟨A4, c4, rfl⟩ := own_slice_ ho
    have HO := Lib.hid ho
    have HC := Lib.hid hc
    have HB := Lib.hid hb
    have HS := Lib.hid hs
    clear ho hc hb hs
    by_cases hlt : i < 16
    · have hlt' : (i : Int) < 16 := by omega
      have hiS : i < S.length := by rw [HL.out]; exact hlt
      obtain ⟨b, off, u, rfl, hbb, hcu, htu⟩ := H.out.at hiS
      have hl1 : S[i].length = 128 := H128.out _ (List.getElem_mem hiS)
      have hcu' := (HB.out.cell (p := ⟨b, _, none⟩) hbb).trans hcu
      have HT := Lib.hid (htu.below HB.out)
      obtain ⟨A6, c6, rfl, -, -, -, -⟩ := htu
      rw [hl1] at hcu'
      have hsn := bodyS_snoc (List.getElem?_eq_getElem hiS)
      have HSN := Lib.hid hsn
      have ht1 := HT.out
      obtain ⟨b6, o6, h6, hc6, hsub⟩ := ht1.sub (k := 6) (L := 118) (by omega) (by omega)
      rw [hl1] at hc6
      subst h6
      have hcu' : wr.cell? ⟨b, off + i, none⟩ = some (.slice (some ⟨b6, o6, none⟩) 128 c6) := hcu'
      have HSUB := Lib.hid hsub
      have hc6a : (124 : Int) ≤ c6 := by omega
      have hbl : ((S[i].drop 6).take 118).length = 118 := by rw [List.length_take, List.length_drop, hl1]; omega
      have HBL := Lib.hid hbl
      have HQL := QL
      clear hsn hsub ht1 hcu hbl
      go_wp2_with (refine wpList_append_txt (o := ⟨some 19, _, _, _, _, _⟩) rfl (.tmp 16) (.tmp 18) _ rfl Try.underlying34 I0.out I1.out I2.out I3.out rfl HO.out rfl HSUB.out (by rw [HBL.out]; omega) HS.out ?_; intro v1 w1 hown1 hgrow1; obtain ⟨A1, c1, rfl⟩ := own_slice_ hown1)
      go_roundw
      case measure => simp [intOf]; omega
      case rel =>
        refine ⟨i + 1, by omega, by go_num, ?_, ?_, ?_, ?_⟩
        · rw [HSN.out, List.map_append, show 118 * (i + 1) = 118 * i + 118 from by omega]
          rw [HBL.out] at hown1
          exact hown1
        · exact (hgrow1.block _ (heap_lt HC.out) (fun e => by have := own_ge HO.out _ e.symm; have := HQL; omega)).trans HC.out
        · exact HB.out.grown hgrow1 HB.out.size (fun k hk => by have := own_ge HO.out k hk; have := HQL; omega)
        · exact Nat.le_trans HS.out hgrow1.size
    · obtain rfl : i = 16 := by omega
      have hlt' : ¬ (16 : Int) < 16 := by omega
      have hO := HO.out
      rw [List.take_of_length_le (by rw [HL.out]; exact Nat.le_refl _)] at hO
      obtain ⟨B, hB⟩ : ∃ B, B = bodyS S := ⟨_, rfl⟩
      rw [← hB] at hO
      have hBl : B.length = 1888 := by rw [hB, bodyS_length H128.out, HL.out]
      have HBB := Lib.hid hB
      have HBL := Lib.hid hBl
      obtain ⟨A0, o0, u0, rfl, hb0, hcu, htu⟩ := H.out.at (j := 0) (by rw [HL.out]; omega)
      have hl0 : (S[0]'(by rw [HL.out]; omega)).length = 128 := H128.out _ (List.getElem_mem _)
      have hg0 : genS S = leN ((S[0]'(by rw [HL.out]; omega)).take 4) := by rw [genS, List.getD_eq_getElem?_getD, List.getElem?_eq_getElem (by rw [HL.out]; omega)]; rfl
      have HG0 := Lib.hid hg0
      have hT0 : Txt w w.heap.size u0 _ := htu
      generalize S[0]'(by rw [HL.out]; omega) = s0 at hl0 hg0 hT0 HG0 hcu
      have HC0 := Lib.hid ((HB.out.cell (p := ⟨A0, _, none⟩) hb0).trans hcu)
      have HT0 := Lib.hid (hT0.below HB.out)
      obtain ⟨A6, c6, rfl, hc6, -, -, -⟩ := hT0
      have HC0 : Hid (wr.cell? ⟨A0, o0, none⟩ = some (.slice A6 128 c6)) := Lib.hid (by have := HC0.out; rw [hl0] at this; exact this)
      clear htu hg0 hcu hB
      have hO2 := hO.2
      rcases hO2 with ⟨_, h2⟩ | ⟨b4, cp4, cur, e4, hlo4, hgb4, hcap4, hmx4, hsz4, htk4⟩
      · omega
      cases e4
      have HO4 := Lib.hid hgb4
      have HTX := Lib.hid (Txt.of_own (by rw [hBl]; exact hO) (by rw [hBl]; unfold maxLen; omega))
      have hLO := Lib.hid hlo4
      have HMX := Lib.hid hmx4
      have hcells : ∀ j, (h : j < B.length) → cur[j]? = some (u8 B[j]) := fun j hj => by
        have := congrArg (fun l : List Value => l[j]?) htk4
        simp only [List.getElem?_map, List.getElem?_eq_getElem hj, Option.map_some] at this
        rw [List.getElem?_take_of_lt (by omega), Array.getElem?_toList] at this
        exact this
      have HCE := Lib.hid hcells
      have hc6' : (4 : Int) ≤ c6 := by omega
      have hc4' : (6 : Int) ≤ c4 := by omega
      have hc4'' : 1888 ≤ c4 := by omega
      have hne4 : ¬ c4 = 6 := by omega
      have ht4 : Txt wr wr.heap.size (.slice (some ⟨b4, 4, none⟩) 2 (c4 - 4)) ((B.drop 4).take 2) := by
        have h := HTX.out
        rw [show (118 * 16) = B.length from by rw [hBl]] at h
        obtain ⟨bb, oo, e, _, hh⟩ := h.sub (k := 4) (L := 2) (by omega) (by omega)
        cases e
        simpa using hh
      have HT4 := Lib.hid ht4
      have ht0 : Txt wr w.heap.size (.slice A6 4 c6) (s0.take 4) := by
        have h := HT0.out
        exact h.cut (by omega)
      have HTa := Lib.hid ht0
      have HBS := HB
      clear hO hlo4 hgb4 hcap4 hsz4 htk4 hcells ht4 ht0 hmx4
      go_wp2_with fail
      refine wp_region_held_drew (S := fun w' => Below wr.heap.size wr.drew w') (by kernel_rfl) (Below.refl _ _) (fun hHeld => ?_)
      refine wpAnyH_take (i := 0) (v := ?_) rfl (by kernel_rfl) (by kernel_rfl) (by kernel_rfl) (fun _ _ _ h => h) (Or.inl ⟨by rfl, ?_⟩) hHeld ?_
      rotate_left
      · intro w' hSw; go_simp; try with_reducible rfl
      simp only [List.getElem_toArray, List.getElem_cons_succ, List.getElem_cons_zero, Act.put, List.setIfInBounds_toArray, List.set_cons_zero, List.set_cons_succ]
      refine wpAnyH_take (i := 1) (v := ?_) rfl (by kernel_rfl) (by kernel_rfl) (by kernel_rfl) (fun _ _ _ h => h) (Or.inl ⟨by rfl, ?_⟩) hHeld ?_
      rotate_left
      · intro w' hSw; go_simp; try with_reducible rfl
      simp only [List.getElem_toArray, List.getElem_cons_succ, List.getElem_cons_zero, Act.put, List.setIfInBounds_toArray, List.set_cons_zero, List.set_cons_succ]
      refine wpAnyH_take (i := 2) (v := ?_) rfl (by kernel_rfl) (by kernel_rfl) (by kernel_rfl) (fun _ _ _ h => h) (Or.inl ⟨by rfl, ?_⟩) hHeld ?_
      rotate_left
      · intro w' hSw; have c0 := ((show Below wr.heap.size wr.drew w' from hSw).cell (p := ⟨A0, o0, none⟩) (cell_lt HC0.out)).trans HC0.out; go_simp; try with_reducible rfl
      simp only [List.getElem_toArray, List.getElem_cons_succ, List.getElem_cons_zero, Act.put, List.setIfInBounds_toArray, List.set_cons_zero, List.set_cons_succ]
      refine wpAnyH_take (i := 3) (v := ?_) rfl (by kernel_rfl) (by kernel_rfl) (by kernel_rfl) (fun _ _ _ h => h) (Or.inl ⟨by rfl, ?_⟩) hHeld ?_
      rotate_left
      · intro w' hSw; go_simp; try with_reducible rfl
      simp only [List.getElem_toArray, List.getElem_cons_succ, List.getElem_cons_zero, Act.put, List.setIfInBounds_toArray, List.set_cons_zero, List.set_cons_succ]
      refine wpAnyH_take (i := 5) (v := ?_) rfl (by kernel_rfl) (by kernel_rfl) (by kernel_rfl) (fun _ _ _ h => h) (Or.inl ⟨by rfl, ?_⟩) hHeld ?_
      rotate_left
      · intro w' hSw; go_simp; try with_reducible rfl
      simp only [List.getElem_toArray, List.getElem_cons_succ, List.getElem_cons_zero, Act.put, List.setIfInBounds_toArray, List.set_cons_zero, List.set_cons_succ]
      refine wpAnyH_take (i := 6) (v := ?_) rfl (by kernel_rfl) (by kernel_rfl) (by kernel_rfl) (fun _ _ _ h => h) (Or.inl ⟨by rfl, ?_⟩) hHeld ?_
      rotate_left
      · intro w' hSw; go_simp; try with_reducible rfl
      simp only [List.getElem_toArray, List.getElem_cons_succ, List.getElem_cons_zero, Act.put, List.setIfInBounds_toArray, List.set_cons_zero, List.set_cons_succ]
      refine wpAnyH_take (i := 9) (v := ?_) rfl (by kernel_rfl) (by kernel_rfl) (by kernel_rfl) (fun _ _ _ h => h) (Or.inl ⟨by rfl, ?_⟩) hHeld ?_
      rotate_left
      · intro w' hSw; go_simp; try with_reducible rfl
      simp only [List.getElem_toArray, List.getElem_cons_succ, List.getElem_cons_zero, Act.put, List.setIfInBounds_toArray, List.set_cons_zero, List.set_cons_succ]
      refine wpAnyH_take (i := 10) (v := ?_) rfl (by kernel_rfl) (by kernel_rfl) (by kernel_rfl) (fun _ _ _ h => h) (Or.inl ⟨by rfl, ?_⟩) hHeld ?_
      rotate_left
      · intro w' hSw; go_simp; try with_reducible rfl
      simp only [List.getElem_toArray, List.getElem_cons_succ, List.getElem_cons_zero, Act.put, List.setIfInBounds_toArray, List.set_cons_zero, List.set_cons_succ]
      refine wpAnyH_ready (rs := [4]) (by kernel_rfl) (by simp) ?_
      refine AllReadyH.cons rfl (fun K hK => ?_) AllReadyH.nil
      go_simp
      refine (snum_any _ _ wr.drew ((HTa.out.below (Below.refl _ _).drew).more HBS.out.size) (by rw [List.length_take]; omega)).mono ?_
      rintro e wA ⟨rfl, bA⟩
      have BA : Hid (Below wr.heap.size wr.drew wA) := Lib.hid bA
      clear bA
      try go_wp2_with fail
      refine hK.out _ _ ?_ (fun hHeld => ?_)
      · exact BA.out
      clear hK K
      try simp only [List.getElem_toArray, List.getElem_cons_succ, List.getElem_cons_zero, Act.put, List.setIfInBounds_toArray, List.set_cons_zero, List.set_cons_succ]
      refine wpAnyH_ready (rs := [7]) (by kernel_rfl) (by simp) ?_
      refine AllReadyH.cons rfl (fun K hK => ?_) AllReadyH.nil
      go_simp
      refine (snum_any _ _ wA ((HT4.out.below ((show Below wr.heap.size wr wA from (Below.refl _ _).drew.trans BA.out))).more BA.out.size) (by rw [List.length_take]; omega)).mono ?_
      rintro e wB ⟨rfl, bB⟩
      have BB : Hid (Below wr.heap.size wr.drew wB) := Lib.hid (BA.out.trans (bB.mono BA.out.size))
      clear bB
      try go_wp2_with fail
      refine hK.out _ _ ?_ (fun hHeld => ?_)
      · exact BB.out
      clear hK K
      try simp only [List.getElem_toArray, List.getElem_cons_succ, List.getElem_cons_zero, Act.put, List.setIfInBounds_toArray, List.set_cons_zero, List.set_cons_succ]
      refine wpAnyH_take (i := 8) (v := ?_) rfl (by kernel_rfl) (by kernel_rfl) (by kernel_rfl) (fun _ _ _ h => h) (Or.inl ⟨by rfl, ?_⟩) hHeld ?_
      rotate_left
      · intro w' hSw; go_simp; try with_reducible rfl
      simp only [List.getElem_toArray, List.getElem_cons_succ, List.getElem_cons_zero, Act.put, List.setIfInBounds_toArray, List.set_cons_zero, List.set_cons_succ]
      refine wpAnyH_take (i := 11) (v := ?_) rfl (by kernel_rfl) (by kernel_rfl) (by kernel_rfl) (fun _ _ _ h => h) (Or.inl ⟨by rfl, ?_⟩) hHeld ?_
      rotate_left
      · intro w' hSw; go_simp; try with_reducible rfl
      simp only [List.getElem_toArray, List.getElem_cons_succ, List.getElem_cons_zero, Act.put, List.setIfInBounds_toArray, List.set_cons_zero, List.set_cons_succ]
      refine wpAnyH_take (i := 12) (v := ?_) rfl (by kernel_rfl) (by kernel_rfl) (by kernel_rfl) (fun _ _ _ h => h) (Or.inl ⟨by rfl, ?_⟩) hHeld ?_
      rotate_left
      · intro w' hSw; go_simp; try with_reducible rfl
      simp only [List.getElem_toArray, List.getElem_cons_succ, List.getElem_cons_zero, Act.put, List.setIfInBounds_toArray, List.set_cons_zero, List.set_cons_succ]
      refine wpAnyH_take (i := 13) (v := ?_) rfl (by kernel_rfl) (by kernel_rfl) (by kernel_rfl) (fun _ _ _ h => h) (Or.inl ⟨by rfl, ?_⟩) hHeld ?_
      rotate_left
      · intro w' hSw; go_simp; try with_reducible rfl
      simp only [List.getElem_toArray, List.getElem_cons_succ, List.getElem_cons_zero, Act.put, List.setIfInBounds_toArray, List.set_cons_zero, List.set_cons_succ]
      refine wpAnyH_done (by kernel_rfl) ?_ _
      have hC2 := (BB.out.block w.heap.size (heap_lt HC.out)).trans HC.out
      have C2 := Lib.hid hC2
      have B2 : Hid (Below w.heap.size w wB) := Lib.hid (HBS.out.trans (((Below.refl _ wr).drew.trans BB.out).mono HBS.out.size))
      have G2 := Lib.hid ((BB.out.block b4 (heap_lt HO4.out)).trans HO4.out)
      obtain ⟨r0, r1⟩ := cell2_of hC2
      have f0 := frozen2_of hC2 0
      have f1 := frozen2_of hC2 1
      obtain ⟨G, hG⟩ : ∃ G, G = leN (s0.take 4) := ⟨_, rfl⟩
      obtain ⟨Z, hZ⟩ : ∃ Z, Z = leN ((B.drop 4).take 2) := ⟨_, rfl⟩
      have hZl : Z < 65536 := by
        rw [hZ]
        exact Nat.lt_of_lt_of_le (leN_lt _) (Nat.pow_le_pow_right (n := 256) (by omega) (by rw [List.length_take]; omega : ((B.drop 4).take 2).length ≤ 2))
      have hwz : IntKind.i64.wrap (Z : Int) = Z := by simp [IntKind.wrap, IntKind.bits]; omega
      have hT : toldR S = if G = 0 ∨ 1882 < Z then none else some (G, (B.drop 6).take Z) := by
        rw [toldR, HG0.out, ← hG, ← HBB.out, textS, sizeS, ← hZ, HBL.out]
      rw [← hG, ← hZ, hwz]
      have HT := Lib.hid hT
      clear hG hZ hwz hT HT4 HTa HC0 HG0 hHeld HTX HT0 HC HB hC2
      by_cases hg : G = 0
      · subst hg
        go_wp2_with fail
        refine bodyPost_ret (results_2_tmp rfl _ _ w.heap.size rfl (heap_set2 C2.out _ _) Try.underlying36 infoRec2 _ rfl) rfl ⟨?_, below_set2 B2.out (Nat.le_refl _) _ _⟩
        rw [HT.out, if_pos (by simp)]
        exact rfl
      · have hg' : ¬ (G : Int) = 0 := by omega
        by_cases hz : 1882 < Z
        · have hz' : (1882 : Int) < Z := by omega
          go_wp2_with fail
          refine bodyPost_ret (results_2_tmp rfl _ _ w.heap.size rfl (heap_set2 C2.out _ _) Try.underlying36 infoRec2 _ rfl) rfl ⟨?_, below_set2 B2.out (Nat.le_refl _) _ _⟩
          rw [HT.out, if_pos (.inr hz)]
          exact rfl
        · have hz' : ¬ (1882 : Int) < Z := by omega
          have hz3 : (Z : Int) ≤ c4 - 6 := by omega
          have hz4 : (Z : Int) ≤ ((c4 - 6 : Nat) : Int) := by omega
          have hc46 : 1882 ≤ c4 - 6 := by omega
          go_wp2_with fail
          have hlt : ((B.drop 6).take Z).length = Z := by rw [List.length_take, List.length_drop, HBL.out]; omega
          have hne : b4 ≠ w.heap.size := by have := hLO.out; have := QL; omega
          have G3 := (heap_setFar (wB.setCell ⟨w.heap.size, 0, none⟩ (.int .u32 (G : Int))) w.heap.size 1 b4 (.slice (some ⟨b4, 6, none⟩) Z (c4 - 6)) hne).trans ((heap_setFar wB w.heap.size 0 b4 (.int .u32 (G : Int)) hne).trans G2.out)
          refine bodyPost_ret (results_2_tmp rfl _ _ w.heap.size rfl (heap_set2 C2.out _ _) Try.underlying36 infoRec2 _ rfl) rfl ⟨?_, below_set2 B2.out (Nat.le_refl _) _ _⟩
          rw [HT.out, if_neg (by rintro (h | h) <;> omega)]
          refine ⟨_, rfl, b4, 6, c4 - 6, cur, by rw [hlt], by have := hLO.out; have := QL; omega, G3, by omega, by have := HMX.out; omega, fun j hj => ?_⟩
          rw [hlt] at hj
          rw [HCE.out (6 + j) (by rw [HBL.out]; omega)]
          simp
end Go.Proofs.Ytdjoflhcagfmiaa

/-
  The closure that puts numbers into memory, each behind the one ahead.
  Conditions: as many bytes are left as the number is to have.
-/
set_option linter.unusedVariables false
set_option linter.unusedSimpArgs false
set_option maxRecDepth 100000
namespace Go.Proofs.Ytdjoflhcagfmiaa
open Go.RowKit

/-- Two blocks alone may have changed. -/
structure Only2 (w W : World) (a b : Nat) : Prop where
  os : W.os = w.os
  tape : W.tape = w.tape
  output : W.output = w.output
  size : W.heap.size = w.heap.size
  block : ∀ k, k ≠ a → k ≠ b → W.heap[k]? = w.heap[k]?
theorem Only2.refl (w : World) (a b : Nat) : Only2 w w a b := ⟨rfl, rfl, rfl, rfl, fun _ _ _ => rfl⟩
theorem Only2.trans {w v W : World} {a b : Nat} (h : Only2 w v a b) (k : Only2 v W a b) : Only2 w W a b :=
  ⟨k.os.trans h.os, k.tape.trans h.tape, k.output.trans h.output, k.size.trans h.size, fun i h1 h2 => (k.block i h1 h2).trans (h.block i h1 h2)⟩
theorem Only2.set {w : World} {a b c j : Nat} (hc : c = a ∨ c = b) (x : Value) : Only2 w (w.setCell ⟨c, j, none⟩ x) a b :=
  ⟨rfl, rfl, rfl, by simp [World.setCell], fun k h1 h2 => Below.heap_setCell w ⟨c, j, none⟩ x k (by rcases hc with rfl | rfl <;> assumption)⟩
theorem Only2.below {w W : World} {a b B : Nat} (h : Only2 w W a b) (ha : B ≤ a) (hb : B ≤ b) (hB : B ≤ w.heap.size) : Below B w W :=
  ⟨h.os, h.tape, h.output, by rw [h.size]; exact Nat.le_refl _, fun k hk => h.block k (by omega) (by omega)⟩

/-- Bytes with others laid on them from a place on. -/
def putB (bs : Bs) (off : Nat) (xs : Bs) : Bs := bs.take off ++ xs ++ bs.drop (off + xs.length)
theorem putB_length {bs : Bs} {off : Nat} {xs : Bs} (h : off + xs.length ≤ bs.length) : (putB bs off xs).length = bs.length := by
  simp only [putB, List.length_append, List.length_take, List.length_drop]; omega
theorem putB_nil (bs : Bs) (off : Nat) : putB bs off [] = bs := by simp [putB]
theorem le_snoc (k n : Nat) : le (k + 1) n = le k n ++ [UInt8.ofNat (n / 256 ^ k)] := by
  induction k generalizing n with
  | zero => simp [le]
  | succ k ih => rw [le, ih (n / 256), le, List.cons_append, Nat.div_div_eq_div_mul, Nat.pow_succ, Nat.mul_comm 256]
theorem putB_snoc {bs : Bs} {off : Nat} {xs : Bs} {x : UInt8} (h : off + xs.length < bs.length) : (putB bs off xs).set (off + xs.length) x = putB bs off (xs ++ [x]) := by
  have h1 : (bs.take off ++ xs).length = off + xs.length := by rw [List.length_append, List.length_take]; omega
  rw [putB, List.set_append_right _ _ (by omega), h1, Nat.sub_self, List.drop_eq_getElem_cons h, List.set_cons_zero, putB, List.length_append, List.length_singleton, ← List.append_assoc, List.append_assoc (bs.take off ++ xs) [x]]
  rfl

/-- Where the closure stands: its box, and the memory that it goes through. -/
def PutAt (W : World) (bx m off r : Nat) (bs : Bs) (t : TypeId) : Prop :=
  off + r = bs.length ∧ (∃ o, W.heap[bx]? = some (.cells #[.slice (some ⟨m, o, none⟩) r r] 34 (0, 0)) ∧ (0 < r → o = off)) ∧ W.heap[m]? = some (.cells (rowB bs) t (0, 0))

theorem putter_made (A : Option Addr) (n c : Nat) (w : World) :
    Calls Try.prog 85 #[.slice A n c] w fun e w' => e = .returned (.func (.func 96) #[] #[.pointer (some ⟨w.heap.size, 0, none⟩)]) ∧ w' = w.alloc (.cells #[.slice A n c] 34) := by
  have hmf : ∀ (fn : Fn) (first cap : Array Value) (w : World), (Instr.makeFunc fn first cap).run Try.prog w = .ok (.func fn first cap) w := fun _ _ _ _ => rfl
  go_enter Try.func85, Try.ntmps85
  go_wp2
  go_ret
  exact ⟨rfl, rfl⟩

set_option maxHeartbeats 1000000 in
theorem put1_any (bx m off r n k : Nat) (bs : Bs) (t : TypeId) (w : World) (hn : n < 4294967296) (hk : k ≤ r) (hk4 : k ≤ 4) (hne : bx ≠ m) (h : PutAt w bx m off r bs t) :
    Calls Try.prog 96 #[.int .u32 n, .int .i64 k, .pointer (some ⟨bx, 0, none⟩)] w fun e w' => (∃ v, e = .returned v) ∧ PutAt w' bx m (off + k) (r - k) (putB bs off (le k n)) t ∧ Only2 w w' bx m := by
  have H := Lib.hid h
  clear h
  have HN := Lib.hid hne
  have LP : Hid (off + r = bs.length) := Lib.hid H.out.1
  clear hne
  go_enter Try.func96, Try.ntmps96
  go_wp2_with fail
  go_loopw [0, 6] (fun s0 s6 wr => ∃ i : Nat, i ≤ k ∧ s0 = .int .u32 ((n / 256 ^ i : Nat) : Int) ∧ s6 = .int .i64 i ∧ PutAt wr bx m (off + i) (r - i) (putB bs off (le i n)) t ∧ Only2 w wr bx m) (fun _ s6 _ => k - (intOf s6).toNat)
  case atStart => exact ⟨0, by omega, by simp, rfl, by simpa [le, putB_nil] using H.out, Only2.refl _ _ _⟩
  case round =>
    obtain ⟨i, hi, rfl, rfl, hp, ho⟩ := hrel
    clear H
    obtain ⟨p0, ⟨o, p1, p2⟩, p3⟩ := hp
    have HO := Lib.hid ho
    clear ho
    by_cases hlt : i < k
    · have hlt' : (i : Int) < k := by omega
      obtain rfl := p2 (by omega)
      have hc := cell_of_row wr bx 0 _ _ _ p1
      generalize hN : n / 256 ^ i = N
      have hNlt : N < 4294967296 := by rw [← hN]; exact Nat.lt_of_le_of_lt (Nat.div_le_self _ _) hn
      have hpl : off + i < (putB bs off (le i n)).length := by rw [← p0]; omega
      obtain ⟨y, hce⟩ : ∃ y, wr.cell? ⟨m, off + i, none⟩ = some y := ⟨_, (cell_of_row wr m (off + i) _ _ _ p3).trans (rowB_at hpl)⟩
      have hf := frozen_of_row wr m (off + i) _ _ p3
      have hx : (N : Int) % 256 = ((UInt8.ofNat N).toNat : Int) := by simp
      have hq1 := heap_setCell_same wr m (off + i) _ _ (.int .u8 ((N : Int) % 256)) p3
      have hset := rowB_set (putB bs off (le i n)) (off + i) (UInt8.ofNat N)
      have hq2 : (wr.setCell ⟨m, off + i, none⟩ (.int .u8 ((N : Int) % 256))).heap[bx]? = _ := (Below.heap_setCell wr ⟨m, off + i, none⟩ _ bx HN.out).trans p1
      have ho1 : Only2 wr (wr.setCell ⟨m, off + i, none⟩ (.int .u8 ((N : Int) % 256))) bx m := Only2.set (.inr rfl) _
      rw [← hx] at hset
      rw [hset] at hq1
      have hc2 := cell_of_row _ bx 0 _ _ _ hq2
      have hf2 := frozen_of_row _ bx 0 _ _ hq2
      obtain ⟨r', hr'⟩ : ∃ r', r - i = r' + 1 := ⟨r - i - 1, by omega⟩
      rw [hr'] at hc hc2
      have Q1 := Lib.hid hq1
      have Q2 := Lib.hid hq2
      have O1 := Lib.hid ho1
      clear hq1 hq2 ho1 hset hx
      have P0 := Lib.hid p0
      have P1 := Lib.hid p1
      clear p0 p1 p2
      by_cases hz : r' = 0
      · subst hz
        go_wp2
        go_roundw
        case measure => simp [intOf]; omega
        case rel =>
          have hrr : r - (i + 1) = 0 := by omega
          refine ⟨i + 1, by omega, by rw [Nat.pow_succ, ← Nat.div_div_eq_div_mul, hN]; simp, by go_num, ⟨?_, ⟨_, (by rw [hrr]; exact heap_setCell_same _ _ _ _ _ _ Q2.out), fun h => by omega⟩, ?_⟩, HO.out.trans (O1.out.trans (Only2.set (.inl rfl) _))⟩
          · have := P0.out
            have h1 := LP.out
            rw [putB_length (by rw [le_length]; omega)]
            omega
          · rw [le_snoc, hN, ← putB_snoc (by rw [le_length]; have := LP.out; omega), le_length]
            exact (Below.heap_setCell _ ⟨bx, 0, none⟩ _ m (Ne.symm HN.out)).trans Q1.out
      · go_wp2
        go_roundw
        case measure => simp [intOf]; omega
        case rel =>
          have hrr : r - (i + 1) = r' := by omega
          refine ⟨i + 1, by omega, by rw [Nat.pow_succ, ← Nat.div_div_eq_div_mul, hN]; simp, by go_num, ⟨?_, ⟨_, (by rw [hrr]; exact heap_setCell_same _ _ _ _ _ _ Q2.out), fun h => by omega⟩, ?_⟩, HO.out.trans (O1.out.trans (Only2.set (.inl rfl) _))⟩
          · have := P0.out
            have h1 := LP.out
            rw [putB_length (by rw [le_length]; omega)]
            omega
          · rw [le_snoc, hN, ← putB_snoc (by rw [le_length]; have := LP.out; omega), le_length]
            exact (Below.heap_setCell _ ⟨bx, 0, none⟩ _ m (Ne.symm HN.out)).trans Q1.out
    · obtain rfl : i = k := by omega
      have hlt' : ¬ (i : Int) < i := by omega
      go_wp2
      go_end0
      exact ⟨⟨_, rfl⟩, ⟨p0, ⟨o, p1, p2⟩, p3⟩, HO.out⟩
end Go.Proofs.Ytdjoflhcagfmiaa

/-
  A record's sector, filled by the program.
  Conditions: its piece of the record has at most 118 bytes.
-/
set_option linter.unusedVariables false
set_option linter.unusedSimpArgs false
set_option maxRecDepth 100000
namespace Go.Proofs.Ytdjoflhcagfmiaa
open Go.RowKit

theorem zero128 : (∀ w, (zeroValue 77).run Try.prog w = .ok (.agg (Array.replicate 128 (.int .u8 0))) w) ∧ (Try.prog.info? 77).map (·.size) = some 128 := zero_of_info (by kernel_rfl)
theorem splice_u8 (zs xs : Bs) (off : Nat) : (splice (zs.map u8) off (xs.map u8)).toArray = rowB (putB zs off xs) := by
  simp [splice, rowB, putB]
theorem putB_mid (pre rest xs : Bs) (off : Nat) (h : off = pre.length) : putB (pre ++ rest) off xs = pre ++ xs ++ rest.drop xs.length := by
  subst h
  rw [putB, List.take_left, List.drop_append, List.drop_eq_nil_of_le (by omega), List.nil_append]
  congr 1
  congr 1
  omega
theorem fill_steps (g i n : Nat) (p : Bs) (h : p.length ≤ 118) :
    putB (putB (putB (putB (putB (List.replicate 128 0) 0 (le 4 g)) 4 (le 1 i)) 5 (le 1 n)) 6 p) 124 (le 4 g) = secP g i n p := by
  have e0 : (List.replicate 128 (0 : UInt8)) = [] ++ List.replicate 128 0 := rfl
  rw [e0, putB_mid _ _ _ 0 rfl, le_length, List.drop_replicate, List.nil_append,
    putB_mid _ _ _ 4 (by rw [le_length]), le_length, List.drop_replicate,
    putB_mid _ _ _ 5 (by simp [le_length]), le_length, List.drop_replicate,
    putB_mid _ _ _ 6 (by simp [le_length]), List.drop_replicate,
    show 128 - 4 - 1 - 1 - p.length = (118 - p.length) + 4 from by omega, ← List.replicate_append_replicate, ← List.append_assoc,
    putB_mid _ _ _ 124 (by simp [le_length]; omega), le_length, List.drop_replicate]
  simp [secP, le, padB]
theorem Txt.src {W : World} {B : Nat} {A : Option Addr} {cap : Nat} {xs : Bs} (h : Txt W B (.slice A xs.length cap) xs) (hp : 0 < (xs.map u8).length) :
    ∃ ad, A = some ad ∧ ∀ j v, (xs.map u8)[j]? = some v → W.cell? (ad.add j) = some v := by
  obtain ⟨A', c', e, h1, h2, hn, h3⟩ := id h
  cases e
  obtain ⟨b, off, rfl, _, _⟩ := h3 (by simpa using hp)
  exact ⟨_, rfl, h.cells⟩
theorem int_word {n : Nat} (h : n < 4294967296) : (n : Int) % 4294967296 = n := by omega

theorem boxes3 (w : World) (a b c : Obj) : ∃ q, q = ((w.alloc a).alloc b).alloc c ∧ q.heap[w.heap.size]? = some a ∧ q.heap[w.heap.size + 1]? = some b ∧ q.heap[w.heap.size + 1 + 1]? = some c ∧ q.heap.size = w.heap.size + 3 ∧ Below w.heap.size w q := by
  refine ⟨_, rfl, ?_, ?_, ?_, by simp, (((Below.refl _ w).alloc (Nat.le_refl _) _).alloc (by simp) _).alloc (by simp; omega) _⟩
  · rw [heap_alloc_lt _ _ (by simp; omega), heap_alloc_lt _ _ (by simp)]; exact heap_alloc_self _ _
  · rw [heap_alloc_lt _ _ (by simp)]
    have := heap_alloc_self (w.alloc a) b
    simpa using this
  · have := heap_alloc_self ((w.alloc a).alloc b) c
    simpa using this

set_option maxHeartbeats 2000000 in
theorem sfilled_any (g i n : Nat) (p : Bs) (v : Value) (w : World) (hg : g < 4294967296) (hi : i < 256) (hn : n < 256) (hp : p.length ≤ 118) (h : Txt w w.heap.size v p) :
    Calls Try.prog 61 #[.int .u32 g, .int .i64 i, .int .i64 n, v] w fun e w' => e = .returned (.agg (rowB (secP g i n p))) ∧ Below w.heap.size w w' := by
  have hz := zero128.1
  have ei := int_word (n := i) (by omega)
  have en := int_word (n := n) (by omega)
  have X := Lib.hid h
  have HG := Lib.hid hg
  have HI := Lib.hid hi
  have HN := Lib.hid hn
  have HP := Lib.hid hp
  obtain ⟨A3, c3, rfl, -, -, -, -⟩ := h
  clear hg hi hn hp
  go_enter Try.func61, Try.ntmps61
  go_wp2_with (refine (putter_made _ _ _ _).mono ?_; rintro e w1 ⟨rfl, rfl⟩)
  obtain ⟨q, hq, q0, q1, q2, qs, qb⟩ := boxes3 w (.cells (Array.replicate 128 (.int .u8 0)) 77) (.cells (Array.replicate 128 (.int .u8 0)) 77) (.cells #[.slice (some ⟨w.heap.size + 1, 0, none⟩) 128 128] 34)
  rw [← hq]
  have Q0 := Lib.hid q0
  have QB := Lib.hid qb
  have QS := Lib.hid qs
  have hp0 : PutAt q (w.heap.size + 1 + 1) (w.heap.size + 1) 0 128 (List.replicate 128 0) 77 := ⟨by simp, ⟨0, q2, fun _ => rfl⟩, by rw [rowB_zero]; exact q1⟩
  clear hq q0 q1 q2 qb qs hz
  refine (put1_any (w.heap.size + 1 + 1) (w.heap.size + 1) 0 128 g 4 _ _ q HG.out (by omega) (by omega) (by omega) hp0).mono ?_
  rintro e q1 ⟨⟨y1, rfl⟩, hp1, ho1⟩
  clear hp0
  go_wp2_with fail
  refine (put1_any (w.heap.size + 1 + 1) (w.heap.size + 1) (0 + 4) (128 - 4) i 1 _ _ q1 (by have := HI.out; omega) (by omega) (by omega) (by omega) hp1).mono ?_
  rintro e q2 ⟨⟨y2, rfl⟩, hp2, ho2⟩
  clear hp1
  go_wp2_with fail
  refine (put1_any (w.heap.size + 1 + 1) (w.heap.size + 1) (0 + 4 + 1) (128 - 4 - 1) n 1 _ _ q2 (by have := HN.out; omega) (by omega) (by omega) (by omega) hp2).mono ?_
  rintro e q3 ⟨⟨y3, rfl⟩, hp3, ho3⟩
  clear hp2
  have H3 := Lib.hid hp3.2.2
  have O3 := Lib.hid (ho1.trans (ho2.trans ho3))
  have B3 : Hid (Below w.heap.size w q3) := Lib.hid (QB.out.trans (O3.out.below (by omega) (by omega) (by have := QS.out; omega)))
  have S3 : Hid (q3.heap.size = w.heap.size + 3) := Lib.hid (O3.out.size.trans QS.out)
  have R3 := Lib.hid ((O3.out.block w.heap.size (by omega) (by omega)).trans Q0.out)
  clear hp3 ho1 ho2 ho3
  obtain ⟨L3, hL3⟩ : ∃ L, L = (putB (putB (putB (List.replicate 128 0) 0 (le 4 g)) (0 + 4) (le 1 i)) (0 + 4 + 1) (le 1 n)) := ⟨_, rfl⟩
  have LL3 : Hid (L3.length = 128) := Lib.hid (by rw [hL3, putB_length, putB_length, putB_length] <;> simp [le_length, putB_length])
  rw [← hL3] at H3
  have XP := Lib.hid (X.out.below B3.out)
  go_wp2_with (refine wpList_copy_splice (o := ⟨some 26, _, _, _, _, _⟩) rfl (.tmp 24) (.tmp 25) _ _ rfl 5 Try.underlying34 infoByteSize _ _ _ _ p.length c3 rfl rfl (w.heap.size + 1) 6 (L3.map u8) 77 H3.out (p.map u8) (by have := HP.out; rw [List.length_map]; exact (Nat.min_eq_left (by omega)).symm) (fun hp => ⟨rfl, XP.out.src hp⟩) (by have := HP.out; have := LL3.out; rw [List.length_map, List.length_map]; omega) (u8s_oneCell p) (w.heap.size + 1) q3 (Below.refl _ _) (Nat.le_refl _) ?_; intro w4 hg4 hb4)
  have hg5 := hg4.out
  rw [splice_u8] at hg5
  have R4 := Lib.hid ((hb4.block w.heap.size (by omega)).trans R3.out)
  have B4 := Lib.hid (B3.out.trans (hb4.mono (by omega)))
  have L4 := Lib.hid hb4.size
  have G4 := Lib.hid hg5
  clear hg4 hg5 hb4
  go_wp2_with (refine (putter_made _ _ _ _).mono ?_; rintro e w5 ⟨rfl, rfl⟩)
  have hM : w.heap.size + 1 < w4.heap.size := by have := L4.out; have := S3.out; omega
  have k1 := heap_alloc_self w4 (.cells #[.slice (some ⟨w.heap.size + 1, 124, none⟩) 4 4] 34)
  have k2 := (heap_alloc_lt w4 (.cells #[.slice (some ⟨w.heap.size + 1, 124, none⟩) 4 4] 34) hM).trans G4.out
  have k3 := (heap_alloc_lt w4 (.cells #[.slice (some ⟨w.heap.size + 1, 124, none⟩) 4 4] 34) (by omega)).trans R4.out
  have k4 := B4.out.alloc B4.out.size (.cells #[.slice (some ⟨w.heap.size + 1, 124, none⟩) 4 4] 34)
  have k5 := heap_alloc_size w4 (.cells #[.slice (some ⟨w.heap.size + 1, 124, none⟩) 4 4] 34)
  generalize w4.alloc (.cells #[.slice (some ⟨w.heap.size + 1, 124, none⟩) 4 4] 34) = q5 at k1 k2 k3 k4 k5 ⊢
  have L6 : (putB L3 6 p).length = 128 := by rw [putB_length (by have := LL3.out; have := HP.out; omega)]; exact LL3.out
  have hp5 : PutAt q5 w4.heap.size (w.heap.size + 1) 124 4 (putB L3 6 p) 77 := ⟨by omega, ⟨124, k1, fun _ => rfl⟩, k2⟩
  have K3 := Lib.hid k3
  have K4 := Lib.hid k4
  have K5 := Lib.hid k5
  have HM := Lib.hid hM
  clear k1 k2 k3 k4 k5 hM L6
  refine (put1_any w4.heap.size (w.heap.size + 1) 124 4 g 4 _ _ q5 HG.out (by omega) (by omega) (by have := HM.out; omega) hp5).mono ?_
  rintro e q6 ⟨⟨y6, rfl⟩, hp6, ho6⟩
  clear hp5
  have h6 := hp6.2.2
  rw [hL3, show 0 + 4 = 4 from rfl, show 4 + 1 = 5 from rfl, fill_steps g i n p HP.out] at h6
  have H6 := Lib.hid h6
  have R6 := Lib.hid ((ho6.block w.heap.size (by have := HM.out; omega) (by omega)).trans K3.out)
  have B6 : Hid (Below w.heap.size w q6) := Lib.hid (K4.out.trans (ho6.below (by have := HM.out; omega) (by omega) (by have := K5.out; have := HM.out; omega)))
  have SL := Lib.hid (secP_length (g := g) (i := i) (n := n) HP.out)
  generalize hsec : secP g i n p = sec at H6 SL ⊢
  clear hp6 ho6 h6 hL3
  go_wp2_with (first
    | (refine wpList_load_row rfl 77 _ rfl (w.heap.size + 1) rfl H6.out Try.underlying77 (by rw [rowB_size, SL.out]; exact zero128.2) ?_)
    | (refine wpList_store_row rfl 77 _ _ rfl w.heap.size rfl rfl R6.out (by rw [rowB_size, SL.out]; exact zero128.2) (by rw [rowB_size, SL.out]; simp) (rowB_one _) ?_))
  refine bodyPost_ret (v := .agg (rowB sec)) ?_ rfl ⟨by rw [hsec], below_setRow B6.out (Nat.le_refl _) _⟩
  exact results_cell_row rfl _ _ w.heap.size _ _ (0, 0) _ rfl (setRow_heap _ _ _ _ _ _ R6.out) Try.underlying77 rfl (by rw [rowB_size, SL.out]; exact zero128.2)
end Go.Proofs.Ytdjoflhcagfmiaa

/-
  A record's bytes, as the program makes them.
  Conditions: the record may be.
-/
set_option linter.unusedVariables false
set_option linter.unusedSimpArgs false
set_option maxRecDepth 100000
namespace Go.Proofs.Ytdjoflhcagfmiaa
open Go.RowKit

theorem body_steps0 (g : Nat) (t : Bs) : putB (putB (putB (List.replicate (t.length + 6) 0) 0 (le 4 g)) 4 (le 2 t.length)) 6 t = summedR g t := by
  have e0 : (List.replicate (t.length + 6) (0 : UInt8)) = [] ++ List.replicate (t.length + 6) 0 := rfl
  rw [e0, putB_mid _ _ _ 0 rfl, le_length, List.drop_replicate, List.nil_append,
    putB_mid _ _ _ 4 (by rw [le_length]), le_length, List.drop_replicate,
    putB_mid _ _ _ 6 (by simp [le_length]), List.drop_replicate, show t.length + 6 - 4 - 2 - t.length = 0 from by omega]
  simp [summedR]
theorem body_steps1 (g : Nat) (t : Bs) : putB (summedR g t) 0 (le 4 (sumR g t)) = bodyR g t := by
  have e0 : summedR g t = [] ++ summedR g t := rfl
  rw [e0, putB_mid _ _ _ 0 rfl, le_length, List.nil_append, summedR, List.drop_append_of_le_length (by rw [le_length]; exact Nat.le_refl _), List.drop_eq_nil_of_le (by rw [le_length]; exact Nat.le_refl _), List.nil_append]
  rfl
theorem summedR_length (g : Nat) (t : Bs) : (summedR g t).length = t.length + 6 := by simp only [summedR, List.length_append, le_length]; omega

set_option maxHeartbeats 2000000 in
theorem bytesOf_any (g : Nat) (t : Bs) (v : Value) (w : World) (hg : g < 4294967296) (hl : t.length ≤ 1882) (h : Txt w w.heap.size v t) :
    Calls Try.prog 59 #[.agg #[.int .u32 g, v]] w fun e w' => ∃ y, e = .returned y ∧ w'.ownsRow w.heap.size 5 1 y (bodyR g t).length ((bodyR g t).map u8) ∧ Below w.heap.size w w' := by
  have X := Lib.hid h
  have HG := Lib.hid hg
  have HL := Lib.hid hl
  obtain ⟨A3, c3, rfl, -, -, -, -⟩ := h
  clear hg hl
  obtain ⟨m, hm⟩ : ∃ m, m = t.length + 6 := ⟨_, rfl⟩
  have hm6 : (6 : Int) + t.length = m := by omega
  have hmk : ∀ w' : World, (Instr.makeSlice 34 (.int .i64 (m : Int)) (.int .i64 (m : Int))).run Try.prog w' = .ok (.slice (some ⟨w'.heap.size, 0, none⟩) m m) (w'.alloc (.cells (rowB (List.replicate m 0)) 5)) := make_noughts m (by have := HL.out; omega)
  have hmb : m ≤ 2000 := by have := HL.out; omega
  have HM := Lib.hid hm
  clear hm
  go_enter Try.func59, Try.ntmps59
  go_wp2_with (refine (putter_made _ _ _ _).mono ?_; rintro e w1 ⟨rfl, rfl⟩)
  obtain ⟨q, hq, q0, q1, q2, qs, qb⟩ := boxes3 w (.cells #[.int .u32 g, .slice A3 t.length c3] 36) (.cells (rowB (List.replicate m 0)) 5) (.cells #[.slice (some ⟨w.heap.size + 1, 0, none⟩) m m] 34)
  rw [← hq]
  have Q0 := Lib.hid q0
  have QB := Lib.hid qb
  have QS := Lib.hid qs
  have hp0 : PutAt q (w.heap.size + 1 + 1) (w.heap.size + 1) 0 m (List.replicate m 0) 5 := ⟨by simp, ⟨0, q2, fun _ => rfl⟩, q1⟩
  have hc0 := (cell2_of q0).1
  clear hq q0 q1 q2 qb qs hmk
  go_wp2_with fail
  refine (put1_any (w.heap.size + 1 + 1) (w.heap.size + 1) 0 m g 4 _ _ q HG.out (by have := HM.out; omega) (by omega) (by omega) hp0).mono ?_
  rintro e q1 ⟨⟨y1, rfl⟩, hp1, ho1⟩
  clear hp0 hc0
  have R1 := Lib.hid ((ho1.block w.heap.size (by omega) (by omega)).trans Q0.out)
  have hc1 := (cell2_of R1.out).2
  have et := int_word (n := t.length) (by have := HL.out; omega)
  go_wp2_with fail
  refine (put1_any (w.heap.size + 1 + 1) (w.heap.size + 1) (0 + 4) (m - 4) t.length 2 _ _ q1 (by have := HL.out; omega) (by have := HM.out; omega) (by omega) (by omega) hp1).mono ?_
  rintro e q2 ⟨⟨y2, rfl⟩, hp2, ho2⟩
  clear hp1 hc1 et
  have R2 := Lib.hid ((ho2.block w.heap.size (by omega) (by omega)).trans R1.out)
  have O2 := Lib.hid (ho1.trans ho2)
  have B2 : Hid (Below w.heap.size w q2) := Lib.hid (QB.out.trans (O2.out.below (by omega) (by omega) (by have := QS.out; omega)))
  have S2 : Hid (q2.heap.size = w.heap.size + 3) := Lib.hid (O2.out.size.trans QS.out)
  have H2 := Lib.hid hp2.2.2
  clear hp2 ho1 ho2
  obtain ⟨L2, hL2⟩ : ∃ L, L = putB (putB (List.replicate m 0) 0 (le 4 g)) (0 + 4) (le 2 t.length) := ⟨_, rfl⟩
  have LL2 : Hid (L2.length = m) := Lib.hid (by have := HM.out; rw [hL2, putB_length (by rw [putB_length (by simp [le_length]; omega)]; simp [le_length]; omega), putB_length (by simp [le_length]; omega)]; simp)
  rw [← hL2] at H2
  have hc2 := (cell2_of R2.out).2
  have XP := Lib.hid (X.out.below B2.out)
  go_wp2_with fail
  refine wp_region_still_tail 4 (by kernel_rfl) (by kernel_rfl) ?_
  change wpStill _ _ (World.drew q2) (fun a' => wpList _ _ _ _ a' (World.drew q2)) _ _
  have R3 : Hid (q2.drew.heap[w.heap.size]? = some (.cells #[.int .u32 g, .slice A3 t.length c3] 36 (0, 0))) := R2
  have H3 : Hid (q2.drew.heap[w.heap.size + 1]? = some (.cells (rowB L2) 5 (0, 0))) := H2
  have B3 : Hid (Below w.heap.size w q2.drew) := Lib.hid B2.out.drew
  have S3 : Hid (q2.drew.heap.size = w.heap.size + 3) := S2
  have XP3 : Hid (Txt q2.drew w.heap.size (.slice A3 t.length c3) t) := XP
  have hc3 : q2.drew.cell? ⟨w.heap.size, 1, none⟩ = _ := hc2
  generalize q2.drew = q3 at R3 H3 B3 S3 XP3 hc3 ⊢
  clear hc2 XP H2 S2 B2 R2 O2
  simp only [List.take_succ_cons, List.take_zero, List.drop_succ_cons, List.drop_zero]
  obtain ⟨D, hD, hD2⟩ := cut_from (some ⟨w.heap.size + 1, 0, none⟩) m m 6 (by have := HM.out; omega) (Nat.le_refl _)
  have hD : ∀ w' : World, (Instr.sliceAt 34 (.slice (some ⟨w.heap.size + 1, 0, none⟩) m m) (some (.int .i64 6)) none none).run Try.prog w' = .ok (.slice D (m - 6) (m - 6)) w' := hD
  have HD2 : Hid (6 < m → D = some ⟨w.heap.size + 1, 6, none⟩) := Lib.hid (fun h => by rw [hD2 h]; rfl)
  clear hD2
  repeat still_step
  refine wpStill_nil ?_
  clear hD hc3
  go_wp2_with (refine wpList_copy_splice (o := ⟨some 26, _, _, _, _, _⟩) rfl (.tmp 23) (.tmp 25) _ _ rfl 5 Try.underlying34 infoByteSize _ _ _ _ t.length c3 rfl rfl (w.heap.size + 1) 6 (L2.map u8) 5 H3.out (t.map u8) (by have := HM.out; rw [List.length_map]; exact (Nat.min_eq_left (by omega)).symm) (fun hp => ⟨HD2.out (by rw [List.length_map] at hp; have := HM.out; omega), XP3.out.src hp⟩) (by have := HM.out; have := LL2.out; rw [List.length_map, List.length_map]; omega) (u8s_oneCell t) (w.heap.size + 1) q3 (Below.refl _ _) (Nat.le_refl _) ?_; intro w4 hg4 hb4)
  have hg5 := hg4.out
  rw [splice_u8, hL2, HM.out, show 0 + 4 = 4 from rfl, body_steps0] at hg5
  have B4 := Lib.hid (B3.out.trans (hb4.mono (by omega)))
  have L4 := Lib.hid hb4.size
  have G4 := Lib.hid hg5
  clear hg4 hg5 hb4
  go_wp2_with (refine (putter_made _ _ _ _).mono ?_; rintro e w5 ⟨rfl, rfl⟩)
  have hM : w.heap.size + 1 < w4.heap.size := by have := L4.out; have := S3.out; omega
  have k1 := heap_alloc_self w4 (.cells #[.slice (some ⟨w.heap.size + 1, 0, none⟩) m m] 34)
  have k2 := (heap_alloc_lt w4 (.cells #[.slice (some ⟨w.heap.size + 1, 0, none⟩) m m] 34) hM).trans G4.out
  have k4 := B4.out.alloc B4.out.size (.cells #[.slice (some ⟨w.heap.size + 1, 0, none⟩) m m] 34)
  have k5 := heap_alloc_size w4 (.cells #[.slice (some ⟨w.heap.size + 1, 0, none⟩) m m] 34)
  generalize w4.alloc (.cells #[.slice (some ⟨w.heap.size + 1, 0, none⟩) m m] 34) = q5 at k1 k2 k4 k5 ⊢
  have hsl : (summedR g t).length = m := by rw [summedR_length, HM.out]
  have hx5 := txt_of_block k2 (by rw [hsl]; unfold maxLen; omega)
  rw [hsl] at hx5
  refine (csum_any _ _ q5 hx5).mono ?_
  rintro e w6 ⟨rfl, b6⟩
  have hp5 : PutAt w6 w4.heap.size (w.heap.size + 1) 0 m (summedR g t) 5 := ⟨by rw [hsl]; omega, ⟨0, (b6.block _ (heap_lt k1)).trans k1, fun _ => rfl⟩, (b6.block _ (heap_lt k2)).trans k2⟩
  have B6 := Lib.hid (k4.trans (b6.mono k4.size))
  have L6 : Hid (w4.heap.size < w6.heap.size) := Lib.hid (Nat.lt_of_lt_of_le (by rw [k5]; omega) b6.size)
  have HMW := Lib.hid hM
  clear k1 k2 k4 k5 hM hx5 b6 hsl
  go_wp2_with fail
  refine (put1_any w4.heap.size (w.heap.size + 1) 0 m (over 0 (summedR g t)) 4 _ _ w6 (sumR_lt g t) (by have := HM.out; omega) (by omega) (by have := HMW.out; omega) hp5).mono ?_
  rintro e q7 ⟨⟨y7, rfl⟩, hp7, ho7⟩
  clear hp5
  have h7 := hp7.2.2
  rw [show over 0 (summedR g t) = sumR g t from rfl, body_steps1] at h7
  have H7 := Lib.hid h7
  have B7 : Hid (Below w.heap.size w q7) := Lib.hid (B6.out.trans (ho7.below (by have := HMW.out; omega) (by omega) (by have := L6.out; have := HMW.out; omega)))
  clear hp7 ho7 h7
  go_wp2_with fail
  go_ret
  have hbl : (bodyR g t).length = m := by rw [bodyR_length, HM.out]
  refine ⟨_, rfl, ?_, B7.out⟩
  have := own_of_block (base := w.heap.size) (by omega) H7.out (by rw [hbl]; unfold maxLen; omega)
  rw [hbl] at this ⊢
  exact this
end Go.Proofs.Ytdjoflhcagfmiaa

/-
  All sectors of a disk as they are seen, as the program makes them.
  Conditions: none.
-/
set_option linter.unusedVariables false
set_option linter.unusedSimpArgs false
set_option maxRecDepth 100000
namespace Go.Proofs.Ytdjoflhcagfmiaa
open Go.RowKit

set_option maxHeartbeats 1000000 in
theorem sseen_any (d : Value) (ss : List Bs) (ws : List Wr) (w : World) (h : DiskIn w w.heap.size d ss ws) :
    Calls Try.prog 31 #[d] w fun e w' => ∃ v1, e = .returned (.tuple #[v1, .int .i64 (syncE ss ws)]) ∧ SecsAt w' w.heap.size v1 (syncS ss ws) ∧ Below w.heap.size w w' := by
  obtain ⟨v1, v2, rfl, h1, h2⟩ := id h
  have H := Lib.hid h
  have qb := below_new w (.cells #[v1, v2] 29)
  have q0 := heap_alloc_self w (.cells #[v1, v2] 29)
  clear h1 h2 h
  go_enter Try.func31, Try.ntmps31
  go_wp2_with fail
  generalize w.alloc (.cells #[v1, v2] 29) = q at q0 qb ⊢
  have QB := Lib.hid qb
  refine (sync_any _ ss ws q ((H.out.below QB.out).more QB.out.size)).mono ?_
  rintro e w1 ⟨d', rfl, ⟨y1, y2, rfl, hs, hw⟩, b1⟩
  obtain ⟨A2, c2, rfl⟩ := secs_slice hs
  obtain ⟨A3, c3, rfl⟩ := wts_slice hw
  have S1 := Lib.hid hs
  have B1 := Lib.hid (QB.out.trans (b1.mono QB.out.size))
  have hc := (b1.block _ (heap_lt q0)).trans q0
  have C1 := Lib.hid hc
  have L1 := Lib.hid (heap_lt q0)
  obtain ⟨r0, r1⟩ := cell2_of hc
  have f0 := frozen2_of hc 0
  have f1 := frozen2_of hc 1
  have C2 := heap_set2 hc (.slice A2 (syncS ss ws).length c2) (.slice A3 ([] : List Wr).length c3)
  obtain ⟨k0, k1⟩ := cell2_of C2
  clear hs hw b1 q0 qb hc C2
  go_wp2_with fail
  refine bodyPost_ret (results_tmp2 rfl _ _ _) rfl ?_
  exact ⟨_, rfl, (secs_grown S1.out (grown_set2 w1 w.heap.size _ _) L1.out).mono QB.out.size, below_set2 B1.out (Nat.le_refl _) _ _⟩
end Go.Proofs.Ytdjoflhcagfmiaa
