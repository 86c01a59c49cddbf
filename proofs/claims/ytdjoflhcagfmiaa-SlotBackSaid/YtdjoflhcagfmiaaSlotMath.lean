/-
  Records in two slots, as mathematics: numbers as bytes, a record's bytes and sectors, and what a slot tells.
  Conditions: none.
-/
import Derived.Test.YtdjoflhcagfmiaaDevMath
import Derived.Test.YtdjoflhcagfmiaaCrcMath
set_option linter.unusedVariables false
set_option linter.unusedSimpArgs false
set_option maxRecDepth 100000
namespace Go.Proofs.Ytdjoflhcagfmiaa

/-- A number's bytes, so many, the lowest first. -/
def le : Nat → Nat → Bs
  | 0, _ => []
  | k + 1, n => UInt8.ofNat n :: le k (n / 256)
/-- The number of bytes. -/
def leN : Bs → Nat
  | [] => 0
  | b :: bs => b.toNat + 256 * leN bs
theorem le_length (k n : Nat) : (le k n).length = k := by
  induction k generalizing n with
  | zero => rfl
  | succ k ih => rw [le, List.length_cons, ih]
theorem leN_lt (bs : Bs) : leN bs < 256 ^ bs.length := by
  induction bs with
  | nil => simp [leN]
  | cons b bs ih =>
    have := UInt8.toNat_lt b
    rw [leN, List.length_cons, Nat.pow_succ]
    omega
theorem leN_le (k n : Nat) (h : n < 256 ^ k) : leN (le k n) = n := by
  induction k generalizing n with
  | zero => simp at h; subst h; rfl
  | succ k ih =>
    rw [le, leN, ih (n / 256) (by rw [Nat.pow_succ] at h; omega)]
    have : (UInt8.ofNat n).toNat = n % 256 := by simp
    omega
theorem le_leN (bs : Bs) : le bs.length (leN bs) = bs := by
  induction bs with
  | nil => rfl
  | cons b bs ih =>
    have := UInt8.toNat_lt b
    rw [leN, List.length_cons, le, show (b.toNat + 256 * leN bs) / 256 = leN bs from by omega, ih]
    congr 1
    apply UInt8.toNat.inj
    simp
theorem leN_le_mod (k n : Nat) : leN (le k n) = n % 256 ^ k := by
  induction k generalizing n with
  | zero => simp [leN, le, Nat.mod_one]
  | succ k ih =>
    have h1 : (UInt8.ofNat n).toNat = n % 256 := by simp
    rw [le, leN, ih (n / 256), h1, Nat.pow_succ, Nat.mul_comm (256 ^ k) 256, Nat.mod_mul]

/-- A record may be. -/
def okR (g : Nat) (t : Bs) : Prop := 1 ≤ g ∧ g < 4294967296 ∧ t.length ≤ 1882
instance (g : Nat) (t : Bs) : Decidable (okR g t) := by unfold okR; infer_instance
/-- The first sector of a generation's slot. -/
def slotN (g : Nat) : Nat := g % 2 * 16
/-- What a record's sum is of. -/
def summedR (g : Nat) (t : Bs) : Bs := le 4 g ++ (le 2 t.length ++ t)
def sumR (g : Nat) (t : Bs) : Nat := over 0 (summedR g t)
theorem sumR_lt (g : Nat) (t : Bs) : sumR g t < 4294967296 := over_lt (by omega) _
/-- A record's bytes. -/
def bodyR (g : Nat) (t : Bs) : Bs := le 4 (sumR g t) ++ (le 2 t.length ++ t)
theorem bodyR_length (g : Nat) (t : Bs) : (bodyR g t).length = t.length + 6 := by simp only [bodyR, List.length_append, le_length]; omega
/-- How many sectors bytes need. -/
def cntB (b : Bs) : Nat := (b.length + 117) / 118
def cntR (t : Bs) : Nat := (t.length + 123) / 118
theorem cntB_body (g : Nat) (t : Bs) : cntB (bodyR g t) = cntR t := by rw [cntB, bodyR_length, cntR]
/-- A piece of bytes. -/
def pieceB (b : Bs) (i : Nat) : Bs := (b.drop (118 * i)).take 118
theorem pieceB_le (b : Bs) (i : Nat) : (pieceB b i).length ≤ 118 := by rw [pieceB, List.length_take]; omega
/-- Bytes with noughts behind them. -/
def padB (b : Bs) : Bs := b ++ List.replicate (118 - b.length) 0
theorem padB_length {b : Bs} (h : b.length ≤ 118) : (padB b).length = 118 := by rw [padB, List.length_append, List.length_replicate]; omega
/-- A sector with a piece of a record. -/
def secP (g : Nat) (i n : Nat) (p : Bs) : Bs := le 4 g ++ (UInt8.ofNat i :: UInt8.ofNat n :: (padB p ++ le 4 g))
theorem secP_length {g i n : Nat} {p : Bs} (h : p.length ≤ 118) : (secP g i n p).length = 128 := by
  simp only [secP, List.length_append, List.length_cons, le_length, padB_length h]
def secR (g : Nat) (b : Bs) (i : Nat) : Bs := secP g i (cntB b) (pieceB b i)
theorem secR_length (g : Nat) (b : Bs) (i : Nat) : (secR g b i).length = 128 := secP_length (pieceB_le b i)
/-- A record's sectors. -/
def secsR (g : Nat) (t : Bs) : List Bs := (List.range (cntR t)).map (secR g (bodyR g t))
theorem secsR_length (g : Nat) (t : Bs) : (secsR g t).length = cntR t := by simp [secsR]
theorem secsR_at {g : Nat} {t : Bs} {i : Nat} (h : i < cntR t) : (secsR g t)[i]? = some (secR g (bodyR g t) i) := by simp [secsR, List.getElem?_range h]
theorem secsR_128 {g : Nat} {t : Bs} {s : Bs} (h : s ∈ secsR g t) : s.length = 128 := by
  obtain ⟨i, _, rfl⟩ := List.mem_map.1 h
  exact secR_length _ _ _
theorem cntR_pos (t : Bs) : 1 ≤ cntR t := by unfold cntR; omega
theorem cntR_le {t : Bs} (h : t.length ≤ 1882) : cntR t ≤ 16 := by unfold cntR; omega

/-- The parts of a sector. -/
def headG (s : Bs) : Nat := leN (s.take 4)
def tailG (s : Bs) : Nat := leN (s.drop 124)
def midB (s : Bs) : Bs := (s.drop 6).take 118
theorem secP_split {g i n : Nat} {p : Bs} : secP g i n p = le 4 g ++ ([UInt8.ofNat i, UInt8.ofNat n] ++ (padB p ++ le 4 g)) := rfl
theorem secP_head (g i n : Nat) (p : Bs) : (secP g i n p).take 4 = le 4 g := by
  rw [secP_split, List.take_append_of_le_length (by rw [le_length]; exact Nat.le_refl _), List.take_of_length_le (by rw [le_length]; exact Nat.le_refl _)]
theorem secP_mid {g i n : Nat} {p : Bs} (h : p.length ≤ 118) : midB (secP g i n p) = padB p := by
  have h6 : (le 4 g ++ [UInt8.ofNat i, UInt8.ofNat n]).length = 6 := by simp [le_length]
  rw [midB, secP_split, ← List.append_assoc, List.drop_append_of_le_length (by rw [h6]; exact Nat.le_refl _), List.drop_of_length_le (by rw [h6]; exact Nat.le_refl _), List.nil_append,
    List.take_append_of_le_length (by rw [padB_length h]; exact Nat.le_refl _), List.take_of_length_le (by rw [padB_length h]; exact Nat.le_refl _)]
theorem secP_tail {g i n : Nat} {p : Bs} (h : p.length ≤ 118) : (secP g i n p).drop 124 = le 4 g := by
  have h6 : (le 4 g ++ [UInt8.ofNat i, UInt8.ofNat n] ++ padB p).length = 124 := by simp [le_length, padB_length h]
  rw [secP_split, ← List.append_assoc, ← List.append_assoc, List.drop_append_of_le_length (by rw [h6]; exact Nat.le_refl _), List.drop_of_length_le (by rw [h6]; exact Nat.le_refl _), List.nil_append]
theorem secP_num (g i n : Nat) (p : Bs) : (secP g i n p)[5]? = some (UInt8.ofNat n) := by
  rw [secP_split, List.getElem?_append_right (by rw [le_length]; omega), le_length]; rfl

/-- What a slot's sectors tell. -/
def bodyS (S : List Bs) : Bs := (S.map midB).flatten
def genS (S : List Bs) : Nat := headG (S.getD 0 [])
def sizeS (b : Bs) : Nat := leN ((b.drop 4).take 2)
def textS (b : Bs) : Bs := (b.drop 6).take (sizeS b)
def toldR (S : List Bs) : Option (Nat × Bs) := if genS S = 0 ∨ (bodyS S).length - 6 < sizeS (bodyS S) then none else some (genS S, textS (bodyS S))
/-- The record that is whole in a slot. -/
def wholeR (S : List Bs) (at_ : Nat) : Option (Nat × Bs) :=
  match toldR S with
  | none => none
  | some (g, t) => if slotN g = at_ ∧ secsR g t = S.take (cntR t) then some (g, t) else none
def IsWhole (S : List Bs) (at_ g : Nat) (t : Bs) : Prop := okR g t ∧ slotN g = at_ ∧ secsR g t = S.take (cntR t)

theorem bodyS_length {S : List Bs} (h : ∀ s ∈ S, s.length = 128) : (bodyS S).length = 118 * S.length := by
  induction S with
  | nil => rfl
  | cons s S ih =>
    have h1 := ih fun x hx => h x (by simp [hx])
    have h2 := h s (by simp)
    unfold bodyS at h1 ⊢
    rw [List.map_cons, List.flatten_cons, List.length_append, h1, List.length_cons, midB, List.length_take, List.length_drop]
    omega
theorem bodyS_append (S T : List Bs) : bodyS (S ++ T) = bodyS S ++ bodyS T := by simp [bodyS]
theorem pad_full {b : Bs} (h : b.length = 118) : padB b = b := by simp [padB, h]
theorem join_full (b : Bs) : ∀ n, 118 * n ≤ b.length → ((List.range n).map fun i => padB (pieceB b i)).flatten = b.take (118 * n)
  | 0, _ => by simp
  | n + 1, h => by
    rw [List.range_succ, List.map_append, List.flatten_append, join_full b n (by omega), List.map_cons, List.map_nil, List.flatten_cons, List.flatten_nil, List.append_nil,
      pad_full (by rw [pieceB, List.length_take, List.length_drop]; omega), pieceB, show 118 * (n + 1) = 118 * n + 118 from by omega, ← List.take_add]
theorem join_all (b : Bs) (n : Nat) (h1 : b.length ≤ 118 * n) (h2 : 118 * (n - 1) ≤ b.length) (hn : 1 ≤ n) : ((List.range n).map fun i => padB (pieceB b i)).flatten = b ++ List.replicate (118 * n - b.length) 0 := by
  obtain ⟨m, rfl⟩ : ∃ m, n = m + 1 := ⟨n - 1, by omega⟩
  rw [show m + 1 - 1 = m from by omega] at h2
  rw [List.range_succ, List.map_append, List.flatten_append, join_full b m h2, List.map_cons, List.map_nil, List.flatten_cons, List.flatten_nil, List.append_nil, padB, ← List.append_assoc]
  have hd : pieceB b m = b.drop (118 * m) := by rw [pieceB, List.take_of_length_le (by rw [List.length_drop]; omega)]
  rw [hd, List.take_append_drop, List.length_drop]
  congr 2
  omega
theorem bodyS_secs {g : Nat} {t : Bs} : bodyS (secsR g t) = bodyR g t ++ List.replicate (118 * cntR t - (bodyR g t).length) 0 := by
  have h := join_all (bodyR g t) (cntR t) (by rw [bodyR_length]; unfold cntR; omega) (by rw [bodyR_length]; unfold cntR; omega) (cntR_pos t)
  rw [← h, bodyS, secsR, List.map_map]
  congr 1
  apply List.map_congr_left
  intro i _
  exact secP_mid (pieceB_le _ _)
theorem body_parts (g : Nat) (t r : Bs) (h : t.length < 65536) : sizeS (bodyR g t ++ r) = t.length ∧ textS (bodyR g t ++ r) = t := by
  have hs : sizeS (bodyR g t ++ r) = t.length := by
    rw [sizeS, bodyR, List.append_assoc, List.drop_append_of_le_length (by rw [le_length]; exact Nat.le_refl _), List.drop_of_length_le (by rw [le_length]; exact Nat.le_refl _), List.nil_append,
      List.append_assoc, List.take_append_of_le_length (by rw [le_length]; exact Nat.le_refl _), List.take_of_length_le (by rw [le_length]; exact Nat.le_refl _), leN_le _ _ (by omega)]
  refine ⟨hs, ?_⟩
  have h6 : (le 4 (sumR g t) ++ le 2 t.length).length = 6 := by simp [le_length]
  rw [textS, hs, bodyR, ← List.append_assoc, List.append_assoc, List.drop_append_of_le_length (by rw [h6]; exact Nat.le_refl _), List.drop_of_length_le (by rw [h6]; exact Nat.le_refl _), List.nil_append,
    List.take_append_of_le_length (Nat.le_refl _), List.take_length]
/-- What is whole is told. -/
theorem told_of_whole {S : List Bs} {a g : Nat} {t : Bs} (h : IsWhole S a g t) : toldR S = some (g, t) := by
  obtain ⟨⟨h1, h2, h3⟩, _, h4⟩ := h
  have hS : S = secsR g t ++ S.drop (cntR t) := by rw [h4, List.take_append_drop]
  have hg : genS S = g := by
    rw [genS, hS, List.getD_eq_getElem?_getD, List.getElem?_append_left (by rw [secsR_length]; exact cntR_pos t), secsR_at (cntR_pos t), Option.getD_some, headG, secR, secP_head, leN_le _ _ (by omega)]
  have hb : ∃ r, bodyS S = bodyR g t ++ r := ⟨_, by rw [hS, bodyS_append, bodyS_secs, List.append_assoc]⟩
  obtain ⟨r, hb⟩ := hb
  obtain ⟨p1, p2⟩ := body_parts g t r (by omega)
  have hl : (bodyR g t ++ r).length = t.length + 6 + r.length := by rw [List.length_append, bodyR_length]
  rw [toldR, hg, hb, p1, p2, if_neg (by rw [hl]; omega)]
theorem told_parts {S : List Bs} {g : Nat} {t : Bs} (h : toldR S = some (g, t)) : g = genS S ∧ t = textS (bodyS S) ∧ g ≠ 0 ∧ sizeS (bodyS S) ≤ (bodyS S).length - 6 := by
  unfold toldR at h
  split at h
  · cases h
  · rename_i hn
    cases h
    exact ⟨rfl, rfl, fun h => hn (.inl h), Nat.le_of_not_lt fun h => hn (.inr h)⟩
theorem textS_length (b : Bs) (h : sizeS b ≤ b.length - 6) : (textS b).length = sizeS b := by rw [textS, List.length_take, List.length_drop]; omega
theorem genS_lt (S : List Bs) : genS S < 4294967296 := by
  have h := leN_lt ((S.getD 0 []).take 4)
  have h4 : ((S.getD 0 []).take 4).length ≤ 4 := by rw [List.length_take]; omega
  have := Nat.pow_le_pow_right (n := 256) (by omega) h4
  rw [genS, headG]
  omega
theorem told_ok {S : List Bs} {g : Nat} {t : Bs} (hl : S.length = 16) (hs : ∀ s ∈ S, s.length = 128) (h : toldR S = some (g, t)) : okR g t := by
  obtain ⟨rfl, rfl, h1, h2⟩ := told_parts h
  refine ⟨by omega, genS_lt S, ?_⟩
  rw [textS_length _ h2]
  have := bodyS_length hs
  omega
theorem wholeR_iff {S : List Bs} {a g : Nat} {t : Bs} (hl : S.length = 16) (hs : ∀ s ∈ S, s.length = 128) : wholeR S a = some (g, t) ↔ IsWhole S a g t := by
  constructor
  · intro h
    unfold wholeR at h
    cases ht : toldR S with
    | none => rw [ht] at h; cases h
    | some r =>
      obtain ⟨g', t'⟩ := r
      rw [ht] at h
      simp only at h
      split at h
      · rename_i hc
        cases h
        exact ⟨told_ok hl hs ht, hc.1, hc.2⟩
      · cases h
  · intro h
    unfold wholeR
    rw [told_of_whole h]
    simp only
    rw [if_pos ⟨h.2.1, h.2.2⟩]
end Go.Proofs.Ytdjoflhcagfmiaa
