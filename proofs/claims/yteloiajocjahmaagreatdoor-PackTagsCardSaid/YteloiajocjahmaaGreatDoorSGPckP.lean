/-
 What the program's package pack answers: its contracts.
 Conditions: none.
-/
import Derived.Test.YteloiajocjahmaaGreatDoorSGPckM
import Derived.Test.YteloiajocjahmaaGreatDoorSGPlnRefB
import Derived.Test.YteloiajocjahmaaGreatDoorSGTxt
import Derived.Test.YteloiajocjahmaaGreatDoorSGTrkRef
set_option linter.unusedVariables false
set_option linter.unusedSimpArgs false
set_option maxRecDepth 100000
namespace Go.Proofs.YteloiajocjahmaaGreatDoor
open Go.RowKit

/-- A text in memory of the call's own. -/
def TxtOwn (W : World) (lo : Nat) (v : Value) (xs : List UInt8) : Prop := W.ownsRow lo 5 1 v xs.length (xs.map u8)
theorem TxtOwn.below {W W' : World} {lo : Nat} {v : Value} {xs : List UInt8} (h : TxtOwn W lo v xs) (hb : Below W.heap.size W W') : TxtOwn W' lo v xs := owns_below h hb
theorem TxtOwn.mono {W : World} {lo lo' : Nat} {v : Value} {xs : List UInt8} (h : TxtOwn W lo v xs) (hl : lo' ≤ lo) : TxtOwn W lo' v xs := ⟨h.1, h.2.imp id fun ⟨g, cap, cur, e, h1, h2⟩ => ⟨g, cap, cur, e, Nat.le_trans hl h1, h2⟩⟩
theorem TxtOwn.txt {W : World} {lo : Nat} {v : Value} {xs : List UInt8} (h : TxtOwn W lo v xs) (hl : xs.length ≤ maxLen) : Txt W W.heap.size v xs := Txt.own hl h
theorem TxtOwn.nil_ {W : World} {lo : Nat} : TxtOwn W lo (.slice none 0 0) [] := World.ownsRow_nil _ _ _ _
theorem TxtOwn.len {W : World} {lo : Nat} {v : Value} {xs : List UInt8} (h : TxtOwn W lo v xs) : ∃ A c, v = .slice A xs.length c ∧ xs.length ≤ c := by
 rcases h.2 with ⟨rfl, h0⟩ | ⟨g, cap, cur, rfl, _, _, h1, _⟩
 ·exact ⟨none, 0, by rw [h0], by omega⟩
 ·exact ⟨_, _, rfl, h1⟩
theorem run_append_bytes {w : World} {lo B ty : Nat} {v u : Value} {X Y : List UInt8} (hO : TxtOwn w lo v X) (hx : Txt w B u Y) (hle : X.length + Y.length ≤ 1000000) (hlo : lo ≤ w.heap.size) :
  ∃ v' w', (Builtin.append_ #[22, 22] ty #[v, u]).run Tryz.prog w = .ok v' w' ∧ TxtOwn w' lo v' (X ++ Y) ∧ Below lo w w' ∧ KeptT 5 w w' := by
 obtain ⟨i0, hi, hz0, hz1, hz2⟩ := info_parts infoByte
 obtain ⟨v', w', hrun, h2, h3⟩ := run_append_txt (ty := ty) Tryz.underlying22 hi hz0 hz1 hz2 hO hx (by omega) hlo
 refine ⟨v', w', hrun, ?_, (Below.refl lo w).grown h3 hlo (own_ge hO), keptT_grown hO h3⟩
 show w'.ownsRow _ _ _ _ _ _
 rw [List.length_append, List.map_append]
 exact h2
theorem wpList_append_bytes {w : World} {ops : Array Oper} {rest : List Oper} {o : Oper} {a : Act} {Q : Exit → Act → World → Prop} (hgd : o.guard = none) (s x : Operand)
  (ho : o.op = .call { callee := .builtin .append, args := #[s, x], argTypes := #[22, 22] })
  {lo B : Nat} {v u : Value} {X Y : List UInt8} (hs : a.eval s = v) (hO : TxtOwn w lo v X) (hu : a.eval x = u) (hx : Txt w B u Y) (hle : X.length + Y.length ≤ 1000000) (hlo : lo ≤ w.heap.size)
  (h : ∀ v' w', TxtOwn w' lo v' (X ++ Y) → Below lo w w' → KeptT 5 w w' → wpList Tryz.prog ops Q rest (a.put o.dst v') w') : wpList Tryz.prog ops Q (o :: rest) a w := by
 refine wpList_plain hgd fun K hK => ?_
 obtain ⟨v', w', hrun, h2, h3, h4⟩ := run_append_bytes (ty := o.type) hO hx hle hlo
 unfold Oper.wp execOp
 simp only [ho, resolve, invoke, builtin, Sem.run_bind, Sem.run_pure, Result.andThen_ok, List.map_toArray, List.map_cons, List.map_nil, hs, hu, hrun]
 exact hK _ _ (h v' w' h2 h3 h4)
/-- What Text answers. -/
noncomputable def textE (p : Pl) : Int := if planMay p then 0 else 8
noncomputable def textV (p : Pl) : List UInt8 := if planMay p then textL p else []
theorem text_cases (p : Pl) : (PlanMay p ∧ textE p = 0 ∧ textV p = textL p) ∨ (¬ PlanMay p ∧ textE p = 8 ∧ textV p = []) := by
 by_cases h : PlanMay p
 ·exact .inl ⟨h, by rw [textE, if_pos (planMay_true h)], by rw [textV, if_pos (planMay_true h)]⟩
 ·exact .inr ⟨h, by rw [textE, planMay_false h]; rfl, by rw [textV, planMay_false h]; rfl⟩
/-- What the program's package pack answers of texts: to be proved over the program's own text; the walks of the statements take it. -/
structure PckSaid : Prop where
 text : ∀ (v : Value) (p : Pl) (w : World), PlanV w w.heap.size v p →
  Calls Tryz.prog 11 #[v] w fun e w' => ∃ u, e = .returned (.tuple #[u, .int .i64 (textE p)]) ∧ TxtOwn w' w.heap.size u (textV p) ∧ Below w.heap.size w w'
 parse : ∀ (v : Value) (b : List UInt8) (w : World), Txt w w.heap.size v b → b.length ≤ 10000 →
  Calls Tryz.prog 16 #[v] w fun e w' => ∃ u2 u3 u4 u5, e = .returned (.tuple #[.agg #[.int .i64 (parseP b).ver, .int .i64 (parseP b).par, u2, u3, u4, u5], .int .i64 (parseE b)]) ∧ PlOwn w' w.heap.size u2 u3 u4 u5 (parseP b) ∧ Below w.heap.size w w'

/-- Where reading is, and whether all went well. -/
abbrev St := Nat × Bool
def nextM (b : List UInt8) (most : Int) (s : St) : Int × St := if s.2 = true ∧ (getSpec b s.1).2.2 = 0 ∧ (getSpec b s.1).1 ≤ most then ((getSpec b s.1).1, ((getSpec b s.1).2.1.toNat, true)) else (0, (s.1, false))
/-- One thing behind the other. -/
def andM {α β γ : Type} (m1 : St → α × St) (m2 : α → St → β × St) (mk : α → β → γ) : St → γ × St := fun s => (mk (m1 s).1 (m2 (m1 s).1 (m1 s).2).1, (m2 (m1 s).1 (m1 s).2).2)
def repM {α : Type} (m : St → α × St) : Nat → St → List α × St
 | 0, s => ([], s)
 | n + 1, s => ((m s).1 :: (repM m n (m s).2).1, (repM m n (m s).2).2)
def numM (b : List UInt8) : St → Int × St := nextM b 2147483647
def listM {α : Type} (b : List UInt8) (most : Int) (m : St → α × St) : St → List α × St := andM (nextM b most) (fun n => repM m n.toNat) fun _ l => l
def joinM (b : List UInt8) : St → Jn × St := andM (numM b) (fun _ => numM b) fun x y => (x, y)
def sigM (b : List UInt8) : St → Sg × St := andM (numM b) (fun _ => joinM b) fun x y => (x, y)
def secM (b : List UInt8) : St → Sec × St := andM (joinM b) (fun j => repM (joinM b) (endsOf j.2)) fun j l => (j.1, j.2, l)
def routeM (b : List UInt8) : St → Rt × St := andM (sigM b) (fun _ => andM (listM b 6 (numM b)) (fun _ => andM (listM b 2 (numM b)) (fun _ => andM (listM b 3 (joinM b)) (fun _ => numM b) fun f t => (f, t)) fun o x => (o, x)) fun p x => (p, x)) fun g x => ⟨g.1, g.2.1, g.2.2, x.1, x.2.1, x.2.2.1, x.2.2.2⟩
def planM (b : List UInt8) : St → Pl × St := andM (joinM b) (fun _ => andM (listM b 16 (secM b)) (fun _ => andM (listM b 6 (joinM b)) (fun _ => andM (listM b 10 (sigM b)) (fun _ => listM b 16 (routeM b)) fun g r => (g, r)) fun p x => (p, x)) fun s x => (s, x)) fun j x => ⟨j.1, j.2, x.1, x.2.1, x.2.2.1, x.2.2.2⟩

theorem next_cases (b : List UInt8) (most : Int) (s : St) (hs : s.1 ≤ b.length) :
  (s.2 = true ∧ ∃ n : Nat, n ≤ 2147483647 ∧ (n : Int) ≤ most ∧ b.drop s.1 = bytesOf n ++ b.drop (s.1 + (bytesOf n).length) ∧ s.1 + (bytesOf n).length ≤ b.length ∧ getSpec b s.1 = ((n : Int), ((s.1 + (bytesOf n).length : Nat) : Int), 0) ∧ nextM b most s = ((n : Int), (s.1 + (bytesOf n).length, true)))
  ∨ (¬ (s.2 = true ∧ (getSpec b s.1).2.2 = 0 ∧ (getSpec b s.1).1 ≤ most) ∧ nextM b most s = (0, (s.1, false))) := by
 by_cases h : s.2 = true ∧ (getSpec b s.1).2.2 = 0 ∧ (getSpec b s.1).1 ≤ most
 ·obtain ⟨k, n, e1, h1, h2, h3, h4, -⟩ := getSpec_ok h.2.1
  obtain rfl : s.1 = k := by omega
  refine .inl ⟨h.1, n, h2, ?_, ?_, h1, ?_, ?_⟩
  ·have := h.2.2
   rw [h4] at this
   exact this
  ·rw [← List.drop_drop]
   conv => lhs; rw [← List.take_append_drop (bytesOf n).length (b.drop s.1), h3]
  ·rw [h4]; simp
  ·rw [nextM, if_pos h, h4]
   simp only [Prod.mk.injEq, and_true, true_and]
   omega
 ·exact .inr ⟨h, by rw [nextM, if_neg h]⟩
/-- A number that stands there is read. -/
theorem next_there {b u : List UInt8} {most : Int} {s : St} {n : Nat} (hs : s.1 ≤ b.length) (h2 : s.2 = true) (hn : n ≤ 2147483647) (hm : (n : Int) ≤ most) (hd : b.drop s.1 = bytesOf n ++ u) : (nextM b most s).2.2 = true ∧ (nextM b most s).1 = n ∧ b.drop (nextM b most s).2.1 = u := by
 have e0 : b = b.take s.1 ++ bytesOf n ++ u := by rw [List.append_assoc, ← hd, List.take_append_drop]
 have el : (b.take s.1).length = s.1 := by rw [List.length_take]; omega
 have hg : getSpec b s.1 = ((n : Int), (s.1 : Int) + ((bytesOf n).length : Int), 0) := by
  have := getSpec_put (b.take s.1) u hn
  rw [el, ← e0] at this
  exact this
 have e1 : nextM b most s = ((n : Int), (s.1 + (bytesOf n).length, true)) := by
  rw [nextM, if_pos ⟨h2, by rw [hg], by rw [hg]; exact hm⟩, hg]
  simp only [Prod.mk.injEq, and_true, true_and]
  omega
 rw [e1]
 refine ⟨rfl, rfl, ?_⟩
 show b.drop (s.1 + (bytesOf n).length) = u
 rw [← List.drop_drop, hd, List.drop_left' rfl]
/-- Reading reads just what was written. -/
structure Good {α : Type} (b : List UInt8) (f : α → List Int) (S : α → Prop) (m : St → α × St) : Prop where
 le : ∀ s, s.1 ≤ b.length → (m s).2.1 ≤ b.length
 bad : ∀ s, s.1 ≤ b.length → s.2 = false → (m s).2.2 = false
 snd : ∀ s, s.1 ≤ b.length → (m s).2.2 = true → b.drop s.1 = putL (f (m s).1) ++ b.drop (m s).2.1
 cpl : ∀ s y u, s.1 ≤ b.length → s.2 = true → S y → b.drop s.1 = putL (f y) ++ u → (m s).2.2 = true ∧ (m s).1 = y ∧ b.drop (m s).2.1 = u
theorem Good.imp {α : Type} {b : List UInt8} {f : α → List Int} {S S' : α → Prop} {m : St → α × St} (h : Good b f S m) (hS : ∀ y, S' y → S y) : Good b f S' m := ⟨h.le, h.bad, h.snd, fun s y u h1 h2 h3 h4 => h.cpl s y u h1 h2 (hS y h3) h4⟩
theorem next_good (b : List UInt8) (most : Int) : Good b (fun z : Int => [z]) (fun z => 0 ≤ z ∧ z ≤ most ∧ z ≤ 2147483647) (nextM b most) := by
 refine ⟨fun s hs => ?_, fun s hs h => ?_, fun s hs h => ?_, fun s y u hs h2 hy hd => ?_⟩
 ·rcases next_cases b most s hs with ⟨-, n, -, -, -, h1, -, h2⟩ | ⟨-, h2⟩
  ·rw [h2]; exact h1
  ·rw [h2]; exact hs
 ·rcases next_cases b most s hs with ⟨h1, -⟩ | ⟨-, h2⟩
  ·rw [h] at h1; cases h1
  ·rw [h2]
 ·rcases next_cases b most s hs with ⟨-, n, -, -, h1, -, -, h2⟩ | ⟨-, h2⟩
  ·rw [h2]
   show b.drop s.1 = putL [(n : Int)] ++ b.drop (s.1 + (bytesOf n).length)
   rw [putL_cons, putL_nil, List.append_nil, Int.toNat_natCast]
   exact h1
  ·rw [h2] at h; cases h
 ·obtain ⟨n, rfl⟩ : ∃ n : Nat, y = n := ⟨y.toNat, by omega⟩
  rw [putL_cons, putL_nil, List.append_nil, Int.toNat_natCast] at hd
  exact next_there hs h2 (by omega) hy.2.1 hd
theorem Good.and {α β γ : Type} {b : List UInt8} {f1 : α → List Int} {f2 : β → List Int} {f : γ → List Int} {S1 : α → Prop} {S2 : α → β → Prop} {S : γ → Prop} {m1 : St → α × St} {m2 : α → St → β × St} {mk : α → β → γ} (h1 : Good b f1 S1 m1) (h2 : ∀ x, Good b f2 (S2 x) (m2 x)) (hf : ∀ x y, f (mk x y) = f1 x ++ f2 y) (hS : ∀ z, S z → ∃ x y, z = mk x y ∧ S1 x ∧ S2 x y) : Good b f S (andM m1 m2 mk) := by
 refine ⟨fun s hs => (h2 _).le _ (h1.le s hs), fun s hs h => (h2 _).bad _ (h1.le s hs) (h1.bad s hs h), fun s hs h => ?_, fun s y u hs hw hy hd => ?_⟩
 ·have e2 := (h2 _).snd _ (h1.le s hs) h
  have hw : (m1 s).2.2 = true := by
   cases hb : (m1 s).2.2 with
   | true => rfl
   | false => rw [show (andM m1 m2 mk s).2.2 = (m2 (m1 s).1 (m1 s).2).2.2 from rfl, (h2 _).bad _ (h1.le s hs) hb] at h; cases h
  have e1 := h1.snd s hs hw
  show b.drop s.1 = putL (f (mk _ _)) ++ b.drop (m2 (m1 s).1 (m1 s).2).2.1
  rw [hf, putL_app, List.append_assoc, ← e2]
  exact e1
 ·obtain ⟨x, z, rfl, g1, g2⟩ := hS y hy
  rw [hf, putL_app, List.append_assoc] at hd
  obtain ⟨k1, k2, k3⟩ := h1.cpl s x _ hs hw g1 hd
  obtain ⟨k4, k5, k6⟩ := (h2 x).cpl _ z u (h1.le s hs) k1 g2 k3
  rw [← k2] at k4 k5 k6
  exact ⟨k4, by show mk _ _ = _; rw [k5, k2], k6⟩
theorem rep_good {α : Type} {b : List UInt8} {f : α → List Int} {S : α → Prop} {m : St → α × St} (h : Good b f S m) : ∀ n : Nat, Good b (fun l : List α => l.flatMap f) (fun l => l.length = n ∧ ∀ x ∈ l, S x) (repM m n)
 | 0 => ⟨fun s hs => hs, fun s hs hb => hb, fun s hs hw => rfl, fun s y u hs hw hy hd => by
   obtain rfl : y = [] := List.length_eq_zero_iff.1 hy.1
   exact ⟨hw, rfl, hd⟩⟩
 | n + 1 => by
  have ih := rep_good h n
  have := Good.and (γ := List α) (f := fun l : List α => l.flatMap f) (S := fun l => l.length = n + 1 ∧ ∀ x ∈ l, S x) (S2 := fun _ l => l.length = n ∧ ∀ x ∈ l, S x) (mk := fun x l => x :: l) h (fun _ => ih) (fun x l => List.flatMap_cons) (fun z hz => by
   match z, hz with
   | x :: l, ⟨h1, h2⟩ => exact ⟨x, l, rfl, h2 x (List.mem_cons_self ..), by simpa using h1, fun y hy => h2 y (List.mem_cons_of_mem _ hy)⟩)
  exact this
theorem list_good {α : Type} {b : List UInt8} {most : Nat} (hmost : most ≤ 100) {f : α → List Int} {S : α → Prop} {m : St → α × St} (h : Good b f S m) : Good b (fun l : List α => (l.length : Int) :: l.flatMap f) (fun l => l.length ≤ most ∧ ∀ x ∈ l, S x) (listM b most m) := by
 refine ⟨fun s hs => (rep_good h _).le _ ((next_good b most).le s hs), fun s hs hb => (rep_good h _).bad _ ((next_good b most).le s hs) ((next_good b most).bad s hs hb), fun s hs hw => ?_, fun s y u hs hw hy hd => ?_⟩
 ·have hle := (next_good b most).le s hs
  have e2 := (rep_good h (nextM b most s).1.toNat).snd _ hle hw
  have hw1 : (nextM b most s).2.2 = true := by
   cases hb : (nextM b most s).2.2 with
   | true => rfl
   | false => rw [show (listM b most m s).2.2 = (repM m (nextM b most s).1.toNat (nextM b most s).2).2.2 from rfl, (rep_good h _).bad _ hle hb] at hw; cases hw
  have e1 := (next_good b most).snd s hs hw1
  have hn : ((listM b most m s).1.length : Int) = (nextM b most s).1 := by
   have hl : ∀ n s, (repM m n s).1.length = n := fun n => by
    induction n with
    | zero => exact fun s => rfl
    | succ n ih => exact fun s => by show (_ :: _).length = _; rw [List.length_cons, ih]
   show ((repM m (nextM b most s).1.toNat (nextM b most s).2).1.length : Int) = _
   rw [hl]
   rcases next_cases b most s hs with ⟨-, n, -, -, -, -, -, e⟩ | ⟨-, e⟩ <;> rw [e] <;> simp
  show b.drop s.1 = putL (((listM b most m s).1.length : Int) :: (listM b most m s).1.flatMap f) ++ b.drop (listM b most m s).2.1
  rw [hn, show ∀ (z : Int) (l : List Int), z :: l = [z] ++ l from fun _ _ => rfl, putL_app, List.append_assoc]
  rw [e1]
  congr 1
 ·have hd' : b.drop s.1 = putL [(y.length : Int)] ++ (putL (y.flatMap f) ++ u) := by rw [← List.append_assoc, ← putL_app]; exact hd
  obtain ⟨k1, k2, k3⟩ := (next_good b most).cpl s y.length _ hs hw ⟨by omega, by have := hy.1; omega, by have := hy.1; omega⟩ hd'
  have k4 := (rep_good h (nextM b most s).1.toNat).cpl _ y u ((next_good b most).le s hs) k1 ⟨by rw [k2]; simp, hy.2⟩ k3
  exact k4
/-- A number that may be. -/
def NumB (z : Int) : Prop := 0 ≤ z ∧ z ≤ 2147483647
theorem num_good (b : List UInt8) : Good b (fun z : Int => [z]) NumB (numM b) := (next_good b 2147483647).imp fun y h => ⟨h.1, h.2, h.2⟩
def AllB (l : List Int) : Prop := ∀ z ∈ l, NumB z
theorem join_good (b : List UInt8) : Good b numsJ (fun j => AllB (numsJ j)) (joinM b) := Good.and (S2 := fun _ => NumB) (num_good b) (fun _ => num_good b) (fun _ _ => rfl) fun z hz => ⟨z.1, z.2, rfl, hz _ (by simp [numsJ]), hz _ (by simp [numsJ])⟩
theorem sig_good (b : List UInt8) : Good b numsG (fun j => AllB (numsG j)) (sigM b) := Good.and (S2 := fun _ j => AllB (numsJ j)) (num_good b) (fun _ => join_good b) (fun _ _ => rfl) fun z hz => ⟨z.1, z.2, rfl, hz _ (by simp [numsG]), fun y hy => hz y (by simp [numsJ] at hy; simp [numsG]; omega)⟩
theorem sec_good (b : List UInt8) : Good b numsS (fun s => AllB (numsS s) ∧ s.2.2.length = endsOf s.2.1) (secM b) := Good.and (f2 := fun l : List Jn => l.flatMap numsJ) (S2 := fun j l => l.length = endsOf j.2 ∧ ∀ x ∈ l, AllB (numsJ x)) (join_good b) (fun j => rep_good (join_good b) _) (fun _ _ => rfl) fun z hz => ⟨(z.1, z.2.1), z.2.2, rfl, fun y hy => hz.1 y (by simp [numsJ] at hy; simp [numsS]; omega), hz.2, fun x hx y hy => hz.1 y (by
 rw [numsS]
 exact List.mem_cons_of_mem _ (List.mem_cons_of_mem _ (List.mem_flatMap.2 ⟨x, hx, hy⟩)))⟩
/-- A route that can be read. -/
structure RtB (r : Rt) : Prop where
 path : r.path.length ≤ 6
 over : r.over.length ≤ 2
 flanks : r.flanks.length ≤ 3
 all : AllB (numsR r)
theorem route_good (b : List UInt8) : Good b numsR RtB (routeM b) :=
 Good.and (f2 := fun x : List Int × List Int × List Jn × Int => (x.1.length : Int) :: (x.1.flatMap (fun z => [z]) ++ (x.2.1.length : Int) :: (x.2.1.flatMap (fun z => [z]) ++ (x.2.2.1.length : Int) :: (x.2.2.1.flatMap numsJ ++ [x.2.2.2])))) (S2 := fun _ x => (x.1.length ≤ 6 ∧ ∀ z ∈ x.1, NumB z) ∧ (x.2.1.length ≤ 2 ∧ ∀ z ∈ x.2.1, NumB z) ∧ (x.2.2.1.length ≤ 3 ∧ ∀ z ∈ x.2.2.1, AllB (numsJ z)) ∧ NumB x.2.2.2) (sig_good b)
  (fun _ => Good.and (f2 := fun x : List Int × List Jn × Int => (x.1.length : Int) :: (x.1.flatMap (fun z => [z]) ++ (x.2.1.length : Int) :: (x.2.1.flatMap numsJ ++ [x.2.2]))) (S2 := fun _ x => (x.1.length ≤ 2 ∧ ∀ z ∈ x.1, NumB z) ∧ (x.2.1.length ≤ 3 ∧ ∀ z ∈ x.2.1, AllB (numsJ z)) ∧ NumB x.2.2) (list_good (most := 6) (by omega) (num_good b))
   (fun _ => Good.and (f2 := fun x : List Jn × Int => (x.1.length : Int) :: (x.1.flatMap numsJ ++ [x.2])) (S2 := fun _ x => (x.1.length ≤ 3 ∧ ∀ z ∈ x.1, AllB (numsJ z)) ∧ NumB x.2) (list_good (most := 2) (by omega) (num_good b))
    (fun _ => Good.and (f2 := fun z : Int => [z]) (S2 := fun _ => NumB) (list_good (most := 3) (by omega) (join_good b)) (fun _ => num_good b) (fun _ _ => by simp) fun z hz => ⟨z.1, z.2, rfl, hz.1, hz.2⟩)
    (fun _ _ => by simp) fun z hz => ⟨z.1, z.2, rfl, hz.1, hz.2⟩)
   (fun _ _ => by simp) fun z hz => ⟨z.1, z.2, rfl, hz.1, hz.2⟩)
  (fun g x => by simp [numsR, numsG, flat_ints]) fun z hz => ⟨(z.id, z.entry, z.exit), (z.path, z.over, z.flanks, z.timer), rfl, fun y hy => hz.all y (by simp [numsG] at hy; simp [numsR]; omega),
   ⟨hz.path, fun y hy => hz.all y (by simp [numsR, hy])⟩, ⟨hz.over, fun y hy => hz.all y (by simp [numsR, hy])⟩, ⟨hz.flanks, fun x hx y hy => hz.all y (by
    have : y ∈ z.flanks.flatMap numsJ := List.mem_flatMap.2 ⟨x, hx, hy⟩
    simp only [numsR, List.mem_cons, List.mem_append]
    exact .inr (.inr (.inr (.inr (.inr (.inr (.inr (.inr (.inl this)))))))))⟩, hz.all _ (by simp [numsR])⟩
/-- A plan that can be read. -/
structure PlB (p : Pl) : Prop where
 secs : p.secs.length ≤ 16
 pts : p.pts.length ≤ 6
 sigs : p.sigs.length ≤ 10
 routes : p.routes.length ≤ 16
 ends : ∀ s ∈ p.secs, s.2.2.length = endsOf s.2.1
 route : ∀ r ∈ p.routes, RtB r
 all : AllB (numsP p)
theorem plan_good (b : List UInt8) : Good b numsP PlB (planM b) :=
 Good.and (f2 := fun x : List Sec × List Jn × List Sg × List Rt => (x.1.length : Int) :: (x.1.flatMap numsS ++ (x.2.1.length : Int) :: (x.2.1.flatMap numsJ ++ (x.2.2.1.length : Int) :: (x.2.2.1.flatMap numsG ++ (x.2.2.2.length : Int) :: x.2.2.2.flatMap numsR)))) (S2 := fun _ x => (x.1.length ≤ 16 ∧ ∀ s ∈ x.1, AllB (numsS s) ∧ s.2.2.length = endsOf s.2.1) ∧ (x.2.1.length ≤ 6 ∧ ∀ s ∈ x.2.1, AllB (numsJ s)) ∧ (x.2.2.1.length ≤ 10 ∧ ∀ s ∈ x.2.2.1, AllB (numsG s)) ∧ (x.2.2.2.length ≤ 16 ∧ ∀ s ∈ x.2.2.2, RtB s)) (join_good b)
  (fun _ => Good.and (f2 := fun x : List Jn × List Sg × List Rt => (x.1.length : Int) :: (x.1.flatMap numsJ ++ (x.2.1.length : Int) :: (x.2.1.flatMap numsG ++ (x.2.2.length : Int) :: x.2.2.flatMap numsR))) (S2 := fun _ x => (x.1.length ≤ 6 ∧ ∀ s ∈ x.1, AllB (numsJ s)) ∧ (x.2.1.length ≤ 10 ∧ ∀ s ∈ x.2.1, AllB (numsG s)) ∧ (x.2.2.length ≤ 16 ∧ ∀ s ∈ x.2.2, RtB s)) (list_good (most := 16) (by omega) (sec_good b))
   (fun _ => Good.and (f2 := fun x : List Sg × List Rt => (x.1.length : Int) :: (x.1.flatMap numsG ++ (x.2.length : Int) :: x.2.flatMap numsR)) (S2 := fun _ x => (x.1.length ≤ 10 ∧ ∀ s ∈ x.1, AllB (numsG s)) ∧ (x.2.length ≤ 16 ∧ ∀ s ∈ x.2, RtB s)) (list_good (most := 6) (by omega) (join_good b))
    (fun _ => Good.and (f2 := fun x : List Rt => (x.length : Int) :: x.flatMap numsR) (S2 := fun _ x => x.length ≤ 16 ∧ ∀ s ∈ x, RtB s) (list_good (most := 10) (by omega) (sig_good b)) (fun _ => list_good (most := 16) (by omega) (route_good b)) (fun _ _ => by simp) fun z hz => ⟨z.1, z.2, rfl, hz.1, hz.2⟩)
    (fun _ _ => by simp) fun z hz => ⟨z.1, z.2, rfl, hz.1, hz.2⟩)
   (fun _ _ => by simp) fun z hz => ⟨z.1, z.2, rfl, hz.1, hz.2⟩)
  (fun g x => by simp [numsP, numsJ]) fun z hz => ⟨(z.ver, z.par), (z.secs, z.pts, z.sigs, z.routes), rfl, fun y hy => hz.all y (by simp [numsJ] at hy; simp [numsP]; omega),
   ⟨hz.secs, fun x hx => ⟨fun y hy => hz.all y (by
    have : y ∈ z.secs.flatMap numsS := List.mem_flatMap.2 ⟨x, hx, hy⟩
    simp only [numsP, List.mem_cons, List.mem_append]
    exact .inr (.inr (.inr (.inl this)))), hz.ends x hx⟩⟩,
   ⟨hz.pts, fun x hx y hy => hz.all y (by
    have : y ∈ z.pts.flatMap numsJ := List.mem_flatMap.2 ⟨x, hx, hy⟩
    simp only [numsP, List.mem_cons, List.mem_append]
    exact .inr (.inr (.inr (.inr (.inr (.inl this))))))⟩,
   ⟨hz.sigs, fun x hx y hy => hz.all y (by
    have : y ∈ z.sigs.flatMap numsG := List.mem_flatMap.2 ⟨x, hx, hy⟩
    simp only [numsP, List.mem_cons, List.mem_append]
    exact .inr (.inr (.inr (.inr (.inr (.inr (.inr (.inl this))))))))⟩, ⟨hz.routes, hz.route⟩⟩
theorem plB {p : Pl} (h : PlanMay p) : PlB p := by
 have ho := nums_ok h
 refine ⟨h.secs.n, h.pts.n, h.sigs.n, h.n, fun s hs => (sec_ends h hs).1, fun r hr => ?_, ho⟩
 obtain ⟨i, hi, rfl⟩ := List.getElem_of_mem hr
 obtain ⟨-, -, g⟩ := h.each i hi
 have g1 := g.path
 have g2 := g.over
 have g3 := g.flank
 exact ⟨by omega, by omega, by omega, fun z hz => by
  have := small_route h hr z hz
  unfold NumB
  omega⟩
/-- What reading answers: the plan of a text, and no other. -/
theorem plan_read (b : List UInt8) : ((planM b (0, true)).2.2 = true ∧ (planM b (0, true)).2.1 = b.length ∧ PlanMay (planM b (0, true)).1 → parseE b = 0 ∧ parseP b = (planM b (0, true)).1) ∧
  (¬ ((planM b (0, true)).2.2 = true ∧ (planM b (0, true)).2.1 = b.length ∧ PlanMay (planM b (0, true)).1) → parseE b = 8 ∧ parseP b = zPl) := by
 have hG := plan_good b
 refine ⟨fun ⟨h1, h2, h3⟩ => ?_, fun h => parse_no fun p hp e => h ?_⟩
 ·have e := hG.snd (0, true) (Nat.zero_le _) h1
  rw [h2, List.drop_length, List.append_nil] at e
  have e2 : textL (planM b (0, true)).1 = b := e.symm
  have := parse_text h3
  rw [e2] at this
  exact this
 ·obtain ⟨k1, k2, k3⟩ := hG.cpl (0, true) p [] (Nat.zero_le _) rfl (plB hp) (by rw [List.append_nil]; exact e.symm)
  refine ⟨k1, ?_, by rw [k2]; exact hp⟩
  have := hG.le (0, true) (Nat.zero_le _)
  have h4 : b.length ≤ (planM b (0, true)).2.1 := by
   rw [List.drop_eq_nil_iff] at k3
   exact k3
  omega

/-- Below n all is kept but what lies in two boxes. -/
structure BelowX (pa pw n : Nat) (w w' : World) : Prop where
 os : w'.os = w.os
 tape : w'.tape = w.tape
 output : w'.output = w.output
 size : w.heap.size ≤ w'.heap.size
 block : ∀ k, k < n → k ≠ pa → k ≠ pw → w'.heap[k]? = w.heap[k]?
section
variable {pa pw n : Nat} {w w1 w2 : World}
theorem BelowX.refl : BelowX pa pw n w w := ⟨rfl, rfl, rfl, Nat.le_refl _, fun _ _ _ _ => rfl⟩
theorem BelowX.trans (h : BelowX pa pw n w w1) (k : BelowX pa pw n w1 w2) : BelowX pa pw n w w2 := ⟨k.os.trans h.os, k.tape.trans h.tape, k.output.trans h.output, Nat.le_trans h.size k.size, fun i hi ha hb => (k.block i hi ha hb).trans (h.block i hi ha hb)⟩
theorem BelowX.mono {n' : Nat} (h : BelowX pa pw n w w1) (hn : n' ≤ n) : BelowX pa pw n' w w1 := ⟨h.os, h.tape, h.output, h.size, fun i hi => h.block i (Nat.lt_of_lt_of_le hi hn)⟩
theorem BelowX.of (h : Below n w w1) : BelowX pa pw n w w1 := ⟨h.os, h.tape, h.output, h.size, fun i hi _ _ => h.block i hi⟩
theorem BelowX.drew (h : BelowX pa pw n w w1) : BelowX pa pw n w w1.drew := ⟨h.os, h.tape, h.output, h.size, h.block⟩
theorem BelowX.drewN (h : BelowX pa pw n w w1) (k : Nat) : BelowX pa pw n w (w1.drewN k) := ⟨h.os, h.tape, h.output, h.size, h.block⟩
theorem BelowX.step (h : BelowX pa pw n w w1) (k : BelowX pa pw w1.heap.size w1 w2) (hn : n ≤ w.heap.size) : BelowX pa pw n w w2 := h.trans (k.mono (Nat.le_trans hn h.size))
theorem BelowX.stepB (h : BelowX pa pw n w w1) (k : Below w1.heap.size w1 w2) (hn : n ≤ w.heap.size) : BelowX pa pw n w w2 := h.step (.of k) hn
theorem BelowX.alloc (h : BelowX pa pw n w w1) (hn : n ≤ w.heap.size) (o : Obj) : BelowX pa pw n w (w1.alloc o) := h.stepB (below_new w1 o) hn
theorem BelowX.grown (h : BelowX pa pw n w w1) {r : Option Nat} (hg : w1.grownBy w2 r) (hn : n ≤ w.heap.size) (hr : ∀ k, r = some k → n ≤ k) : BelowX pa pw n w w2 :=
 h.trans ⟨hg.os, hg.tape, hg.output, hg.size, fun i hi _ _ => hg.block i (by have := h.size; omega) (fun e => by have := hr i e.symm; omega)⟩
theorem BelowX.below (h : BelowX pa pw n w w1) {lo : Nat} (hl : lo ≤ n) (ha : lo ≤ pa) (hb : lo ≤ pw) : Below lo w w1 := ⟨h.os, h.tape, h.output, h.size, fun i hi => h.block i (by omega) (by omega) (by omega)⟩
theorem BelowX.setA (h : BelowX pa pw n w w1) (j : Nat) (x : Value) : BelowX pa pw n w (w1.setCell ⟨pa, j, none⟩ x) := h.trans ⟨rfl, rfl, rfl, by simp [World.setCell], fun i _ ha _ => heap_setFar w1 pa j i x ha⟩
theorem BelowX.setW (h : BelowX pa pw n w w1) (j : Nat) (x : Value) : BelowX pa pw n w (w1.setCell ⟨pw, j, none⟩ x) := h.trans ⟨rfl, rfl, rfl, by simp [World.setCell], fun i _ _ hb => heap_setFar w1 pw j i x hb⟩
end
/-- The reader's three boxes: where it is, whether all went well, the bytes. -/
structure Rdr (W : World) (pa pw pb : Nat) (v : Value) (b : List UInt8) (s : St) : Prop where
 at_ : W.heap[pa]? = some (.cells #[.int .i64 (s.1 : Int)] 3 (0, 0))
 well : W.heap[pw]? = some (.cells #[.bool s.2] 4 (0, 0))
 bytes : W.heap[pb]? = some (.cells #[v] 22 (0, 0))
 ne : pa ≠ pw ∧ pa ≠ pb ∧ pw ≠ pb
 txt : ∃ B, Txt W B v b ∧ B ≤ pa ∧ B ≤ pw ∧ B ≤ pb
 le : s.1 ≤ b.length
 few : b.length ≤ 10000
section
variable {W W' : World} {pa pw pb : Nat} {v : Value} {b : List UInt8} {s : St}
theorem Rdr.below (h : Rdr W pa pw pb v b s) (hb : Below W.heap.size W W') : Rdr W' pa pw pb v b s := by
 obtain ⟨h1, h2, h3, h4, ⟨B, h5, h6, h7⟩, h8, h9⟩ := h
 exact ⟨(hb.block _ (heap_lt h1)).trans h1, (hb.block _ (heap_lt h2)).trans h2, (hb.block _ (heap_lt h3)).trans h3, h4, ⟨B, h5.below (hb.mono (by have := heap_lt h1; omega)), h6, h7⟩, h8, h9⟩
theorem Rdr.lt (h : Rdr W pa pw pb v b s) : pa < W.heap.size ∧ pw < W.heap.size ∧ pb < W.heap.size := ⟨heap_lt h.at_, heap_lt h.well, heap_lt h.bytes⟩
theorem Rdr.text (h : Rdr W pa pw pb v b s) : Txt W W.heap.size v b := by
 obtain ⟨B, h5, h6, -⟩ := h.txt
 exact h5.more (by have := h.lt; omega)
/-- A store of the place, a store of whether all went well. -/
theorem Rdr.setA (h : Rdr W pa pw pb v b s) (n : Nat) (hn : n ≤ b.length) : Rdr (W.setCell ⟨pa, 0, none⟩ (.int .i64 (n : Int))) pa pw pb v b (n, s.2) := by
 obtain ⟨h1, h2, h3, h4, ⟨B, h5, h6, h7⟩, h8, h9⟩ := h
 refine ⟨?_, by rw [heap_setFar _ _ _ _ _ (Ne.symm h4.1)]; exact h2, by rw [heap_setFar _ _ _ _ _ (Ne.symm h4.2.1)]; exact h3, h4, ⟨B, h5.below (below_set (Below.refl B W) h6 0 _), h6, h7⟩, hn, h9⟩
 simp only [World.setCell, Array.getElem?_modify, if_true, h1, Option.map_some]
 rfl
theorem Rdr.setW (h : Rdr W pa pw pb v b s) (t : Bool) : Rdr (W.setCell ⟨pw, 0, none⟩ (.bool t)) pa pw pb v b (s.1, t) := by
 obtain ⟨h1, h2, h3, h4, ⟨B, h5, h6, h7⟩, h8, h9⟩ := h
 refine ⟨by rw [heap_setFar _ _ _ _ _ h4.1]; exact h1, ?_, by rw [heap_setFar _ _ _ _ _ (Ne.symm h4.2.2)]; exact h3, h4, ⟨B, h5.below (below_set (Below.refl B W) h7.1 0 _), h6, h7⟩, h8, h9⟩
 simp only [World.setCell, Array.getElem?_modify, if_true, h2, Option.map_some]
 rfl
theorem Rdr.cells (h : Rdr W pa pw pb v b s) : W.cell? ⟨pa, 0, none⟩ = some (.int .i64 (s.1 : Int)) ∧ W.cell? ⟨pw, 0, none⟩ = some (.bool s.2) ∧ W.cell? ⟨pb, 0, none⟩ = some v ∧ W.frozen? ⟨pa, 0, none⟩ = false ∧ W.frozen? ⟨pw, 0, none⟩ = false :=
 ⟨cell_of_row _ _ _ _ _ _ h.at_, cell_of_row _ _ _ _ _ _ h.well, cell_of_row _ _ _ _ _ _ h.bytes, by simp [World.frozen?, h.at_], by simp [World.frozen?, h.well]⟩
end
/-- What the call owns from lo on is kept while the two boxes, which lie below lo, are written. -/
theorem owns_x {pa pw lo e size n : Nat} {w w' : World} {v : Value} {ys : List Value} (h : w.ownsRow lo e size v n ys) (ha : pa < lo) (hw : pw < lo) (hb : BelowX pa pw w.heap.size w w') : w'.ownsRow lo e size v n ys := by
 refine ⟨h.1, ?_⟩
 rcases h.2 with h2 | ⟨g, cap, cur, h1, h2, h3, h4⟩
 ·exact .inl h2
 ·exact .inr ⟨g, cap, cur, h1, h2, (hb.block g (heap_lt h3) (by omega) (by omega)).trans h3, h4⟩
section
variable {pa pw lo : Nat} {W W' : World} {v : Value}
theorem own_x {α : Type} {T : TypeId} {sz : Nat} {R : El α} {l : List α} (h : ListOwn T sz R W lo v l) (ha : pa < lo) (hw : pw < lo) (hb : BelowX pa pw W.heap.size W W') (hR : ∀ (c : Nat → Option Value) (x : α), R W W.heap.size c x → R W' W'.heap.size c x) : ListOwn T sz R W' lo v l := by
 obtain ⟨yss, ho, hl, hm, hs, ht⟩ := h
 exact ⟨yss, owns_x ho ha hw hb, hl, hm, hs, fun j ys x h1 h2 => hR _ _ (ht j ys x h1 h2)⟩
theorem flat_x {α : Type} {T : TypeId} {sz : Nat} {R : El α} {l : List α} (hf : FlatR R) (h : ListOwn T sz R W lo v l) (ha : pa < lo) (hw : pw < lo) (hb : BelowX pa pw W.heap.size W W') : ListOwn T sz R W' lo v l := own_x h ha hw hb fun _ _ h => hf h
theorem secO_x {c : Nat → Option Value} {x : Sec} (h : SecO lo W W.heap.size c x) (ha : pa < lo) (hw : pw < lo) (hb : BelowX pa pw W.heap.size W W') : SecO lo W' W'.heap.size c x := by
 obtain ⟨h0, h1, u, h2, h3, h4⟩ := h
 exact ⟨h0, h1, u, h2, flat_x joinF h3 ha hw hb, fun k hk => Nat.lt_of_lt_of_le (h4 k hk) hb.size⟩
theorem secs_x {l : List Sec} (h : SectsOwn W lo v l) (ha : pa < lo) (hw : pw < lo) (hb : BelowX pa pw W.heap.size W W') : SectsOwn W' lo v l := own_x h ha hw hb fun _ _ h => secO_x h ha hw hb
theorem rtOwn_x {u3 u4 u5 : Value} {r : Rt} (h : RtOwn W lo u3 u4 u5 r) (ha : pa < lo) (hw : pw < lo) (hb : BelowX pa pw W.heap.size W W') : RtOwn W' lo u3 u4 u5 r := ⟨flat_x intF h.path ha hw hb, flat_x intF h.over ha hw hb, flat_x joinF h.flanks ha hw hb⟩
theorem routeO_x {c : Nat → Option Value} {x : Rt} (h : RouteO lo W W.heap.size c x) (ha : pa < lo) (hw : pw < lo) (hb : BelowX pa pw W.heap.size W W') : RouteO lo W' W'.heap.size c x := by
 obtain ⟨h0, h1, h2, h6, u3, u4, u5, h3, h4, h5, h, b3, b4, b5⟩ := h
 exact ⟨h0, h1, h2, h6, u3, u4, u5, h3, h4, h5, rtOwn_x h ha hw hb, fun k hk => Nat.lt_of_lt_of_le (b3 k hk) hb.size, fun k hk => Nat.lt_of_lt_of_le (b4 k hk) hb.size, fun k hk => Nat.lt_of_lt_of_le (b5 k hk) hb.size⟩
theorem routes_x {l : List Rt} (h : RoutesOwn W lo v l) (ha : pa < lo) (hw : pw < lo) (hb : BelowX pa pw W.heap.size W W') : RoutesOwn W' lo v l := own_x h ha hw hb fun _ _ h => routeO_x h ha hw hb
end

theorem Rdr.keep {W W' : World} {n pa pw pb : Nat} {v : Value} {b : List UInt8} {s : St} (h : Rdr W pa pw pb v b s) (hb : Below n W W') (ha : pa < n) (hw : pw < n) (hpb : pb < n) : Rdr W' pa pw pb v b s := by
 obtain ⟨h1, h2, h3, h4, ⟨B, h5, h6, h7⟩, h8, h9⟩ := h
 exact ⟨(hb.block _ ha).trans h1, (hb.block _ hw).trans h2, (hb.block _ hpb).trans h3, h4, ⟨B, h5.below (hb.mono (by omega)), h6, h7⟩, h8, h9⟩
theorem wp_store_rowP {P : Program} {op : Oper} {a : Act} {w : World} {K : Act → World → Prop} {Q : Exit → Act → World → Prop} (ty : TypeId) (x y : Operand) (ho : op.op = .store ty x y)
  (b : Nat) (hx : a.eval x = .pointer (some ⟨b, 0, none⟩)) {c c' : Array Value} (hy : a.eval y = .agg c') {t : TypeId} (hb : w.heap[b]? = some (.cells c t (0, 0)))
  (hi : (P.info? ty).map (·.size) = some c'.size) (hs : c.size = c'.size) (h1 : c'.all (·.oneCell') = true)
  (h : K (a.put op.dst undef) (w.setRow b c')) : op.wp P a w K Q := by
 unfold Oper.wp execOp
 simp only [ho, hx, hy, Instr.storeAt, Instr.sureAddr, Sem.run_bind, Sem.run_pure, Result.andThen_ok]
 rw [run_storeVar_row w b t ty c c' hb hi hs h1]
 exact h
theorem Rdr.setRow {W : World} {pa pw pb : Nat} {v : Value} {b : List UInt8} {s : St} (h : Rdr W pa pw pb v b s) (g : Nat) (cs : Array Value) (ha : pa < g) (hw : pw < g) (hpb : pb < g) : Rdr (W.setRow g cs) pa pw pb v b s := h.keep (n := g) (below_setRow (Below.refl g W) (Nat.le_refl _) cs) ha hw hpb
/-- A slice type, the type of its elements, their cells. -/
def SliceOf (tS T : TypeId) (sz : Nat) : Prop := Tryz.prog.underlying tS = some (.slice T) ∧ ∃ i z, Tryz.prog.info? T = some i ∧ i.zero = some z ∧ z.cells.size = sz ∧ i.size = sz ∧ 0 < sz ∧ i.bytes ≤ 1000
section
variable {α : Type} {T tS : TypeId} {sz : Nat} {R : El α} {W : World} {lo n c ty : Nat} {A : Option Addr} {L : List α} {x : α} {ys : List Value}
theorem run_append_one (hT : SliceOf tS T sz) (e : Elem R) (hG : ∀ {W W' : World} {c : Nat → Option Value} {y : α} {g : Nat}, lo ≤ g → R W W.heap.size c y → W.grownBy W' (some g) → (∃ cur, W.heap[g]? = some (.cells cur T (0, 0))) → R W' W'.heap.size c y)
  (hO : ListOwn T sz R W lo (.slice A n c) L) (hn : n = L.length) (hy : ys.length = sz) (h1 : ∀ u ∈ ys, u.oneCell' = true) (hx : R W W.heap.size (fun k => ys[k]?) x) (hle : n + 1 ≤ 10000) (hlo : lo ≤ W.heap.size) :
  ∃ A' c' w', (Builtin.append_ #[tS, tS] ty #[.slice A n c, .slice (some ⟨W.heap.size, 0, none⟩) 1 1]).run Tryz.prog (W.alloc (.cells ys.toArray T)) = .ok (.slice A' (n + 1) c') w' ∧ ListOwn T sz R w' lo (.slice A' (n + 1) c') (L ++ [x]) ∧ Below lo W w' := by
 obtain ⟨ht, i, z, hi, hz, hzs, hsize, hsz, hby⟩ := hT
 obtain ⟨yss, ho, hl, hm, hs, hr⟩ := hO
 have hb := below_new W (.cells ys.toArray T)
 obtain ⟨v', w', hrun, h2, h3, -⟩ := run_append_own (P := Tryz.prog) (W.alloc (.cells ys.toArray T)) lo tS ty T i z sz i.bytes ht hi hz hsize rfl hzs hsz (.slice A n c) n yss.flatten (owns_below (hn ▸ ho : W.ownsRow lo T sz (.slice A n c) n yss.flatten) hb) ⟨W.heap.size, 0, none⟩ 1 1 ys (by omega) (fun j u hj => by
  rw [Addr.add_lit, Nat.zero_add, World.cell?_alloc_new]
  simpa using hj) h1 (by unfold maxLen; omega) (by have := Nat.mul_le_mul hle hby; omega) (Nat.le_trans hlo hb.size)
 obtain ⟨A', c', rfl⟩ := own_sliceN h2
 refine ⟨A', c', w', hrun, ?_, (hb.mono hlo).grown h3 (Nat.le_trans hlo hb.size) (own_ge ho)⟩
 subst hn
 exact ListOwn.snoc e hG ho hl hs hy (by unfold maxLen; omega) hr (Below.refl _ _) hx h2 h3
theorem wpList_append_one {ops : Array Oper} {rest : List Oper} {o : Oper} {a : Act} {Q : Exit → Act → World → Prop} (hgd : o.guard = none) (s u : Operand) (ho : o.op = .call { callee := .builtin .append, args := #[s, u], argTypes := #[tS, tS] })
  (hT : SliceOf tS T sz) (e : Elem R) (hG : ∀ {W W' : World} {c : Nat → Option Value} {y : α} {g : Nat}, lo ≤ g → R W W.heap.size c y → W.grownBy W' (some g) → (∃ cur, W.heap[g]? = some (.cells cur T (0, 0))) → R W' W'.heap.size c y)
  (hs : a.eval s = .slice A n c) (hu : a.eval u = .slice (some ⟨W.heap.size, 0, none⟩) 1 1)
  (hO : ListOwn T sz R W lo (.slice A n c) L) (hn : n = L.length) (hy : ys.length = sz) (h1 : ∀ u ∈ ys, u.oneCell' = true) (hx : R W W.heap.size (fun k => ys[k]?) x) (hle : n + 1 ≤ 10000) (hlo : lo ≤ W.heap.size)
  (h : ∀ A' c' w', ListOwn T sz R w' lo (.slice A' (n + 1) c') (L ++ [x]) → Below lo W w' → wpList Tryz.prog ops Q rest (a.put o.dst (.slice A' (n + 1) c')) w') : wpList Tryz.prog ops Q (o :: rest) a (W.alloc (.cells ys.toArray T)) := by
 refine wpList_plain hgd fun K hK => ?_
 obtain ⟨A', c', w', hrun, h2, h3⟩ := run_append_one (ty := o.type) hT e hG hO hn hy h1 hx hle hlo
 unfold Oper.wp execOp
 simp only [ho, resolve, invoke, builtin, Sem.run_bind, Sem.run_pure, Result.andThen_ok, List.map_toArray, List.map_cons, List.map_nil, hs, hu, hrun]
 exact hK _ _ (h A' c' w' h2 h3)
theorem wp_append_one {o : Oper} {a : Act} {K : Act → World → Prop} {Q : Exit → Act → World → Prop} (s u : Operand) (ho : o.op = .call { callee := .builtin .append, args := #[s, u], argTypes := #[tS, tS] })
  (hT : SliceOf tS T sz) (e : Elem R) (hG : ∀ {W W' : World} {c : Nat → Option Value} {y : α} {g : Nat}, lo ≤ g → R W W.heap.size c y → W.grownBy W' (some g) → (∃ cur, W.heap[g]? = some (.cells cur T (0, 0))) → R W' W'.heap.size c y)
  (hs : a.eval s = .slice A n c) (hu : a.eval u = .slice (some ⟨W.heap.size, 0, none⟩) 1 1)
  (hO : ListOwn T sz R W lo (.slice A n c) L) (hn : n = L.length) (hy : ys.length = sz) (h1 : ∀ u ∈ ys, u.oneCell' = true) (hx : R W W.heap.size (fun k => ys[k]?) x) (hle : n + 1 ≤ 10000) (hlo : lo ≤ W.heap.size)
  (h : ∀ A' c' w', ListOwn T sz R w' lo (.slice A' (n + 1) c') (L ++ [x]) → Below lo W w' → K (a.put o.dst (.slice A' (n + 1) c')) w') : o.wp Tryz.prog a (W.alloc (.cells ys.toArray T)) K Q := by
 obtain ⟨A', c', w', hrun, h2, h3⟩ := run_append_one (ty := o.type) hT e hG hO hn hy h1 hx hle hlo
 unfold Oper.wp execOp
 simp only [ho, resolve, invoke, builtin, Sem.run_bind, Sem.run_pure, Result.andThen_ok, List.map_toArray, List.map_cons, List.map_nil, hs, hu, hrun]
 exact h A' c' w' h2 h3
end
/-- Of a list that is read element by element: the first i are there. -/
def RepI {α : Type} (m : St → α × St) (n : Nat) (s : St) (i : Nat) (L : List α) (si : St) : Prop := i ≤ n ∧ L.length = i ∧ repM m n s = (L ++ (repM m (n - i) si).1, (repM m (n - i) si).2)
section
variable {α : Type} {m : St → α × St} {n i : Nat} {s si sj : St} {L : List α} {x : α}
theorem RepI.zero : RepI m n s 0 [] s := ⟨Nat.zero_le _, rfl, by simp⟩
theorem RepI.step (h : RepI m n s i L si) (hi : i < n) (hx : m si = (x, sj)) : RepI m n s (i + 1) (L ++ [x]) sj := by
 obtain ⟨-, h2, h3⟩ := h
 refine ⟨hi, by simp [h2], ?_⟩
 rw [h3, show n - i = n - (i + 1) + 1 by omega]
 show (L ++ (m si).1 :: (repM m (n - (i + 1)) (m si).2).1, (repM m (n - (i + 1)) (m si).2).2) = _
 rw [hx]
 simp
theorem RepI.all (h : RepI m n s n L si) : repM m n s = (L, si) := by
 obtain ⟨-, h2, h3⟩ := h
 rw [h3, Nat.sub_self]
 simp [repM]
end
/-- A number that was read, with its bounds. -/
theorem next_nat {b : List UInt8} {most x : Int} {s s' : St} (hs : s.1 ≤ b.length) (h0 : 0 ≤ most) (h : nextM b most s = (x, s')) : ∃ n : Nat, x = n ∧ (n : Int) ≤ most := by
 rcases next_cases b most s hs with ⟨-, n, -, h1, -, -, -, h2⟩ | ⟨-, h2⟩
 ·rw [h] at h2; injection h2 with e1 _; exact ⟨n, e1, h1⟩
 ·rw [h] at h2; injection h2 with e1 _; exact ⟨0, e1, by omega⟩
theorem list_read {α : Type} {b : List UInt8} {most : Int} {m : St → α × St} {s s1 s2 : St} {n : Nat} {L : List α} (h : nextM b most s = ((n : Int), s1)) (h2 : repM m n s1 = (L, s2)) : listM b most m s = (L, s2) := by
 show ((repM m (nextM b most s).1.toNat (nextM b most s).2).1, (repM m (nextM b most s).1.toNat (nextM b most s).2).2) = _
 rw [h]
 simp only [Int.toNat_natCast, h2]
end Go.Proofs.YteloiajocjahmaaGreatDoor
