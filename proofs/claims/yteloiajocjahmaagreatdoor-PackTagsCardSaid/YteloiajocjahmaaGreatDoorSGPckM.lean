/-
 Plans as numbers: what they are, their bounds, and that no two plans that may be have one list of numbers, nor one that goes on as another one.
 Conditions: none.
-/
import Derived.Test.YteloiajocjahmaaGreatDoorSGPlnRefC
import Derived.Test.YteloiajocjahmaaGreatDoorSGCodM
import Derived.Test.YteloiajocjahmaaGreatDoorSGPlnRefB
import Derived.Test.YteloiajocjahmaaGreatDoorSGTrkRef
set_option linter.unusedVariables false
set_option linter.unusedSimpArgs false
set_option maxRecDepth 100000
namespace Go.Proofs.YteloiajocjahmaaGreatDoor
open Go.RowKit

def numsJ (j : Jn) : List Int := [j.1, j.2]
def numsG (x : Sg) : List Int := [x.1, x.2.1, x.2.2]
def numsS (s : Sec) : List Int := s.1 :: s.2.1 :: s.2.2.flatMap numsJ
def numsR (r : Rt) : List Int := r.id :: r.entry :: r.exit :: (r.path.length : Int) :: (r.path ++ (r.over.length : Int) :: (r.over ++ (r.flanks.length : Int) :: (r.flanks.flatMap numsJ ++ [r.timer])))
/-- A plan's numbers. -/
def numsP (p : Pl) : List Int := p.ver :: p.par :: (p.secs.length : Int) :: (p.secs.flatMap numsS ++ (p.pts.length : Int) :: (p.pts.flatMap numsJ ++ (p.sigs.length : Int) :: (p.sigs.flatMap numsG ++ (p.routes.length : Int) :: p.routes.flatMap numsR)))
/-- No two of S begin alike, and go on. -/
def Pre {α : Type} (f : α → List Int) (S : α → Prop) : Prop := ∀ x y u v, S x → S y → f x ++ u = f y ++ v → x = y ∧ u = v
theorem Pre.list {α : Type} {f : α → List Int} {S : α → Prop} (h : Pre f S) : ∀ (l m : List α) (u v : List Int), (∀ x ∈ l, S x) → (∀ x ∈ m, S x) → l.length = m.length → l.flatMap f ++ u = m.flatMap f ++ v → l = m ∧ u = v
 | [], [], u, v, _, _, _, e => ⟨rfl, by simpa using e⟩
 | [], _ :: _, _, _, _, _, e, _ => by simp at e
 | _ :: _, [], _, _, _, _, e, _ => by simp at e
 | x :: l, y :: m, u, v, hl, hm, hn, e => by
  rw [List.flatMap_cons, List.flatMap_cons, List.append_assoc, List.append_assoc] at e
  obtain ⟨e1, e2⟩ := h x y _ _ (hl x (List.mem_cons_self ..)) (hm y (List.mem_cons_self ..)) e
  obtain ⟨e3, e4⟩ := Pre.list h l m u v (fun z hz => hl z (List.mem_cons_of_mem _ hz)) (fun z hz => hm z (List.mem_cons_of_mem _ hz)) (by simpa using hn) e2
  exact ⟨by rw [e1, e3], e4⟩
theorem preJ : Pre numsJ fun _ => True := by
 rintro ⟨a, b⟩ ⟨c, d⟩ u v - - e
 simp only [numsJ, List.cons_append, List.nil_append, List.cons.injEq] at e
 obtain ⟨rfl, rfl, rfl⟩ := e
 exact ⟨rfl, rfl⟩
theorem preG : Pre numsG fun _ => True := by
 rintro ⟨a, b, c⟩ ⟨d, e, f⟩ u v - - e
 simp only [numsG, List.cons_append, List.nil_append, List.cons.injEq] at e
 obtain ⟨rfl, rfl, rfl, rfl⟩ := e
 exact ⟨rfl, rfl⟩
/-- How many ends a section has, by its point. -/
def endsOf (pt : Int) : Nat := if pt = 0 then 2 else 3
theorem preS : Pre numsS fun s => s.2.2.length = endsOf s.2.1 := by
 rintro ⟨a, b, l⟩ ⟨c, d, m⟩ u v h1 h2 e
 simp only [numsS, List.cons_append, List.cons.injEq] at e
 obtain ⟨rfl, rfl, e⟩ := e
 obtain ⟨rfl, rfl⟩ := Pre.list preJ l m u v (fun _ _ => trivial) (fun _ _ => trivial) (h1.trans h2.symm) e
 exact ⟨rfl, rfl⟩
theorem flat_ints (l : List Int) : l.flatMap (fun z => [z]) = l := by induction l with | nil => rfl | cons a l ih => rw [List.flatMap_cons, ih]; rfl
theorem preL {l m u v : List Int} (hn : l.length = m.length) (e : l ++ u = m ++ v) : l = m ∧ u = v := List.append_inj e hn
theorem preR : Pre numsR fun _ => True := by
 rintro ⟨a1, a2, a3, p1, o1, f1, t1⟩ ⟨b1, b2, b3, p2, o2, f2, t2⟩ u v - - e
 simp only [numsR, List.cons_append, List.append_assoc, List.nil_append, List.cons.injEq] at e
 obtain ⟨rfl, rfl, rfl, hn, e⟩ := e
 obtain ⟨q1, e1⟩ := preL (by omega) e
 obtain ⟨hn1, e1⟩ := List.cons.inj e1
 obtain ⟨q2, e2⟩ := preL (by omega) e1
 obtain ⟨hn2, e2⟩ := List.cons.inj e2
 obtain ⟨q3, e3⟩ := Pre.list preJ f1 f2 _ _ (fun _ _ => trivial) (fun _ _ => trivial) (by omega) e2
 obtain ⟨q4, e4⟩ := List.cons.inj e3
 rw [q1, q2, q3, q4]
 exact ⟨rfl, e4⟩
theorem sec_ends {p : Pl} (h : PlanMay p) {s : Sec} (hs : s ∈ p.secs) : s.2.2.length = endsOf s.2.1 ∧ 0 ≤ s.2.1 ∧ s.2.1 ≤ 99 ∧ 1 ≤ s.1 ∧ s.1 ≤ 99 := by
 obtain ⟨i, hi, rfl⟩ := List.getElem_of_mem hs
 obtain ⟨h1, h2, h3⟩ := h.secs.s i hi
 rw [shapedB] at h3
 unfold endsOf
 split at h3
 ·rename_i h0
  rw [if_pos h0]
  have := of_decide_eq_true h3
  omega
 ·rename_i h0
  rw [if_neg h0]
  simp only [Bool.and_eq_true, decide_eq_true_eq] at h3
  omega
theorem preP : Pre numsP PlanMay := by
 rintro ⟨a1, a2, s1, p1, g1, r1⟩ ⟨b1, b2, s2, p2, g2, r2⟩ u v hx hy e
 have hs1 := fun s hs => (sec_ends hx (s := s) hs).1
 have hs2 := fun s hs => (sec_ends hy (s := s) hs).1
 simp only [numsP, List.cons_append, List.append_assoc, List.cons.injEq] at e
 obtain ⟨rfl, rfl, hn, e⟩ := e
 obtain ⟨q1, e1⟩ := Pre.list preS s1 s2 _ _ hs1 hs2 (by omega) e
 obtain ⟨hn1, e1⟩ := List.cons.inj e1
 obtain ⟨q2, e2⟩ := Pre.list preJ p1 p2 _ _ (fun _ _ => trivial) (fun _ _ => trivial) (by omega) e1
 obtain ⟨hn2, e2⟩ := List.cons.inj e2
 obtain ⟨q3, e3⟩ := Pre.list preG g1 g2 _ _ (fun _ _ => trivial) (fun _ _ => trivial) (by omega) e2
 obtain ⟨hn3, e3⟩ := List.cons.inj e3
 obtain ⟨q4, e4⟩ := Pre.list preR r1 r2 _ _ (fun _ _ => trivial) (fun _ _ => trivial) (by omega) e3
 rw [q1, q2, q3, q4]
 exact ⟨rfl, e4⟩
/-- Small numbers: each is one byte. -/
def SmallN (l : List Int) : Prop := ∀ z ∈ l, 0 ≤ z ∧ z < 128
theorem SmallN.app {l m : List Int} (h : SmallN l) (h' : SmallN m) : SmallN (l ++ m) := fun z hz => (List.mem_append.1 hz).elim (h z) (h' z)
theorem SmallN.con {z : Int} {m : List Int} (h : 0 ≤ z ∧ z < 128) (h' : SmallN m) : SmallN (z :: m) := fun y hy => (List.mem_cons.1 hy).elim (fun e => by rw [e]; exact h) (h' y)
theorem SmallN.nil_ : SmallN [] := fun z hz => by cases hz
theorem SmallN.flat {α : Type} {f : α → List Int} {l : List α} (h : ∀ x ∈ l, SmallN (f x)) : SmallN (l.flatMap f) := fun z hz => by
 obtain ⟨x, hx, hz⟩ := List.mem_flatMap.1 hz
 exact h x hx z hz
theorem at1_has {α : Type} {k : α → Int} {l : List α} {id : Int} (h : 0 ≤ at1 k l id) : ∃ x ∈ l, k x = id := by
 rcases at1_cases k l id with ⟨h1, -⟩ | ⟨i, hi, h1, h2, -⟩
 ·omega
 ·exact ⟨l[i], List.getElem_mem hi, h2⟩
theorem atS_mem {l : List Sec} {id : Int} (h : 0 ≤ atS l id) : ∃ x ∈ l, x.1 = id := by
 rcases atS_cases l id with h1 | ⟨i, hi, h1, h2⟩
 ·omega
 ·exact ⟨l[i], List.getElem_mem hi, h2⟩
theorem sec_id {p : Pl} (h : PlanMay p) {id : Int} (h0 : 0 ≤ atS p.secs id) : 0 ≤ id ∧ id < 128 := by
 obtain ⟨s, hs, rfl⟩ := atS_mem h0
 have := sec_ends h hs
 omega
theorem small_sec {p : Pl} (h : PlanMay p) {s : Sec} (hs : s ∈ p.secs) : SmallN (numsS s) := by
 have h1 := sec_ends h hs
 refine .con (by omega) (.con (by omega) (.flat fun j hj => ?_))
 obtain ⟨i, hi, rfl⟩ := List.getElem_of_mem hs
 obtain ⟨k, hk, rfl⟩ := List.getElem_of_mem hj
 have h2 := h.secs.e i k hi hk
 rw [joinedB, show p.secs[i].2.2.getD k (0, 0) = p.secs[i].2.2[k] by rw [List.getD, List.getElem?_eq_getElem hk]; rfl] at h2
 split at h2
 ·rename_i h3
  exact .con (by omega) (.con (by omega) .nil_)
 ·split at h2
  ·cases h2
  ·rename_i h3
   have h4 : 0 ≤ atS p.secs p.secs[i].2.2[k].1 := by omega
   have h5 := sec_id h h4
   have h6 : ((p.secs.getD (atS p.secs p.secs[i].2.2[k].1).toNat (0, 0, [])).2.2.length : Int) ≤ 3 := by
    rw [List.getD]
    cases h7 : p.secs[(atS p.secs p.secs[i].2.2[k].1).toNat]? with
    | none => simp
    | some y =>
     have h8 := (sec_ends h (List.mem_of_getElem? h7)).1
     unfold endsOf at h8
     simp only [Option.getD_some]
     split at h8 <;> omega
   exact .con h5 (.con (by omega) .nil_)
theorem small_pt {p : Pl} (h : PlanMay p) {x : Jn} (hx : x ∈ p.pts) : SmallN (numsJ x) := by
 obtain ⟨i, hi, rfl⟩ := List.getElem_of_mem hx
 obtain ⟨h1, h2, -, k, hk, h3, -⟩ := h.pts.each i hi
 have := sec_id h (id := p.pts[i].2) (by omega)
 exact .con (by omega) (.con this .nil_)
theorem small_sig {p : Pl} (h : PlanMay p) {x : Sg} (hx : x ∈ p.sigs) : SmallN (numsG x) := by
 obtain ⟨i, hi, rfl⟩ := List.getElem_of_mem hx
 obtain ⟨h1, h2, ⟨k, hk, h3, h4, h5⟩, -⟩ := h.sigs.each i hi
 have h6 := sec_id h (id := p.sigs[i].2.1) (by omega)
 have h7 := (sec_ends h (List.getElem_mem hk)).1
 unfold endsOf at h7
 have h8 : p.secs[k].2.2.length ≤ 3 := by split at h7 <;> omega
 exact .con (by omega) (.con h6 (.con (by omega) .nil_))
theorem sig_id {p : Pl} (h : PlanMay p) {id : Int} (h0 : 0 ≤ at1 (fun x : Sg => x.1) p.sigs id) : 0 ≤ id ∧ id < 128 := by
 obtain ⟨s, hs, rfl⟩ := at1_has h0
 have := small_sig h hs s.1 (by simp [numsG])
 omega
theorem small_route {p : Pl} (h : PlanMay p) {r : Rt} (hr : r ∈ p.routes) : SmallN (numsR r) := by
 obtain ⟨i, hi, rfl⟩ := List.getElem_of_mem hr
 obtain ⟨h1, -, h2⟩ := h.each i hi
 obtain ⟨k, hk, h3, -⟩ := h2.entry
 have h4 := sig_id h (id := p.routes[i].entry) (by omega)
 have h5 : 0 ≤ p.routes[i].exit ∧ p.routes[i].exit < 128 := by
  by_cases e : p.routes[i].exit = 0
  ·omega
  ·exact sig_id h (h2.exit e).1
 have h6 := h2.path
 have h7 := h2.over
 have h8 := h2.flank
 have h9 := h2.timer
 have hp : SmallN (p.routes[i].path ++ p.routes[i].over) := fun z hz => by
  obtain ⟨m, hm, rfl⟩ := List.getElem_of_mem hz
  exact sec_id h (h2.secs m hm).1
 have hf : SmallN (p.routes[i].flanks.flatMap numsJ) := .flat fun j hj => by
  obtain ⟨m, hm, rfl⟩ := List.getElem_of_mem hj
  obtain ⟨g1, -, g2, g3⟩ := h2.flanks m hm
  obtain ⟨x, hx, e⟩ := at1_has g1
  have := small_pt h hx x.1 (by simp [numsJ])
  exact .con (by omega) (.con (by omega) .nil_)
 exact .con (by omega) (.con h4 (.con h5 (.con (by omega) (.app (fun z hz => hp z (List.mem_append_left _ hz)) (.con (by omega) (.app (fun z hz => hp z (List.mem_append_right _ hz)) (.con (by omega) (.app hf (.con (by omega) .nil_)))))))))
/-- What stands behind the two versions. -/
def restP (p : Pl) : List Int := (p.secs.length : Int) :: (p.secs.flatMap numsS ++ (p.pts.length : Int) :: (p.pts.flatMap numsJ ++ (p.sigs.length : Int) :: (p.sigs.flatMap numsG ++ (p.routes.length : Int) :: p.routes.flatMap numsR)))
theorem numsP_eq (p : Pl) : numsP p = p.ver :: p.par :: restP p := rfl
theorem small_rest {p : Pl} (h : PlanMay p) : SmallN (restP p) := by
 have h1 := h.secs.n
 have h2 := h.pts.n
 have h3 := h.sigs.n
 have h4 := h.n
 exact .con (by omega) (.app (.flat fun s hs => small_sec h hs) (.con (by omega) (.app (.flat fun s hs => small_pt h hs) (.con (by omega) (.app (.flat fun s hs => small_sig h hs) (.con (by omega) (.flat fun s hs => small_route h hs)))))))
theorem flat_len {α : Type} (f : α → List Int) (k : Nat) : ∀ l : List α, (∀ x ∈ l, (f x).length ≤ k) → (l.flatMap f).length ≤ l.length * k
 | [], _ => by simp
 | x :: l, h => by
  rw [List.flatMap_cons, List.length_append, List.length_cons, Nat.succ_mul]
  have h1 := h x (List.mem_cons_self ..)
  have h2 := flat_len f k l fun y hy => h y (List.mem_cons_of_mem _ hy)
  omega
theorem numsJ_len (l : List Jn) : (l.flatMap numsJ).length = l.length * 2 := by
 induction l with
 | nil => rfl
 | cons a l ih => rw [List.flatMap_cons, List.length_append, ih, List.length_cons]; simp only [numsJ, List.length_cons, List.length_nil]; omega
theorem rest_len {p : Pl} (h : PlanMay p) : (restP p).length ≤ 600 := by
 have h1 := h.secs.n
 have h2 := h.pts.n
 have h3 := h.sigs.n
 have h4 := h.n
 have l1 := flat_len numsS 8 p.secs fun s hs => by
  have := (sec_ends h hs).1
  unfold endsOf at this
  rw [numsS, List.length_cons, List.length_cons, numsJ_len]
  split at this <;> omega
 have l2 := numsJ_len p.pts
 have l3 := flat_len numsG 3 p.sigs fun s _ => by simp [numsG]
 have l4 := flat_len numsR 21 p.routes fun r hr => by
  obtain ⟨i, hi, rfl⟩ := List.getElem_of_mem hr
  obtain ⟨-, -, g⟩ := h.each i hi
  have g1 := g.path
  have g2 := g.over
  have g3 := g.flank
  simp only [numsR, List.length_cons, List.length_append, numsJ_len, List.length_nil]
  omega
 have m1 : p.secs.length * 8 ≤ 16 * 8 := Nat.mul_le_mul h1 (Nat.le_refl _)
 have m3 : p.sigs.length * 3 ≤ 10 * 3 := Nat.mul_le_mul h3 (Nat.le_refl _)
 have m4 : p.routes.length * 21 ≤ 16 * 21 := Nat.mul_le_mul h4 (Nat.le_refl _)
 simp only [restP, List.length_cons, List.length_append]
 omega
/-- Numbers that can be written. -/
def NumsOk (l : List Int) : Prop := ∀ z ∈ l, 0 ≤ z ∧ z ≤ 2147483647
theorem nums_ok {p : Pl} (h : PlanMay p) : NumsOk (numsP p) := fun z hz => by
 rw [numsP_eq] at hz
 have h1 := h.ver
 have h2 := h.par
 rcases List.mem_cons.1 hz with rfl | hz
 ·omega
 rcases List.mem_cons.1 hz with rfl | hz
 ·omega
 have := small_rest h z hz
 omega

/-- Numbers as bytes, one behind the other. -/
def putL (l : List Int) : List UInt8 := l.flatMap fun z => bytesOf z.toNat
/-- A plan's text. -/
def textL (p : Pl) : List UInt8 := putL (numsP p)
theorem putL_nil : putL [] = [] := rfl
theorem putL_cons (z : Int) (l : List Int) : putL (z :: l) = bytesOf z.toNat ++ putL l := by rw [putL, List.flatMap_cons]; rfl
theorem putL_app (l m : List Int) : putL (l ++ m) = putL l ++ putL m := by rw [putL, List.flatMap_append]; rfl
theorem putL_snoc (l : List Int) (z : Int) : putL (l ++ [z]) = putL l ++ bytesOf z.toNat := by rw [putL_app, putL_cons, putL_nil, List.append_nil]
theorem NumsOk.tail {z : Int} {l : List Int} (h : NumsOk (z :: l)) : NumsOk l := fun y hy => h y (List.mem_cons_of_mem _ hy)
theorem NumsOk.head {z : Int} {l : List Int} (h : NumsOk (z :: l)) : 0 ≤ z ∧ z ≤ 2147483647 := h z (List.mem_cons_self ..)
theorem NumsOk.snoc {z : Int} {l : List Int} (h : NumsOk l) (hz : 0 ≤ z ∧ z ≤ 2147483647) : NumsOk (l ++ [z]) := fun y hy => by
 rcases List.mem_append.1 hy with h1 | h1
 ·exact h y h1
 ·rw [List.mem_singleton.1 h1]; exact hz
theorem bytes_pre {m n : Nat} {u v : List UInt8} (hm : m ≤ 2147483647) (hn : n ≤ 2147483647) (e : bytesOf m ++ u = bytesOf n ++ v) : m = n ∧ u = v := by
 have h1 := getSpec_put [] u hm
 have h2 := getSpec_put [] v hn
 simp only [List.nil_append] at h1 h2
 rw [e, h2] at h1
 have h3 : m = n := by
  have := congrArg (·.1) h1
  simp only at this
  omega
 subst h3
 exact ⟨rfl, (List.append_inj e rfl).2⟩
theorem putL_pre : ∀ (l m : List Int) (u v : List UInt8), NumsOk l → NumsOk m → putL l ++ u = putL m ++ v → ∃ t, (m = l ++ t ∧ u = putL t ++ v) ∨ (l = m ++ t ∧ v = putL t ++ u)
 | [], m, u, v, _, _, e => ⟨m, .inl ⟨rfl, by simpa [putL_nil] using e⟩⟩
 | x :: l, [], u, v, _, _, e => ⟨x :: l, .inr ⟨rfl, by simpa [putL_nil] using e.symm⟩⟩
 | x :: l, y :: m, u, v, hl, hm, e => by
  rw [putL_cons, putL_cons, List.append_assoc, List.append_assoc] at e
  have hx := hl.head
  have hy := hm.head
  obtain ⟨e1, e2⟩ := bytes_pre (by omega) (by omega) e
  obtain rfl : x = y := by omega
  obtain ⟨t, h⟩ := putL_pre l m u v hl.tail hm.tail e2
  refine ⟨t, ?_⟩
  rcases h with ⟨h1, h2⟩ | ⟨h1, h2⟩
  ·exact .inl ⟨by rw [h1]; rfl, h2⟩
  ·exact .inr ⟨by rw [h1]; rfl, h2⟩
theorem putL_empty {l : List Int} (h : putL l = []) : l = [] := by
 cases l with
 | nil => rfl
 | cons x l =>
  rw [putL_cons] at h
  have := bytesOf_length_pos x.toNat
  rw [List.append_eq_nil_iff] at h
  rw [h.1] at this
  simp at this
theorem putL_inj {l m : List Int} (hl : NumsOk l) (hm : NumsOk m) (e : putL l = putL m) : l = m := by
 obtain ⟨t, ⟨h1, h2⟩ | ⟨h1, h2⟩⟩ := putL_pre l m [] [] hl hm (by rw [e])
 ·rw [List.append_nil] at h2
  rw [h1, putL_empty h2.symm, List.append_nil]
 ·rw [List.append_nil] at h2
  rw [h1, putL_empty h2.symm, List.append_nil]
theorem text_more {p q : Pl} {u : List UInt8} (hp : PlanMay p) (hq : PlanMay q) (e : textL p ++ u = textL q) : p = q ∧ u = [] := by
 obtain ⟨t, ⟨h1, h2⟩ | ⟨h1, h2⟩⟩ := putL_pre (numsP p) (numsP q) u [] (nums_ok hp) (nums_ok hq) (by rw [List.append_nil]; exact e)
 ·obtain ⟨e1, e2⟩ := preP p q t [] hp hq (by rw [List.append_nil, h1])
  rw [e2] at h2
  exact ⟨e1, h2⟩
 ·obtain ⟨e1, e2⟩ := preP p q [] t hp hq (by rw [List.append_nil, h1])
  have h3 := List.append_eq_nil_iff.1 h2.symm
  exact ⟨e1, h3.2⟩
theorem text_inj {p q : Pl} (hp : PlanMay p) (hq : PlanMay q) (e : textL p = textL q) : p = q := (text_more (u := []) hp hq (by rw [List.append_nil]; exact e)).1
theorem small_len : ∀ l : List Int, SmallN l → (putL l).length = l.length
 | [], _ => rfl
 | z :: l, h => by
  rw [putL_cons, List.length_append, small_len l fun y hy => h y (List.mem_cons_of_mem _ hy), List.length_cons]
  have h1 := h z (List.mem_cons_self ..)
  rw [bytesOf, if_pos (by omega)]
  simp only [List.length_cons, List.length_nil]
  omega
theorem text_len {p : Pl} (h : PlanMay p) : (textL p).length ≤ 610 ∧ 1 ≤ (textL p).length := by
 rw [textL, numsP_eq, putL_cons, putL_cons, List.length_append, List.length_append, small_len _ (small_rest h)]
 have h1 := h.ver
 have h2 := h.par
 have h3 := bytesOf_length_le (n := p.ver.toNat) (by omega)
 have h4 := bytesOf_length_le (n := p.par.toNat) (by omega)
 have h5 := rest_len h
 have h6 := bytesOf_length_pos p.ver.toNat
 omega
def zPl : Pl := ⟨0, 0, [], [], [], []⟩
/-- Bytes are the text of a plan that may be. -/
def IsText (b : List UInt8) : Prop := ∃ p, PlanMay p ∧ textL p = b
noncomputable def parseE (b : List UInt8) : Int := @ite Int (IsText b) (Classical.propDecidable _) 0 8
noncomputable def parseP (b : List UInt8) : Pl := @dite Pl (IsText b) (Classical.propDecidable _) (fun h => Classical.choose h) (fun _ => zPl)
theorem parse_text {p : Pl} (h : PlanMay p) : parseE (textL p) = 0 ∧ parseP (textL p) = p := by
 have hx : IsText (textL p) := ⟨p, h, rfl⟩
 refine ⟨by rw [parseE, if_pos hx], ?_⟩
 rw [parseP, dif_pos hx]
 have h1 := Classical.choose_spec hx
 exact text_inj h1.1 h h1.2
theorem parse_no {b : List UInt8} (h : ∀ p, PlanMay p → textL p ≠ b) : parseE b = 8 ∧ parseP b = zPl := by
 have hx : ¬ IsText b := fun ⟨p, h1, h2⟩ => h p h1 h2
 exact ⟨by rw [parseE, if_neg hx], by rw [parseP, dif_neg hx]⟩
theorem parse_cases (b : List UInt8) : (∃ p, PlanMay p ∧ textL p = b ∧ parseE b = 0 ∧ parseP b = p) ∨ ((∀ p, PlanMay p → textL p ≠ b) ∧ parseE b = 8 ∧ parseP b = zPl) := by
 by_cases h : IsText b
 ·obtain ⟨p, h1, rfl⟩ := h
  exact .inl ⟨p, h1, rfl, parse_text h1⟩
 ·have h1 : ∀ p, PlanMay p → textL p ≠ b := fun p hp e => h ⟨p, hp, e⟩
  exact .inr ⟨h1, parse_no h1⟩
/-- One candidate is enough: it is the plan of these numbers, if there is one that may be. -/
theorem parse_by {b : List UInt8} {l : List Int} {q : Pl} (hl : NumsOk l) (hb : putL l = b) (hq : ∀ p, PlanMay p → numsP p = l → q = p) : (PlanMay q ∧ textL q = b → parseE b = 0 ∧ parseP b = q) ∧ (¬ (PlanMay q ∧ textL q = b) → parseE b = 8 ∧ parseP b = zPl) := by
 refine ⟨fun ⟨h1, h2⟩ => by rw [← h2]; exact parse_text h1, fun h => parse_no fun p hp e => h ?_⟩
 have e1 : numsP p = l := putL_inj (nums_ok hp) hl (by rw [hb]; exact e)
 rw [hq p hp e1]
 exact ⟨hp, e⟩

/-- All blocks of other types are kept. -/
def KeptT (T : TypeId) (w w' : World) : Prop := ∀ (p : Nat) (r : Array Value) (T2 : TypeId) (z : Nat × Nat), T2 ≠ T → w.heap[p]? = some (.cells r T2 z) → w'.heap[p]? = some (.cells r T2 z)
theorem KeptT.refl (T : TypeId) (w : World) : KeptT T w w := fun _ _ _ _ _ h => h
theorem KeptT.trans {T : TypeId} {w w' w2 : World} (h : KeptT T w w') (h' : KeptT T w' w2) : KeptT T w w2 := fun p r T2 z hT hp => h' p r T2 z hT (h p r T2 z hT hp)
theorem keptT_grown {T : TypeId} {sz lo n : Nat} {v : Value} {ys : List Value} {w w' : World} (ho : w.ownsRow lo T sz v n ys) (hg : w.grownBy w' v.ownBlock) : KeptT T w w' := fun p r T2 z hT hp => by
 refine (hg.block _ (heap_lt hp) fun e => ?_).trans hp
 rcases ho.2 with ⟨rfl, -⟩ | ⟨g, cap, cur, rfl, _, hgb, _⟩
 ·cases e
 ·cases e
  rw [hp] at hgb
  injection hgb with h1
  injection h1 with _ h2
  exact hT h2
theorem ints_atD {W : World} {B n c : Nat} {A : Option Addr} {l : List Int} {j : Nat} (h : IntsIn W B (.slice A n c) l) (hj : j < l.length) : ∃ b off, A = some ⟨b, off, none⟩ ∧ b < B ∧ W.cell? ⟨b, off + j, none⟩ = some (.int .i64 (l.getD j 0)) := by
 obtain ⟨b, off, e, hb, hg⟩ := h.at hj
 refine ⟨b, off, e, hb, ?_⟩
 rw [List.getD, List.getElem?_eq_getElem hj]
 simpa [IntR] using hg
theorem ints_alloc (w : World) (M : List Int) (h : M.length ≤ 1000) : IntsIn (w.alloc (.cells (M.map fun z => Value.int .i64 z).toArray 3)) (w.alloc (.cells (M.map fun z => Value.int .i64 z).toArray 3)).heap.size (.slice (some ⟨w.heap.size, 0, none⟩) M.length M.length) M := by
 refine ⟨some ⟨w.heap.size, 0, none⟩, M.length, rfl, Nat.le_refl _, by unfold maxLen; omega, ⟨(fun h => by cases h), fun _ => ⟨w.heap.size, 0, rfl, by simp, fun j hj => ?_⟩⟩⟩
 show World.cell? _ _ = _
 rw [World.cell?_alloc_new]
 simp [hj]
theorem ints_own_alloc (w : World) (M : List Int) (h : M.length ≤ 1000) : IntsOwn (w.alloc (.cells (M.map fun z => Value.int .i64 z).toArray 3)) w.heap.size (.slice (some ⟨w.heap.size, 0, none⟩) M.length M.length) M := by
 have e : (M.map fun z => [Value.int .i64 z]).flatten = M.map fun z => Value.int .i64 z := by induction M with | nil => rfl | cons a l ih => simpa using ih (by simp at h; omega)
 refine ⟨M.map fun z => [.int .i64 z], ⟨by rw [e]; simp, .inr ⟨w.heap.size, M.length, _, rfl, Nat.le_refl _, heap_alloc_self _ _, Nat.le_refl _, by unfold maxLen; omega, by simp, by rw [e]; simp only [Nat.mul_one]; rw [List.take_of_length_le (by simp)]⟩⟩, by simp, by unfold maxLen; omega, by simp, fun j ys x h1 h2 => ?_⟩
 rw [List.getElem?_map, h2] at h1
 cases h1
 rfl
section
variable {w : World} {lo n c B ty : Nat} {A : Option Addr} {L M : List Int} {v2 : Value}
theorem run_append_ints (hO : IntsOwn w lo (.slice A n c) L) (hn : n = L.length) (hx : IntsIn w B v2 M) (hle : n + M.length ≤ 100000) (hlo : lo ≤ w.heap.size) :
  ∃ A' c' w', (Builtin.append_ #[41, 41] ty #[.slice A n c, v2]).run Tryz.prog w = .ok (.slice A' (n + M.length) c') w' ∧ IntsOwn w' lo (.slice A' (n + M.length) c') (L ++ M) ∧ Below lo w w' ∧ KeptT 3 w w' := by
 obtain ⟨i0, hi, hz0, hzz, hz2⟩ := info_parts infoInt
 obtain ⟨A2, c2, rfl, -, -⟩ := hx.slice
 obtain ⟨zss, hy1, hy2, hy3, hy4, hy5, hy6, hy7⟩ := hx.cells (by omega) intR_full intR_cells
 obtain ⟨yss, ho, hl, hmx, hs, hr⟩ := hO
 rw [← hn] at ho
 obtain ⟨v', w', hrun, h2, h3⟩ := run_append_list (ty := ty) Tryz.underlying41 hi hz0 (by decide) hzz (by decide) hz2 (by decide) ho (by rw [flat_length _ hy2, hy1]) hy4 hy7 hy6 (by omega) hlo
 obtain ⟨A', c', rfl⟩ := own_sliceN h2
 refine ⟨A', c', w', hrun, own_cat (R := IntR) (sz := 1) intF h2 (by rw [hn]) hl hy1 hs hy2 hr hy3 (by unfold maxLen; omega), (Below.refl lo w).grown h3 hlo (own_ge ho), keptT_grown ho h3⟩
end
theorem wpList_append_ints {w : World} {ops : Array Oper} {rest : List Oper} {o : Oper} {a : Act} {Q : Exit → Act → World → Prop} (hgd : o.guard = none) (s x : Operand)
  (ho : o.op = .call { callee := .builtin .append, args := #[s, x], argTypes := #[41, 41] })
  {lo n c B : Nat} {A : Option Addr} {L M : List Int} {v2 : Value} (hs : a.eval s = .slice A n c) (hO : IntsOwn w lo (.slice A n c) L) (hn : n = L.length) (hu : a.eval x = v2) (hx : IntsIn w B v2 M) (N : Nat) (hN : n + M.length = N) (hle : N ≤ 100000) (hlo : lo ≤ w.heap.size)
  (h : ∀ A' c' w', IntsOwn w' lo (.slice A' N c') (L ++ M) → Below lo w w' → KeptT 3 w w' → wpList Tryz.prog ops Q rest (a.put o.dst (.slice A' N c')) w') : wpList Tryz.prog ops Q (o :: rest) a w := by
 subst hN
 refine wpList_plain hgd fun K hK => ?_
 obtain ⟨A', c', w', hrun, h2, h3, h4⟩ := run_append_ints (ty := o.type) hO hn hx hle hlo
 unfold Oper.wp execOp
 simp only [ho, resolve, invoke, builtin, Sem.run_bind, Sem.run_pure, Result.andThen_ok, List.map_toArray, List.map_cons, List.map_nil, hs, hu, hrun]
 exact hK _ _ (h A' c' w' h2 h3 h4)
theorem wp_append_ints {w : World} {o : Oper} {a : Act} {K : Act → World → Prop} {Q : Exit → Act → World → Prop} (s x : Operand)
  (ho : o.op = .call { callee := .builtin .append, args := #[s, x], argTypes := #[41, 41] })
  {lo n c B : Nat} {A : Option Addr} {L M : List Int} {v2 : Value} (hs : a.eval s = .slice A n c) (hO : IntsOwn w lo (.slice A n c) L) (hn : n = L.length) (hu : a.eval x = v2) (hx : IntsIn w B v2 M) (N : Nat) (hN : n + M.length = N) (hle : N ≤ 100000) (hlo : lo ≤ w.heap.size)
  (h : ∀ A' c' w', IntsOwn w' lo (.slice A' N c') (L ++ M) → Below lo w w' → KeptT 3 w w' → K (a.put o.dst (.slice A' N c')) w') : o.wp Tryz.prog a w K Q := by
 subst hN
 obtain ⟨A', c', w', hrun, h2, h3, h4⟩ := run_append_ints (ty := o.type) hO hn hx hle hlo
 unfold Oper.wp execOp
 simp only [ho, resolve, invoke, builtin, Sem.run_bind, Sem.run_pure, Result.andThen_ok, List.map_toArray, List.map_cons, List.map_nil, hs, hu, hrun]
 exact h A' c' w' h2 h3 h4
section
variable {α : Type} {T tS : TypeId} {sz bytes : Nat} {R : El α} {i : TypeInfo} {z : Value}
theorem own_keptT {T2 : TypeId} {W W' : World} {lo : Nat} {v : Value} {l : List α} (hf : FlatR R) (h : ListOwn T sz R W lo v l) (hk : KeptT T2 W W') (hT : T ≠ T2) : ListOwn T sz R W' lo v l := by
 obtain ⟨yss, ho, hl, hm, hs, hr⟩ := h
 refine ⟨yss, ⟨ho.1, ho.2.imp id fun ⟨g, cap, cur, e, h1, h2, h3⟩ => ⟨g, cap, cur, e, h1, hk _ _ _ _ hT h2, h3⟩⟩, hl, hm, hs, fun j ys x a b => hf (hr j ys x a b)⟩
/-- One element in a block of its own, as a list reads it. -/
theorem elem_alloc {w : World} {row : List Value} {x : α} (hR : ∀ (W : World) (B : Nat) (c c' : Nat → Option Value) (x : α), (∀ k, k < sz → c k = c' k) → R W B c x → R W B c' x)
  (h : R (w.alloc (.cells row.toArray T)) (w.alloc (.cells row.toArray T)).heap.size (fun k => row[k]?) x) : ListIn sz R (w.alloc (.cells row.toArray T)) (w.alloc (.cells row.toArray T)).heap.size (.slice (some ⟨w.heap.size, 0, none⟩) 1 1) [x] := by
 refine ⟨some ⟨w.heap.size, 0, none⟩, 1, rfl, Nat.le_refl _, by unfold maxLen; omega, ⟨(fun h => by cases h), fun _ => ⟨w.heap.size, 0, rfl, by simp, fun j hj => ?_⟩⟩⟩
 obtain rfl : j = 0 := by simp at hj; omega
 refine hR _ _ _ _ _ (fun k _ => ?_) h
 show _ = World.cell? _ _
 rw [World.cell?_alloc_new]
 simp
theorem wp_append_flat {w : World} {o : Oper} {a : Act} {K : Act → World → Prop} {Q : Exit → Act → World → Prop} (s x : Operand)
  (ho : o.op = .call { callee := .builtin .append, args := #[s, x], argTypes := #[tS, tS] }) (hf : FlatR R) (hR : ∀ (W : World) (B : Nat) (c c' : Nat → Option Value) (x : α), (∀ k, k < sz → c k = c' k) → R W B c x → R W B c' x)
  (hF : ∀ (W : World) (B : Nat) (c : Nat → Option Value) (x : α), R W B c x → ∀ k, k < sz → ∃ v, c k = some v ∧ v.oneCell' = true)
  (ht : Tryz.prog.underlying tS = some (.slice T)) (hi : Tryz.prog.info? T = some i) (hz : i.zero = some z) (hzs : z.cells.size = sz) (hsize : i.size = sz) (hsz : 0 < sz) (hby : i.bytes = bytes) (hb8 : bytes ≤ 100)
  {lo n c B : Nat} {A : Option Addr} {L M : List α} {v2 : Value} (hs : a.eval s = .slice A n c) (hO : ListOwn T sz R w lo (.slice A n c) L) (hn : n = L.length) (hu : a.eval x = v2) (hx : ListIn sz R w B v2 M) (N : Nat) (hN : n + M.length = N) (hle : N ≤ 100000) (hlo : lo ≤ w.heap.size)
  (h : ∀ A' c' w', ListOwn T sz R w' lo (.slice A' N c') (L ++ M) → Below lo w w' → KeptT T w w' → K (a.put o.dst (.slice A' N c')) w') : o.wp Tryz.prog a w K Q := by
 subst hN
 obtain ⟨A2, c2, rfl, -, -⟩ := hx.slice
 obtain ⟨zss, hy1, hy2, hy3, hy4, hy5, hy6, hy7⟩ := hx.cells hsz (hF _ _) (hR _ _)
 obtain ⟨yss, hown, hl, hmx, hss, hr⟩ := hO
 rw [← hn] at hown
 refine wp_append_list s x tS ho ht hi hz hzs hsize hsz hby hb8 hs hown hu (by rw [flat_length _ hy2, hy1]) hy4 hy7 hy6 (by omega) hlo ?_
 intro v' w' h2 h3
 obtain ⟨A', c', rfl⟩ := own_sliceN h2
 exact h A' c' w' (own_cat hf h2 (by rw [hn]) hl hy1 hss hy2 hr hy3 (by unfold maxLen; omega)) ((Below.refl lo w).grown h3 hlo (own_ge hown)) (keptT_grown hown h3)
end

theorem drop_head {l r : List Int} {x : Int} {a : Nat} (h : l.drop a = x :: r) : l.getD a 0 = x ∧ l.drop (a + 1) = r ∧ a < l.length := by
 have hl : a < l.length := by
  rcases Nat.lt_or_ge a l.length with h1 | h1
  ·exact h1
  ·rw [List.drop_eq_nil_of_le h1] at h; cases h
 rw [List.drop_eq_getElem_cons hl] at h
 obtain ⟨h1, h2⟩ := List.cons.inj h
 exact ⟨by rw [List.getD, List.getElem?_eq_getElem hl, h1]; rfl, h2, hl⟩
theorem drop_app {l m r : List Int} {a : Nat} (h : l.drop a = m ++ r) : l.drop (a + m.length) = r ∧ (l.drop a).take m.length = m := by
 refine ⟨?_, by rw [h, List.take_left' rfl]⟩
 rw [← List.drop_drop, h, List.drop_left' rfl]
/-- Pairs from a place on. -/
def rdJ (l : List Int) (a k : Nat) : List Jn := (List.range k).map fun m => (l.getD (a + 2 * m) 0, l.getD (a + 2 * m + 1) 0)
theorem rdJ_len (l : List Int) (a k : Nat) : (rdJ l a k).length = k := by simp [rdJ]
theorem rdJ_succ (l : List Int) (a k : Nat) : rdJ l a (k + 1) = rdJ l a k ++ [(l.getD (a + 2 * k) 0, l.getD (a + 2 * k + 1) 0)] := by
 rw [rdJ, List.range_succ, List.map_append]; rfl
theorem rdJ_cons (l : List Int) (a k : Nat) : rdJ l a (k + 1) = (l.getD a 0, l.getD (a + 1) 0) :: rdJ l (a + 2) k := by
 rw [rdJ, List.range_succ_eq_map, List.map_cons, List.map_map]
 congr 1
 apply List.map_congr_left
 intro m _
 simp only [Function.comp]
 rw [show a + 2 * m.succ = a + 2 + 2 * m by omega]
theorem rdJ_eq {l r : List Int} : ∀ (js : List Jn) (a : Nat), l.drop a = js.flatMap numsJ ++ r → rdJ l a js.length = js ∧ l.drop (a + 2 * js.length) = r
 | [], a, h => ⟨rfl, by simpa using h⟩
 | (x, y) :: js, a, h => by
  rw [List.flatMap_cons] at h
  simp only [numsJ, List.cons_append, List.nil_append] at h
  obtain ⟨h1, h2, -⟩ := drop_head h
  obtain ⟨h3, h4, -⟩ := drop_head h2
  obtain ⟨h5, h6⟩ := rdJ_eq js (a + 2) h4
  rw [List.length_cons, rdJ_cons, h1, h3, h5]
  exact ⟨rfl, by rw [show a + 2 * (js.length + 1) = a + 2 + 2 * js.length by omega]; exact h6⟩
def rdE (l : List Int) (a : Nat) : Nat := if 0 < l.getD (a + 1) 0 then 3 else 2
def rdS (l : List Int) (a : Nat) : Sec := (l.getD a 0, l.getD (a + 1) 0, rdJ l (a + 2) (rdE l a))
theorem numsS_len (s : Sec) : (numsS s).length = 2 + 2 * s.2.2.length := by
 rw [numsS, List.length_cons, List.length_cons, numsJ_len]; omega
theorem rdS_eq {l r : List Int} {s : Sec} {a : Nat} (h : l.drop a = numsS s ++ r) (he : s.2.2.length = endsOf s.2.1) (h0 : 0 ≤ s.2.1) : rdS l a = s ∧ a + 2 + 2 * rdE l a = a + (numsS s).length ∧ a < l.length := by
 have hl := numsS_len s
 simp only [numsS, List.cons_append] at h
 obtain ⟨h1, h2, h3⟩ := drop_head h
 obtain ⟨h4, h5, -⟩ := drop_head h2
 have h6 : rdE l a = s.2.2.length := by
  rw [he, rdE, endsOf, h4]
  by_cases hp : s.2.1 = 0
  ·rw [if_neg (by omega), if_pos hp]
  ·rw [if_pos (by omega), if_neg hp]
 obtain ⟨h7, -⟩ := rdJ_eq s.2.2 (a + 1 + 1) h5
 refine ⟨?_, by omega, h3⟩
 rw [rdS, h1, h4, h6, show a + 2 = a + 1 + 1 from rfl, h7]
def rdP (l : List Int) (a : Nat) : Jn := (l.getD a 0, l.getD (a + 1) 0)
theorem rdP_eq {l r : List Int} {s : Jn} {a : Nat} (h : l.drop a = numsJ s ++ r) : rdP l a = s ∧ a + 2 = a + (numsJ s).length ∧ a < l.length := by
 simp only [numsJ, List.cons_append] at h
 obtain ⟨h1, h2, h3⟩ := drop_head h
 obtain ⟨h4, h5, -⟩ := drop_head h2
 exact ⟨by rw [rdP, h1, h4], rfl, h3⟩
def rdG (l : List Int) (a : Nat) : Sg := (l.getD a 0, l.getD (a + 1) 0, l.getD (a + 2) 0)
theorem rdG_eq {l r : List Int} {s : Sg} {a : Nat} (h : l.drop a = numsG s ++ r) : rdG l a = s ∧ a + 3 = a + (numsG s).length ∧ a < l.length := by
 simp only [numsG, List.cons_append] at h
 obtain ⟨h1, h2, h3⟩ := drop_head h
 obtain ⟨h4, h5, -⟩ := drop_head h2
 obtain ⟨h6, h7, -⟩ := drop_head h5
 exact ⟨by rw [rdG, h1, h4, show a + 2 = a + 1 + 1 from rfl, h6], rfl, h3⟩
/-- So many numbers from a place on. -/
def rdI (l : List Int) (a : Nat) (n : Int) : List Int := (l.drop a).take n.toNat
theorem rdI_len (l : List Int) (a : Nat) (n : Int) : (rdI l a n).length = min n.toNat (l.length - a) := by rw [rdI, List.length_take, List.length_drop]
def rdA1 (l : List Int) (a : Nat) : Nat := a + 4 + (rdI l (a + 4) (l.getD (a + 3) 0)).length
def rdA2 (l : List Int) (a : Nat) : Nat := rdA1 l a + 1 + (rdI l (rdA1 l a + 1) (l.getD (rdA1 l a) 0)).length
def rdM (l : List Int) (a : Nat) : Nat := min (l.getD (rdA2 l a) 0).toNat ((l.length - (rdA2 l a + 1) + 1) / 2)
/-- A route at a place, and the place behind it. -/
def rdR (l : List Int) (a : Nat) : Rt := ⟨l.getD a 0, l.getD (a + 1) 0, l.getD (a + 2) 0, rdI l (a + 4) (l.getD (a + 3) 0), rdI l (rdA1 l a + 1) (l.getD (rdA1 l a) 0), rdJ l (rdA2 l a + 1) (rdM l a), l.getD (rdA2 l a + 1 + 2 * rdM l a) 0⟩
def rdN (l : List Int) (a : Nat) : Nat := rdA2 l a + 1 + 2 * rdM l a + 1
theorem rdN_le {l : List Int} {a : Nat} (h : a < l.length) : a < rdN l a ∧ rdN l a ≤ l.length + 8 := by
 have h1 := rdI_len l (a + 4) (l.getD (a + 3) 0)
 have h2 := rdI_len l (rdA1 l a + 1) (l.getD (rdA1 l a) 0)
 have h3 : rdA1 l a = a + 4 + (rdI l (a + 4) (l.getD (a + 3) 0)).length := rfl
 have h4 : rdA2 l a = rdA1 l a + 1 + (rdI l (rdA1 l a + 1) (l.getD (rdA1 l a) 0)).length := rfl
 have h5 : rdM l a ≤ (l.length - (rdA2 l a + 1) + 1) / 2 := Nat.min_le_right _ _
 have h6 : rdN l a = rdA2 l a + 1 + 2 * rdM l a + 1 := rfl
 omega
theorem rdI_eq {l m r : List Int} {a : Nat} (h : l.drop a = m ++ r) : rdI l a (m.length : Int) = m ∧ l.drop (a + m.length) = r := by
 obtain ⟨h1, h2⟩ := drop_app h
 exact ⟨by rw [rdI, Int.toNat_natCast]; exact h2, h1⟩
theorem rdR_eq {l r : List Int} {x : Rt} {a : Nat} (h : l.drop a = numsR x ++ r) : rdR l a = x ∧ rdN l a = a + (numsR x).length ∧ a < l.length := by
 obtain ⟨i, en, ex, pa, ov, fl, ti⟩ := x
 have hlen : (numsR ⟨i, en, ex, pa, ov, fl, ti⟩).length = 7 + pa.length + ov.length + 2 * fl.length := by
  simp only [numsR, List.length_cons, List.length_append, numsJ_len, List.length_nil]; omega
 simp only [numsR, List.cons_append, List.append_assoc, List.nil_append] at h
 obtain ⟨h1, g1, h0⟩ := drop_head h
 obtain ⟨h2, g2, -⟩ := drop_head g1
 obtain ⟨h3, g3, -⟩ := drop_head g2
 obtain ⟨h4, g4, -⟩ := drop_head g3
 have e4 : l.getD (a + 3) 0 = (pa.length : Int) := h4
 obtain ⟨h5, g5⟩ := rdI_eq (a := a + 4) g4
 have e5 : rdI l (a + 4) (l.getD (a + 3) 0) = pa := by rw [e4]; exact h5
 have a1 : rdA1 l a = a + 4 + pa.length := by rw [rdA1, e5]
 obtain ⟨h6, g6, -⟩ := drop_head (a := rdA1 l a) (by rw [a1]; exact g5)
 obtain ⟨h7, g7⟩ := rdI_eq (a := rdA1 l a + 1) g6
 have e7 : rdI l (rdA1 l a + 1) (l.getD (rdA1 l a) 0) = ov := by rw [h6]; exact h7
 have a2 : rdA2 l a = rdA1 l a + 1 + ov.length := by rw [rdA2, e7]
 obtain ⟨h8, g8, -⟩ := drop_head (a := rdA2 l a) (by rw [a2]; exact g7)
 obtain ⟨h9, g9⟩ := rdJ_eq fl (rdA2 l a + 1) g8
 obtain ⟨h10, g10, h11⟩ := drop_head g9
 have a3 : rdM l a = fl.length := by
  rw [rdM, h8, Int.toNat_natCast]
  omega
 refine ⟨?_, ?_, h0⟩
 ·rw [rdR, e5, e7, a3, h9, h1, h2, h10, show l.getD (a + 2) 0 = ex from h3]
 ·rw [rdN, a3, a2, a1, hlen]; omega
/-- Where a list of elements stands: one of them, and what is behind. -/
theorem list_at {α : Type} {f : α → List Int} {l r : List Int} {x : List α} {a i : Nat} (h : l.drop a = x.flatMap f ++ r) (hi : i < x.length) :
  l.drop (a + ((x.take i).flatMap f).length) = f x[i] ++ ((x.drop (i + 1)).flatMap f ++ r) := by
 have e : x = x.take i ++ x[i] :: x.drop (i + 1) := by rw [← List.drop_eq_getElem_cons hi, List.take_append_drop]
 have e2 : x.flatMap f = (x.take i).flatMap f ++ (f x[i] ++ (x.drop (i + 1)).flatMap f) := by
  conv => lhs; rw [e]
  rw [List.flatMap_append, List.flatMap_cons]
 rw [e2, List.append_assoc, List.append_assoc] at h
 exact (drop_app h).1
theorem take_flat {α : Type} (f : α → List Int) {x : List α} {i : Nat} (hi : i < x.length) : ((x.take (i + 1)).flatMap f).length = ((x.take i).flatMap f).length + (f x[i]).length := by
 rw [List.take_add_one, List.getElem?_eq_getElem hi, List.flatMap_append, List.length_append]
 simp
theorem take_snoc {α : Type} {x : List α} {i : Nat} (hi : i < x.length) : x.take (i + 1) = x.take i ++ [x[i]] := by
 rw [List.take_add_one, List.getElem?_eq_getElem hi]; rfl
/-- Reading has come to this: of these elements, which stand from a on, the first i. -/
def RdAt {α : Type} (f : α → List Int) (a : Nat) (x : List α) (i at_ : Nat) (L : List α) : Prop := i ≤ x.length ∧ L = x.take i ∧ at_ = a + ((x.take i).flatMap f).length
theorem RdAt.zero {α : Type} {f : α → List Int} {a : Nat} {x : List α} : RdAt f a x 0 a [] := ⟨Nat.zero_le _, by simp, by simp⟩
theorem RdAt.next {α : Type} {f : α → List Int} {l r : List Int} {a i at_ next : Nat} {x L : List α} {y : α} (h : RdAt f a x i at_ L) (hd : l.drop a = x.flatMap f ++ r) (hi : i < x.length)
  (hy : ∀ r', l.drop at_ = f x[i] ++ r' → y = x[i] ∧ next = at_ + (f x[i]).length) : RdAt f a x (i + 1) next (L ++ [y]) := by
 obtain ⟨h1, h2, h3⟩ := h
 obtain ⟨h4, h5⟩ := hy _ (by rw [h3]; exact list_at hd hi)
 exact ⟨hi, by rw [take_snoc hi, h2, h4], by rw [h5, h3, take_flat f hi]; omega⟩
theorem RdAt.lt {α : Type} {f : α → List Int} {l r : List Int} {a i at_ : Nat} {x L : List α} (h : RdAt f a x i at_ L) (hd : l.drop a = x.flatMap f ++ r) (hi : i < x.length) (hf : f x[i] ≠ []) : at_ < l.length := by
 obtain ⟨-, -, h3⟩ := h
 have := list_at hd hi
 rw [← h3] at this
 rcases Nat.lt_or_ge at_ l.length with h4 | h4
 ·exact h4
 ·rw [List.drop_eq_nil_of_le h4] at this
  exact absurd (List.append_eq_nil_iff.1 this.symm).1 hf
theorem RdAt.all {α : Type} {f : α → List Int} {l r : List Int} {a i at_ : Nat} {x L : List α} (h : RdAt f a x i at_ L) (hd : l.drop a = x.flatMap f ++ r) (hi : i = x.length) : L = x ∧ l.drop at_ = r := by
 obtain ⟨-, h2, h3⟩ := h
 subst hi
 rw [List.take_length] at h2 h3
 exact ⟨h2, by rw [h3]; exact (drop_app hd).1⟩

def tailR (p : Pl) : List Int := (p.routes.length : Int) :: p.routes.flatMap numsR
def tailG (p : Pl) : List Int := (p.sigs.length : Int) :: (p.sigs.flatMap numsG ++ tailR p)
def tlPts (p : Pl) : List Int := (p.pts.length : Int) :: (p.pts.flatMap numsJ ++ tailG p)
/-- Reading a list of elements, of which N are told, that stand from a0 on. -/
def KL {α : Type} (f : α → List Int) (l : List Int) (N : Int) (a0 : Nat) (x : Pl → List α) (tail : Pl → List Int) (G : Pl → Prop) (i at_ : Nat) (L : List α) : Prop :=
 ∀ p, PlanMay p → numsP p = l → G p ∧ N = ((x p).length : Int) ∧ l.drop a0 = (x p).flatMap f ++ tail p ∧ RdAt f a0 (x p) i at_ L
section
variable {α : Type} {f : α → List Int} {l : List Int} {N : Int} {a0 i at_ next : Nat} {x : Pl → List α} {tail : Pl → List Int} {G : Pl → Prop} {L : List α} {y : α}
theorem KL.step (h : KL f l N a0 x tail G i at_ L) (hi : (i : Int) < N) (hy : ∀ p (hp : PlanMay p) (s : α) r', s ∈ x p → l.drop at_ = f s ++ r' → y = s ∧ next = at_ + (f s).length) : KL f l N a0 x tail G (i + 1) next (L ++ [y]) := fun p hp e => by
 obtain ⟨h1, h2, h3, h4⟩ := h p hp e
 have hlt : i < (x p).length := by omega
 exact ⟨h1, h2, h3, h4.next h3 hlt fun r' hr => hy p hp _ r' (List.getElem_mem hlt) hr⟩
theorem KL.fin (h : KL f l N a0 x tail G i at_ L) (hf : ∀ s, f s ≠ []) (hx : ¬ ((i : Int) < N ∧ at_ < l.length)) : ∀ p, PlanMay p → numsP p = l → G p ∧ L = x p ∧ l.drop at_ = tail p := fun p hp e => by
 obtain ⟨h1, h2, h3, h4⟩ := h p hp e
 have hle := h4.1
 by_cases hlt : i < (x p).length
 ·exact absurd ⟨by omega, h4.lt h3 hlt (hf _)⟩ hx
 ·obtain ⟨h5, h6⟩ := h4.all h3 (by omega)
  exact ⟨h1, h5, h6⟩
end
theorem k_secs (l : List Int) : KL numsS l (l.getD 2 0) 3 Pl.secs tlPts (fun p => p.ver = l.getD 0 0 ∧ p.par = l.getD 1 0) 0 3 [] := fun p hp e => by
 have h : l.drop 0 = p.ver :: p.par :: (p.secs.length : Int) :: (p.secs.flatMap numsS ++ tlPts p) := by rw [List.drop_zero, ← e]; rfl
 obtain ⟨h1, g1, -⟩ := drop_head h
 obtain ⟨h2, g2, -⟩ := drop_head g1
 obtain ⟨h3, g3, -⟩ := drop_head g2
 exact ⟨⟨h1.symm, h2.symm⟩, h3, g3, RdAt.zero⟩
/-- The next list begins behind its number. -/
theorem k_next {α : Type} {f : α → List Int} {l : List Int} {a : Nat} {x : Pl → List α} {tail : Pl → List Int} {G : Pl → Prop} (h : ∀ p, PlanMay p → numsP p = l → G p ∧ l.drop a = ((x p).length : Int) :: ((x p).flatMap f ++ tail p)) : KL f l (l.getD a 0) (a + 1) x tail G 0 (a + 1) [] := fun p hp e => by
 obtain ⟨h1, h2⟩ := h p hp e
 obtain ⟨h3, h4, -⟩ := drop_head h2
 exact ⟨h1, h3, h4, RdAt.zero⟩
theorem numsS_ne (s : Sec) : numsS s ≠ [] := by simp [numsS]
theorem numsJ_ne (s : Jn) : numsJ s ≠ [] := by simp [numsJ]
theorem numsG_ne (s : Sg) : numsG s ≠ [] := by simp [numsG]
theorem numsR_ne (s : Rt) : numsR s ≠ [] := by simp [numsR]
theorem k_sec {l : List Int} {at_ : Nat} : ∀ p, PlanMay p → ∀ (s : Sec) r', s ∈ p.secs → l.drop at_ = numsS s ++ r' → rdS l at_ = s ∧ at_ + 2 + 2 * rdE l at_ = at_ + (numsS s).length := fun p hp s r' hs hd => by
 obtain ⟨h1, h2, -, -⟩ := sec_ends hp hs
 obtain ⟨h3, h4, -⟩ := rdS_eq hd h1 h2
 exact ⟨h3, h4⟩
theorem k_pt {l : List Int} {at_ : Nat} : ∀ p, PlanMay p → ∀ (s : Jn) r', s ∈ p.pts → l.drop at_ = numsJ s ++ r' → rdP l at_ = s ∧ at_ + 2 = at_ + (numsJ s).length := fun p _ s r' _ hd => ⟨(rdP_eq hd).1, (rdP_eq hd).2.1⟩
theorem k_sig {l : List Int} {at_ : Nat} : ∀ p, PlanMay p → ∀ (s : Sg) r', s ∈ p.sigs → l.drop at_ = numsG s ++ r' → rdG l at_ = s ∧ at_ + 3 = at_ + (numsG s).length := fun p _ s r' _ hd => ⟨(rdG_eq hd).1, (rdG_eq hd).2.1⟩
theorem k_route {l : List Int} {at_ : Nat} : ∀ p, PlanMay p → ∀ (s : Rt) r', s ∈ p.routes → l.drop at_ = numsR s ++ r' → rdR l at_ = s ∧ rdN l at_ = at_ + (numsR s).length := fun p _ s r' _ hd => ⟨(rdR_eq hd).1, (rdR_eq hd).2.1⟩
end Go.Proofs.YteloiajocjahmaaGreatDoor
