/-
 The document's own areas: rising numbers with one more, mathematics.
 Conditions: none.
-/
import Derived.Test.YtneeocnjfnneoaaGreatQGAreM
import Derived.Test.YtneeocnjfnneoaaGreatQGPlnRefD
import Derived.Test.YtneeocnjfnneoaaGreatQGDifRef
import Derived.Test.YtneeocnjfnneoaaGreatQGDifM
import Derived.Maps.AppendAt
set_option linter.unusedVariables false
set_option linter.unusedSimpArgs false
set_option maxRecDepth 100000
namespace Go.Proofs.YtneeocnjfnneoaaGreat
open Go.RowKit

/-- A number put ahead of the first greater one. -/
def insR : List Int → Int → List Int
 | [], n => [n]
 | x :: r, n => if x > n then n :: x :: r else x :: insR r n
def withL (l : List Int) (n : Int) : List Int := if n = 0 ∨ n ∈ l then l else insR l n
theorem ins_mem {y n : Int} : ∀ {l : List Int}, y ∈ insR l n ↔ y = n ∨ y ∈ l
 | [] => by simp [insR]
 | x :: r => by
  unfold insR
  split
  ·simp
  ·rw [List.mem_cons, ins_mem (l := r), List.mem_cons]
   constructor
   ·rintro (h | h | h)
    ·exact .inr (.inl h)
    ·exact .inl h
    ·exact .inr (.inr h)
   ·rintro (h | h | h)
    ·exact .inr (.inl h)
    ·exact .inl h
    ·exact .inr (.inr h)
theorem ins_sorted {n : Int} : ∀ {l : List Int}, l.Pairwise (· < ·) → n ∉ l → (insR l n).Pairwise (· < ·)
 | [], _, _ => by simp [insR]
 | x :: r, h, hn => by
  rw [List.pairwise_cons] at h
  simp only [List.mem_cons, not_or] at hn
  unfold insR
  split
  ·rename_i hx
   refine List.pairwise_cons.2 ⟨fun y hy => ?_, List.pairwise_cons.2 h⟩
   rcases List.mem_cons.1 hy with rfl | hy
   ·omega
   ·have := h.1 y hy; omega
  ·refine List.pairwise_cons.2 ⟨fun y hy => ?_, ins_sorted h.2 hn.2⟩
   rcases ins_mem.1 hy with rfl | hy
   ·omega
   ·exact h.1 y hy
theorem ins_len (n : Int) : ∀ l : List Int, (insR l n).length = l.length + 1
 | [] => rfl
 | x :: r => by
  unfold insR
  split
  ·simp
  ·simp [ins_len n r]
theorem with_len (l : List Int) (n : Int) : (withL l n).length ≤ l.length + 1 := by
 unfold withL
 split
 ·omega
 ·rw [ins_len]; exact Nat.le_refl _
theorem with_ids {f : Int → Bool} {n : Int} (h : n = 0 ∨ (1 ≤ n ∧ n ≤ 99)) : withL (idsL f) n = idsL fun id => f id || decide (id ≠ 0 ∧ id = n) := by
 unfold withL
 by_cases h0 : n = 0
 ·rw [if_pos (.inl h0)]
  exact ids_ext fun id h1 h2 => by
   have : ¬ (id ≠ 0 ∧ id = n) := by omega
   simp [this]
 ·by_cases h1 : n ∈ idsL f
  ·rw [if_pos (.inr h1)]
   have h2 := (ids_mem.1 h1).2
   exact ids_ext fun id g1 g2 => by
    by_cases e : id = n
    ·subst e; rw [h2]; rfl
    ·have : ¬ (id ≠ 0 ∧ id = n) := fun g => e g.2
     simp [this]
  ·rw [if_neg (by rintro (g | g); exact h0 g; exact h1 g)]
   refine sorted_ext (k := fun x : Int => x) _ _ (ins_sorted (ids_sorted f) h1) (ids_sorted _) fun x => ?_
   rw [ins_mem, ids_mem, ids_mem, Bool.or_eq_true, decide_eq_true_iff]
   constructor
   ·rintro (rfl | ⟨g1, g2⟩)
    ·exact ⟨by omega, .inr ⟨h0, rfl⟩⟩
    ·exact ⟨g1, .inl g2⟩
   ·rintro ⟨g1, g2 | g2⟩
    ·exact .inr ⟨g1, g2⟩
    ·exact .inl g2.2
theorem ids_none : idsL (fun _ => false) = [] := by
 unfold idsL
 exact List.filter_eq_nil_iff.2 fun x _ => by simp
/-- Numbers put in one by one. -/
def withsL (l ns : List Int) : List Int := ns.foldl withL l
theorem withs_ids : ∀ {ns : List Int} {f : Int → Bool}, (∀ n ∈ ns, n = 0 ∨ (1 ≤ n ∧ n ≤ 99)) → withsL (idsL f) ns = idsL fun id => f id || decide (id ≠ 0 ∧ id ∈ ns)
 | [], f, _ => by simp [withsL]
 | n :: r, f, h => by
  show withsL (withL (idsL f) n) r = _
  rw [with_ids (h n (List.mem_cons_self ..)), withs_ids fun m hm => h m (List.mem_cons_of_mem _ hm)]
  refine ids_ext fun id _ _ => ?_
  rw [Bool.or_assoc]
  congr 1
  rw [← Bool.decide_or]
  refine decide_eq_decide.2 ?_
  rw [List.mem_cons]
  constructor
  ·rintro (⟨g1, g2⟩ | ⟨g1, g2⟩)
   ·exact ⟨g1, .inl g2⟩
   ·exact ⟨g1, .inr g2⟩
  ·rintro ⟨g1, g2 | g2⟩
   ·exact .inl ⟨g1, g2⟩
   ·exact .inr ⟨g1, g2⟩
theorem withs_snoc {l ns : List Int} {i : Nat} (hi : i < ns.length) : withsL l (ns.take (i + 1)) = withL (withsL l (ns.take i)) ns[i] := by
 have e : ns.take (i + 1) = ns.take i ++ [ns[i]] := by simp
 rw [e, withsL, List.foldl_append]
 rfl
theorem withs_len : ∀ (ns l : List Int), (withsL l ns).length ≤ l.length + ns.length
 | [], l => by simp [withsL]
 | n :: r, l => by
  have h1 := withs_len r (withL l n)
  have h2 := with_len l n
  show (withsL (withL l n) r).length ≤ _
  rw [List.length_cons]
  omega
/-- Two rising lists as one. -/
theorem both_ids {f g : Int → Bool} : withsL (idsL f) (idsL g) = idsL fun id => f id || g id := by
 rw [withs_ids fun n hn => .inr (ids_mem.1 hn).1]
 refine ids_ext fun id h1 h2 => ?_
 congr 1
 rw [Bool.eq_iff_iff, decide_eq_true_iff, ids_mem]
 exact ⟨fun h => h.2.2, fun h => ⟨by omega, ⟨h1, h2⟩, h⟩⟩
/-- Two areas as one. -/
def joinA (x y : Ar) : Ar := ⟨withsL x.secs y.secs, withsL x.pts y.pts, withsL x.sigs y.sigs, withsL x.routes y.routes⟩
theorem join_ids (u v : Int → Int → Bool) : joinA (arOf u) (arOf v) = arOf fun k i => u k i || v k i := by
 unfold joinA arOf
 simp only [both_ids]
def meetL (a b : List Int) : Bool := a.any fun x => decide (x ∈ b)
def meetA (x y : Ar) : Bool := meetL x.secs y.secs || (meetL x.pts y.pts || (meetL x.sigs y.sigs || meetL x.routes y.routes))
theorem meet_ids {f g : Int → Bool} : meetL (idsL f) (idsL g) = true ↔ ∃ id, (1 ≤ id ∧ id ≤ 99) ∧ f id = true ∧ g id = true := by
 unfold meetL
 rw [List.any_eq_true]
 constructor
 ·rintro ⟨x, hx, h⟩
  obtain ⟨h1, h2⟩ := ids_mem.1 hx
  obtain ⟨h3, h4⟩ := ids_mem.1 (of_decide_eq_true h)
  exact ⟨x, h1, h2, h4⟩
 ·rintro ⟨x, h1, h2, h3⟩
  exact ⟨x, ids_mem.2 ⟨h1, h2⟩, decide_eq_true (ids_mem.2 ⟨h1, h3⟩)⟩
theorem meet_are {u c : Int → Int → Bool} (h : ∀ k i, c k i = true → (1 ≤ k ∧ k ≤ 4) ∧ 1 ≤ i ∧ i ≤ 99) : meetA (arOf u) (arOf c) = true ↔ Meet14 u c := by
 unfold meetA arOf
 simp only [Bool.or_eq_true, meet_ids]
 constructor
 ·rintro (⟨i, -, h1, h2⟩ | ⟨i, -, h1, h2⟩ | ⟨i, -, h1, h2⟩ | ⟨i, -, h1, h2⟩) <;> exact ⟨_, i, h1, h2⟩
 ·rintro ⟨k, i, h1, h2⟩
  obtain ⟨⟨g1, g2⟩, g3⟩ := h k i h2
  have : k = 1 ∨ k = 2 ∨ k = 3 ∨ k = 4 := by omega
  rcases this with rfl | rfl | rfl | rfl
  ·exact .inl ⟨i, g3, h1, h2⟩
  ·exact .inr (.inl ⟨i, g3, h1, h2⟩)
  ·exact .inr (.inr (.inl ⟨i, g3, h1, h2⟩))
  ·exact .inr (.inr (.inr ⟨i, g3, h1, h2⟩))
/-- What a route uses, put together as the document does. -/
def usedA (p : Pl) (r : Rt) : Ar := ⟨withsL [] (secsU p r), withsL [] ((secsU p r).map (ptOfD p)), withL (withL [] r.entry) r.exit, withL [] r.id⟩
theorem used_is {p : Pl} (h : PlanMay p) {r : Rt} (hr : r ∈ p.routes) : usedA p r = arOf (useB p r) := by
 have hU := fun kind id (hu : useB p r kind id = true) => (use_in h hr hu).2
 have e0 : ∀ ns : List Int, withsL [] ns = withsL (idsL fun _ => false) ns := fun ns => by rw [ids_none]
 have hz : ∀ kind n, (n ≠ 0 → useB p r kind n = true) → n = 0 ∨ (1 ≤ n ∧ n ≤ 99) := fun kind n hn => by
  by_cases g : n = 0
  ·exact .inl g
  ·exact .inr (hU kind n (hn g))
 unfold usedA arOf
 congr 1
 ·rw [e0, withs_ids fun n hn => hz 1 n fun _ => by simp [useB, hn]]
  refine ids_ext fun id h1 h2 => ?_
  have : id ≠ 0 := by omega
  simp [useB, this]
 ·rw [e0, withs_ids fun n hn => hz 2 n fun g => by simp [useB, g]; simpa using hn]
  refine ids_ext fun id h1 h2 => ?_
  simp [useB]
 ·have e1 : withL (withL [] r.entry) r.exit = withsL (idsL fun _ => false) [r.entry, r.exit] := by rw [ids_none]; rfl
  rw [e1, withs_ids fun n hn => hz 3 n fun g => by simp [useB, g]; simpa using hn]
  refine ids_ext fun id h1 h2 => ?_
  simp [useB]
 ·have e1 : withL [] r.id = withsL (idsL fun _ => false) [r.id] := by rw [ids_none]; rfl
  rw [e1, withs_ids fun n hn => hz 4 n fun g => by simp [useB]; simpa using hn]
  refine ids_ext fun id h1 h2 => ?_
  have : id ≠ 0 := by omega
  simp [useB, this]
/-- All that changes, then all that is used by routes that meet it. -/
noncomputable def goA (p a b : Pl) (x : Ar) (rs : List Rt) : Ar := rs.foldl (fun y r => if meetA (usedA p r) (arOf (chB a b)) then joinA y (usedA p r) else y) x
theorem go_is {p a b : Pl} (hp : PlanMay p) (ha : PlanMay a) (hb : PlanMay b) : ∀ (rs : List Rt) (u : Int → Int → Bool), (∀ r ∈ rs, r ∈ p.routes) →
  goA p a b (arOf u) rs = arOf fun k i => u k i || @decide (∃ r ∈ rs, Meet14 (useB p r) (chB a b) ∧ useB p r k i = true) (Classical.propDecidable _)
 | [], u, _ => by simp [goA]
 | r :: rs, u, h => by
  have hr := used_is hp (h r (List.mem_cons_self ..))
  have hm := meet_are (u := useB p r) (c := chB a b) fun k i hc => ch_in ha hb hc
  show goA p a b (if meetA (usedA p r) (arOf (chB a b)) then joinA (arOf u) (usedA p r) else arOf u) rs = _
  rw [hr]
  by_cases g : Meet14 (useB p r) (chB a b)
  ·rw [if_pos (hm.2 g), join_ids, go_is hp ha hb rs _ fun s hs => h s (List.mem_cons_of_mem _ hs)]
   refine arOf_ext fun k i _ _ _ _ => ?_
   rw [Bool.or_assoc]
   congr 1
   rw [Bool.eq_iff_iff, Bool.or_eq_true, @decide_eq_true_iff _ (Classical.propDecidable _), @decide_eq_true_iff _ (Classical.propDecidable _)]
   constructor
   ·rintro (g1 | ⟨s, hs, g1⟩)
    ·exact ⟨r, List.mem_cons_self .., g, g1⟩
    ·exact ⟨s, List.mem_cons_of_mem _ hs, g1⟩
   ·rintro ⟨s, hs, g1⟩
    rcases List.mem_cons.1 hs with rfl | hs
    ·exact .inl g1.2
    ·exact .inr ⟨s, hs, g1⟩
  ·rw [if_neg fun e => g (hm.1 e), go_is hp ha hb rs _ fun s hs => h s (List.mem_cons_of_mem _ hs)]
   refine arOf_ext fun k i _ _ _ _ => ?_
   congr 1
   rw [Bool.eq_iff_iff, @decide_eq_true_iff _ (Classical.propDecidable _), @decide_eq_true_iff _ (Classical.propDecidable _)]
   constructor
   ·rintro ⟨s, hs, g1⟩
    exact ⟨s, List.mem_cons_of_mem _ hs, g1⟩
   ·rintro ⟨s, hs, g1⟩
    rcases List.mem_cons.1 hs with rfl | hs
    ·exact absurd g1.1 g
    ·exact ⟨s, hs, g1⟩
theorem all_is {a b : Pl} (ha : PlanMay a) (hb : PlanMay b) : goA b a b (goA a a b (arOf (chB a b)) a.routes) b.routes = arOf (areaB a b) := by
 rw [go_is ha ha hb _ _ fun r hr => hr, go_is hb ha hb _ _ fun r hr => hr]
 refine arOf_ext fun k i _ _ _ _ => ?_
 rw [Bool.eq_iff_iff, areaB_iff, Bool.or_eq_true, Bool.or_eq_true, @decide_eq_true_iff _ (Classical.propDecidable _), @decide_eq_true_iff _ (Classical.propDecidable _), or_assoc]
 exact Iff.rfl
theorem go_snoc {p a b : Pl} {x : Ar} {rs : List Rt} {i : Nat} (hi : i < rs.length) : goA p a b x (rs.take (i + 1)) = if meetA (usedA p rs[i]) (arOf (chB a b)) then joinA (goA p a b x (rs.take i)) (usedA p rs[i]) else goA p a b x (rs.take i) := by
 have e : rs.take (i + 1) = rs.take i ++ [rs[i]] := by simp
 rw [e, goA, List.foldl_append]
 rfl

theorem cell4A {w : World} {b : Nat} {v0 v1 v2 v3 : Value} {t : TypeId} {fr : Nat × Nat} (h : w.heap[b]? = some (.cells #[v0, v1, v2, v3] t fr)) : w.cell? ⟨b, 0, none⟩ = some v0 ∧ w.cell? ⟨b, 1, none⟩ = some v1 ∧ w.cell? ⟨b, 2, none⟩ = some v2 ∧ w.cell? ⟨b, 3, none⟩ = some v3 :=
 ⟨cell_of_row _ _ _ _ _ _ h, cell_of_row _ _ _ _ _ _ h, cell_of_row _ _ _ _ _ _ h, cell_of_row _ _ _ _ _ _ h⟩
set_option maxHeartbeats 2000000 in
theorem rin14_any (v : Value) (l : List Int) (z : Int) (B : Nat) (w : World) (h : IntsIn w B v l) :
  Calls Tryz.prog 105 #[v, .int .i64 z] w fun e w' => e = .returned (.bool (decide (z ∈ l))) ∧ w = w' := by
 obtain ⟨A, c, rfl, hcl, hcm⟩ := h.slice
 obtain ⟨n, hn⟩ : ∃ n, n = l.length := ⟨_, rfl⟩
 have HA : Hid (IntsIn w B (.slice A n c) l) := Lib.hid (by rw [hn]; exact h)
 have hn9 : n ≤ 9223372036854775807 := by unfold maxLen at hcm; omega
 have HN := Lib.hid hn
 have HD : Hid (∀ g : Bool, (g = true ↔ z ∈ l) → g = decide (z ∈ l)) := Lib.hid (fun g h => by rw [Bool.eq_iff_iff, decide_eq_true_iff]; exact h)
 generalize hg : decide (z ∈ l) = g at HD ⊢
 rw [← hn]
 clear hn h hcl hcm hg
 go_enter Tryz.func105, Tryz.ntmps105
 go_upto_region 2 with fail
 go_loopw [5] (fun s5 wr => ∃ i : Nat, s5 = .int .i64 i ∧ i ≤ n ∧ wr = w ∧ (∀ j (hj : j < i) (hl : j < l.length), l[j] ≠ z)) (fun s5 _ => n - (intOf s5).toNat)
 case atStart => exact ⟨0, by go_num, by omega, rfl, fun j hj => absurd hj (by omega)⟩
 case round =>
  obtain ⟨i, rfl, hi, rfl, hall⟩ := hrel
  have HALL := Lib.hid hall
  clear hall
  by_cases hlt : i < n
  ·have hlt' : (i : Int) < n := by omega
   have hir : i < l.length := by rw [← HN.out]; exact hlt
   obtain ⟨b, off, rfl, hb, hc0⟩ := HA.out.at hir
   obtain ⟨x, hx⟩ : ∃ x, x = l[i] := ⟨_, rfl⟩
   have HX := Lib.hid hx
   have hcell : wr.cell? ⟨b, off + i, none⟩ = some (.int .i64 x) := by rw [hx]; simpa [IntR] using hc0
   clear hc0 hb hx
   by_cases he : x = z
   ·have hne : (x == z) = true := by simpa using he
    have HF : Hid (true = g) := Lib.hid (HD.out true ⟨fun _ => he ▸ HX.out ▸ List.getElem_mem hir, fun _ => rfl⟩)
    clear he
    go_wp2_with fail
    go_ret
    exact ⟨by rw [← HF.out]; rfl, rfl⟩
   ·have hne : (x == z) = false := by simpa using he
    have HS : Hid (∀ j (hj : j < i + 1) (hl : j < l.length), l[j] ≠ z) := Lib.hid (fun j hj hl => by
     rcases Nat.lt_or_ge j i with h | h
     ·exact HALL.out j h hl
     ·obtain rfl : j = i := by omega
      rw [← HX.out]; exact he)
    clear he
    go_wp2_with fail
    go_roundw
    case measure => simp [intOf]; omega
    case rel => exact ⟨i + 1, by go_num, by omega, by trivial, HS.out⟩
  ·obtain rfl : n = i := by omega
   have hlt' : ¬ (n : Int) < n := by omega
   have HF : Hid (false = g) := Lib.hid (HD.out false ⟨fun h => Bool.noConfusion h, fun h => by
    obtain ⟨j, hj, e⟩ := List.getElem_of_mem h
    exact absurd e (HALL.out j (by rw [HN.out]; exact hj) hj)⟩)
   go_wp2_with fail
   go_ret
   exact ⟨by rw [← HF.out]; rfl, rfl⟩
theorem ar_eq {x y : Ar} : x = y ↔ x.secs = y.secs ∧ x.pts = y.pts ∧ x.sigs = y.sigs ∧ x.routes = y.routes := by
 obtain ⟨a1, a2, a3, a4⟩ := x
 obtain ⟨b1, b2, b3, b4⟩ := y
 simp
set_option maxHeartbeats 8000000 in
theorem rsame14_any (v y : Value) (x z : Ar) (w : World) (h : AreaV w w.heap.size v x) (h' : AreaV w w.heap.size y z) :
  Calls Tryz.prog 19 #[v, y] w fun e w' => e = .returned (.bool (eqB x z)) ∧ Below w.heap.size w w' := by
 obtain ⟨u0, u1, u2, u3, rfl, hin⟩ := h
 obtain ⟨z0, z1, z2, z3, rfl, hin'⟩ := h'
 obtain ⟨h0, h1, hqb⟩ := two_boxes w (.cells #[u0, u1, u2, u3] 24) (.cells #[z0, z1, z2, z3] 24)
 go_enter Tryz.func19, Tryz.ntmps19
 go_upto_region 1 with fail
 generalize (w.alloc (.cells #[u0, u1, u2, u3] 24)).alloc (.cells #[z0, z1, z2, z3] 24) = q at h0 h1 hqb ⊢
 have X0 := Lib.hid h0
 have X1 := Lib.hid h1
 have BQ := Lib.hid hqb
 have IA := Lib.hid ((hin.below hqb).more hqb.size)
 have IB := Lib.hid ((hin'.below hqb).more hqb.size)
 clear h0 h1 hqb hin hin'
 obtain ⟨k0, k1, k2, k3⟩ := cell4A X0.out
 obtain ⟨l0, l1, l2, l3⟩ := cell4A X1.out
 go_wp2_with fail
 refine (rints_any _ _ x.secs z.secs q IA.out.secs IB.out.secs).mono ?_
 rintro e w1 ⟨rfl, bN⟩
 clear k0 k1 k2 k3 l0 l1 l2 l3
 replace X0 := Lib.hid ((bN.block _ (heap_lt X0.out)).trans X0.out)
 replace X1 := Lib.hid ((bN.block _ (heap_lt X1.out)).trans X1.out)
 replace BQ := Lib.hid (BQ.out.trans (bN.mono BQ.out.size))
 replace IA := Lib.hid ((IA.out.below bN).more bN.size)
 replace IB := Lib.hid ((IB.out.below bN).more bN.size)
 clear bN
 by_cases e0 : x.secs = z.secs
 rotate_left
 ·have HF : Hid (eqB x z = false) := Lib.hid (eqB_false fun e => e0 (by rw [e]))
  rw [decide_eq_false e0]
  clear e0
  go_wp2_with fail
  go_ret
  exact ⟨by rw [HF.out]; rfl, BQ.out⟩
 rw [decide_eq_true e0]
 obtain ⟨k0, k1, k2, k3⟩ := cell4A X0.out
 obtain ⟨l0, l1, l2, l3⟩ := cell4A X1.out
 go_wp2_with fail
 refine (rints_any _ _ x.pts z.pts w1 IA.out.pts IB.out.pts).mono ?_
 rintro e w2 ⟨rfl, bN⟩
 clear k0 k1 k2 k3 l0 l1 l2 l3
 replace X0 := Lib.hid ((bN.block _ (heap_lt X0.out)).trans X0.out)
 replace X1 := Lib.hid ((bN.block _ (heap_lt X1.out)).trans X1.out)
 replace BQ := Lib.hid (BQ.out.trans (bN.mono BQ.out.size))
 replace IA := Lib.hid ((IA.out.below bN).more bN.size)
 replace IB := Lib.hid ((IB.out.below bN).more bN.size)
 clear bN
 by_cases e1 : x.pts = z.pts
 rotate_left
 ·have HF : Hid (eqB x z = false) := Lib.hid (eqB_false fun e => e1 (by rw [e]))
  rw [decide_eq_false e1]
  clear e0 e1
  go_wp2_with fail
  go_ret
  exact ⟨by rw [HF.out]; rfl, BQ.out⟩
 rw [decide_eq_true e1]
 obtain ⟨k0, k1, k2, k3⟩ := cell4A X0.out
 obtain ⟨l0, l1, l2, l3⟩ := cell4A X1.out
 go_wp2_with fail
 refine (rints_any _ _ x.sigs z.sigs w2 IA.out.sigs IB.out.sigs).mono ?_
 rintro e w3 ⟨rfl, bN⟩
 clear k0 k1 k2 k3 l0 l1 l2 l3
 replace X0 := Lib.hid ((bN.block _ (heap_lt X0.out)).trans X0.out)
 replace X1 := Lib.hid ((bN.block _ (heap_lt X1.out)).trans X1.out)
 replace BQ := Lib.hid (BQ.out.trans (bN.mono BQ.out.size))
 replace IA := Lib.hid ((IA.out.below bN).more bN.size)
 replace IB := Lib.hid ((IB.out.below bN).more bN.size)
 clear bN
 by_cases e2 : x.sigs = z.sigs
 rotate_left
 ·have HF : Hid (eqB x z = false) := Lib.hid (eqB_false fun e => e2 (by rw [e]))
  rw [decide_eq_false e2]
  clear e0 e1 e2
  go_wp2_with fail
  go_ret
  exact ⟨by rw [HF.out]; rfl, BQ.out⟩
 rw [decide_eq_true e2]
 obtain ⟨k0, k1, k2, k3⟩ := cell4A X0.out
 obtain ⟨l0, l1, l2, l3⟩ := cell4A X1.out
 go_wp2_with fail
 refine (rints_any _ _ x.routes z.routes w3 IA.out.routes IB.out.routes).mono ?_
 rintro e w4 ⟨rfl, bN⟩
 clear k0 k1 k2 k3 l0 l1 l2 l3
 replace X0 := Lib.hid ((bN.block _ (heap_lt X0.out)).trans X0.out)
 replace X1 := Lib.hid ((bN.block _ (heap_lt X1.out)).trans X1.out)
 replace BQ := Lib.hid (BQ.out.trans (bN.mono BQ.out.size))
 replace IA := Lib.hid ((IA.out.below bN).more bN.size)
 replace IB := Lib.hid ((IB.out.below bN).more bN.size)
 clear bN
 by_cases e3 : x.routes = z.routes
 rotate_left
 ·have HF : Hid (eqB x z = false) := Lib.hid (eqB_false fun e => e3 (by rw [e]))
  rw [decide_eq_false e3]
  clear e0 e1 e2 e3
  go_wp2_with fail
  go_ret
  exact ⟨by rw [HF.out]; rfl, BQ.out⟩
 rw [decide_eq_true e3]
 have HF : Hid (eqB x z = true) := Lib.hid (eqB_true (ar_eq.2 ⟨e0, e1, e2, e3⟩))
 clear e0 e1 e2 e3
 go_wp2_with fail
 go_ret
 exact ⟨by rw [HF.out]; rfl, BQ.out⟩

theorem gb_low14 {a b : World} {L g : Nat} (h : a.grownBy b (some g)) (hg : L ≤ g) (hL : L ≤ a.heap.size) : Below L a b := (Below.refl L a).grown h hL (fun k hk => by injection hk with hk; omega)
theorem own_at {W : World} {lo : Nat} {v : Value} {l : List Int} (h : IntsOwn W lo v l) : ∃ A c, v = .slice A l.length c := by
 obtain ⟨A, c, e, -, -⟩ := (h.in_ intR_cells).slice
 exact ⟨A, c, e⟩
section
variable {α : Type} {T tS : TypeId} {sz : Nat} {R : El α} {W : World} {lo n c ty : Nat} {A : Option Addr} {L : List α} {x : α} {ys : List Value}
theorem run_append_at (hT : SliceOf tS T sz) (e : Elem R) (hG : ∀ {W W' : World} {c : Nat → Option Value} {y : α} {g : Nat}, lo ≤ g → R W W.heap.size c y → W.grownBy W' (some g) → (∃ cur, W.heap[g]? = some (.cells cur T (0, 0))) → R W' W'.heap.size c y)
  (hO : ListOwn T sz R W lo (.slice A n c) L) (hn : n = L.length) (hy : ys.length = sz) (h1 : ∀ u ∈ ys, u.oneCell' = true) (hx : R W W.heap.size (fun k => ys[k]?) x) (hle : n + 1 ≤ 10000) (hlo : lo ≤ W.heap.size) :
  ∃ A' c' w', (Builtin.append_ #[tS, tS] ty #[.slice A n c, .slice (some ⟨W.heap.size, 0, none⟩) 1 1]).run Tryz.prog (W.alloc (.cells ys.toArray T)) = .ok (.slice A' (n + 1) c') w' ∧ ListOwn T sz R w' lo (.slice A' (n + 1) c') (L ++ [x]) ∧ (W.alloc (.cells ys.toArray T)).grownBy w' (Value.slice A n c).ownBlock ∧
   ((Value.slice A' (n + 1) c').ownBlock = (Value.slice A n c).ownBlock ∨ (Value.slice A' (n + 1) c').ownBlock = some (W.alloc (.cells ys.toArray T)).heap.size) := by
 obtain ⟨ht, i, z, hi, hz, hzs, hsize, hsz, hby⟩ := hT
 obtain ⟨yss, ho, hl, hm, hs, hr⟩ := hO
 have hb := below_new W (.cells ys.toArray T)
 obtain ⟨v', w', hrun, h2, h3, -, h4⟩ := run_append_own_at (P := Tryz.prog) (W.alloc (.cells ys.toArray T)) lo tS ty T i z sz i.bytes ht hi hz hsize rfl hzs hsz (.slice A n c) n yss.flatten (owns_below (hn ▸ ho : W.ownsRow lo T sz (.slice A n c) n yss.flatten) hb) ⟨W.heap.size, 0, none⟩ 1 1 ys (by omega) (fun j u hj => by
  rw [Addr.add_lit, Nat.zero_add, World.cell?_alloc_new]
  simpa using hj) h1 (by unfold maxLen; omega) (by have := Nat.mul_le_mul hle hby; omega) (Nat.le_trans hlo hb.size)
 obtain ⟨A', c', rfl⟩ := own_sliceN h2
 refine ⟨A', c', w', hrun, ?_, h3, h4⟩
 subst hn
 exact ListOwn.snoc e hG ho hl hs hy (by unfold maxLen; omega) hr (Below.refl _ _) hx h2 h3
theorem wpList_append_at {ops : Array Oper} {rest : List Oper} {o : Oper} {a : Act} {Q : Exit → Act → World → Prop} (hgd : o.guard = none) (s u : Operand) (ho : o.op = .call { callee := .builtin .append, args := #[s, u], argTypes := #[tS, tS] })
  (hT : SliceOf tS T sz) (e : Elem R) (hG : ∀ {W W' : World} {c : Nat → Option Value} {y : α} {g : Nat}, lo ≤ g → R W W.heap.size c y → W.grownBy W' (some g) → (∃ cur, W.heap[g]? = some (.cells cur T (0, 0))) → R W' W'.heap.size c y)
  (hs : a.eval s = .slice A n c) (hu : a.eval u = .slice (some ⟨W.heap.size, 0, none⟩) 1 1)
  (hO : ListOwn T sz R W lo (.slice A n c) L) (hn : n = L.length) (hy : ys.length = sz) (h1 : ∀ u ∈ ys, u.oneCell' = true) (hx : R W W.heap.size (fun k => ys[k]?) x) (hle : n + 1 ≤ 10000) (hlo : lo ≤ W.heap.size)
  (h : ∀ A' c' w', ListOwn T sz R w' lo (.slice A' (n + 1) c') (L ++ [x]) → (W.alloc (.cells ys.toArray T)).grownBy w' (Value.slice A n c).ownBlock → ((Value.slice A' (n + 1) c').ownBlock = (Value.slice A n c).ownBlock ∨ (Value.slice A' (n + 1) c').ownBlock = some (W.alloc (.cells ys.toArray T)).heap.size) → wpList Tryz.prog ops Q rest (a.put o.dst (.slice A' (n + 1) c')) w') : wpList Tryz.prog ops Q (o :: rest) a (W.alloc (.cells ys.toArray T)) := by
 refine wpList_plain hgd fun K hK => ?_
 obtain ⟨A', c', w', hrun, h2, h3, h4⟩ := run_append_at (ty := o.type) hT e hG hO hn hy h1 hx hle hlo
 unfold Oper.wp execOp
 simp only [ho, resolve, invoke, builtin, Sem.run_bind, Sem.run_pure, Result.andThen_ok, List.map_toArray, List.map_cons, List.map_nil, hs, hu, hrun]
 exact hK _ _ (h A' c' w' h2 h3 h4)
end
theorem slI14 : SliceOf 22 3 1 := ⟨Tryz.underlying22, by obtain ⟨i, hi, h1, h2, h3⟩ := info_parts infoInt; exact ⟨i, _, hi, h1, by decide, h2, by decide, by omega⟩⟩
/-- An area's four lists, the call's own. -/
structure ArOwn (W : World) (lo : Nat) (u0 u1 u2 u3 : Value) (x : Ar) : Prop where
 secs : IntsOwn W lo u0 x.secs
 pts : IntsOwn W lo u1 x.pts
 sigs : IntsOwn W lo u2 x.sigs
 routes : IntsOwn W lo u3 x.routes
/-- Such an area in a box. -/
structure ArBox (W : World) (lo b : Nat) (u0 u1 u2 u3 : Value) (x : Ar) : Prop where
 row : W.heap[b]? = some (.cells #[u0, u1, u2, u3] 24 (0, 0))
 low : b ≤ lo
 size : lo ≤ W.heap.size
 own : ArOwn W lo u0 u1 u2 u3 x
section
variable {W W' : World} {lo b : Nat} {u0 u1 u2 u3 : Value} {x : Ar}
theorem own_off14 {α : Type} {T T' : TypeId} {sz : Nat} {R : El α} {lo : Nat} {v : Value} {l : List α} {k : Nat} (hf : FlatR R) (h : ListOwn T sz R W lo v l) (hg : W.grownBy W' (some k)) (hT : T ≠ T') (hk : ∃ cur, W.heap[k]? = some (.cells cur T' (0, 0))) : ListOwn T sz R W' lo v l :=
 own_kept hf h hg fun k' hk' e => by
  subst e
  obtain ⟨cur', hc', -⟩ := own_block h hk'
  obtain ⟨cur, hc⟩ := hk
  rw [hc] at hc'
  injection hc' with hc'
  injection hc' with _ e
  exact hT e.symm
theorem ArOwn.below (h : ArOwn W lo u0 u1 u2 u3 x) (hb : Below W.heap.size W W') : ArOwn W' lo u0 u1 u2 u3 x := ⟨h.secs.below intR hb, h.pts.below intR hb, h.sigs.below intR hb, h.routes.below intR hb⟩
theorem ArOwn.mono {lo' : Nat} (h : ArOwn W lo u0 u1 u2 u3 x) (hl : lo' ≤ lo) : ArOwn W lo' u0 u1 u2 u3 x := ⟨h.secs.mono hl, h.pts.mono hl, h.sigs.mono hl, h.routes.mono hl⟩
theorem ArOwn.in_ (h : ArOwn W lo u0 u1 u2 u3 x) : ArIn W W.heap.size u0 u1 u2 u3 x := ⟨h.secs.in_ intR_cells, h.pts.in_ intR_cells, h.sigs.in_ intR_cells, h.routes.in_ intR_cells⟩
/-- Something is written into a box of an area: lists of numbers stay. -/
theorem ArOwn.off (h : ArOwn W lo u0 u1 u2 u3 x) {g : Nat} (hg : W.grownBy W' (some g)) (hk : ∃ cur, W.heap[g]? = some (.cells cur 24 (0, 0))) : ArOwn W' lo u0 u1 u2 u3 x := ⟨own_off14 intF h.secs hg (by decide) hk, own_off14 intF h.pts hg (by decide) hk, own_off14 intF h.sigs hg (by decide) hk, own_off14 intF h.routes hg (by decide) hk⟩
theorem ownNo (W : World) (lo : Nat) : ArOwn W lo (.slice none 0 0) (.slice none 0 0) (.slice none 0 0) (.slice none 0 0) noAr := ⟨ListOwn.nil_, ListOwn.nil_, ListOwn.nil_, ListOwn.nil_⟩
theorem ArBox.lt (h : ArBox W lo b u0 u1 u2 u3 x) : b < W.heap.size := heap_lt h.row
theorem ArBox.below (h : ArBox W lo b u0 u1 u2 u3 x) (hb : Below W.heap.size W W') : ArBox W' lo b u0 u1 u2 u3 x := ⟨(hb.block _ h.lt).trans h.row, h.low, Nat.le_trans h.size hb.size, h.own.below hb⟩
theorem ArBox.put (h : ArBox W lo b u0 u1 u2 u3 x) {lo' : Nat} {u : Value} {l : List Int} (hu : IntsOwn W lo' u l) (k : Nat) (y : Value) : IntsOwn (W.setCell ⟨b, k, none⟩ y) lo' u l := own_off14 intF hu (grown_setK W b k y) (by decide) ⟨_, h.row⟩
theorem ArBox.kept (h : ArBox W lo b u0 u1 u2 u3 x) (k : Nat) (y : Value) : Below b W (W.setCell ⟨b, k, none⟩ y) := gb_low14 (grown_setK W b k y) (Nat.le_refl _) (Nat.le_of_lt h.lt)
theorem ArBox.set0 (h : ArBox W lo b u0 u1 u2 u3 x) {u : Value} {l : List Int} (hu : IntsOwn W lo u l) : ArBox (W.setCell ⟨b, 0, none⟩ u) lo b u u1 u2 u3 ⟨l, x.pts, x.sigs, x.routes⟩ := ⟨heap_setK (k := 0) h.row u, h.low, Nat.le_trans h.size (h.kept 0 u).size, ⟨h.put hu _ _, h.put h.own.pts _ _, h.put h.own.sigs _ _, h.put h.own.routes _ _⟩⟩
theorem ArBox.set1 (h : ArBox W lo b u0 u1 u2 u3 x) {u : Value} {l : List Int} (hu : IntsOwn W lo u l) : ArBox (W.setCell ⟨b, 1, none⟩ u) lo b u0 u u2 u3 ⟨x.secs, l, x.sigs, x.routes⟩ := ⟨heap_setK (k := 1) h.row u, h.low, Nat.le_trans h.size (h.kept 1 u).size, ⟨h.put h.own.secs _ _, h.put hu _ _, h.put h.own.sigs _ _, h.put h.own.routes _ _⟩⟩
theorem ArBox.set2 (h : ArBox W lo b u0 u1 u2 u3 x) {u : Value} {l : List Int} (hu : IntsOwn W lo u l) : ArBox (W.setCell ⟨b, 2, none⟩ u) lo b u0 u1 u u3 ⟨x.secs, x.pts, l, x.routes⟩ := ⟨heap_setK (k := 2) h.row u, h.low, Nat.le_trans h.size (h.kept 2 u).size, ⟨h.put h.own.secs _ _, h.put h.own.pts _ _, h.put hu _ _, h.put h.own.routes _ _⟩⟩
theorem ArBox.set3 (h : ArBox W lo b u0 u1 u2 u3 x) {u : Value} {l : List Int} (hu : IntsOwn W lo u l) : ArBox (W.setCell ⟨b, 3, none⟩ u) lo b u0 u1 u2 u ⟨x.secs, x.pts, x.sigs, l⟩ := ⟨heap_setK (k := 3) h.row u, h.low, Nat.le_trans h.size (h.kept 3 u).size, ⟨h.put h.own.secs _ _, h.put h.own.pts _ _, h.put h.own.sigs _ _, h.put hu _ _⟩⟩
end
/-- No two of the lists lie in one block. -/
def Off14 (u v : Value) : Prop := ∀ k, u.ownBlock = some k → v.ownBlock ≠ some k
theorem Off14.symm {u v : Value} (h : Off14 u v) : Off14 v u := fun k h1 h2 => h k h2 h1
theorem off_nil {v : Value} : Off14 (.slice none 0 0) v := fun k h => by cases h
structure Apart14 (u0 u1 u2 u3 : Value) : Prop where
 o01 : Off14 u0 u1
 o02 : Off14 u0 u2
 o03 : Off14 u0 u3
 o12 : Off14 u1 u2
 o13 : Off14 u1 u3
 o23 : Off14 u2 u3
section
variable {W W1 W' : World} {lo b : Nat} {u0 u1 u2 u3 : Value} {x : Ar}
theorem off_new {u v u' : Value} {l : List Int} {g : Nat} (h : Off14 u v) (hv : IntsOwn W lo v l) (hs : W.heap.size ≤ g) (hu : u'.ownBlock = u.ownBlock ∨ u'.ownBlock = some g) : Off14 u' v := fun k h1 h2 => by
 rcases hu with e | e
 ·exact h k (e ▸ h1) h2
 ·have h3 := own_lt hv k h2
  rw [e] at h1
  injection h1 with h1
  omega
theorem own_off15 {u v : Value} {l : List Int} (h : Off14 u v) (hv : IntsOwn W1 lo v l) (hg : W1.grownBy W' u.ownBlock) : IntsOwn W' lo v l := own_grown intF hv hg fun k hk e => h k e hk
theorem row_grown {u : Value} {l : List Int} {cur : Array Value} (hu : IntsOwn W1 lo u l) (hg : W1.grownBy W' u.ownBlock) (hrow : W1.heap[b]? = some (.cells cur 24 (0, 0))) : W'.heap[b]? = some (.cells cur 24 (0, 0)) := by
 cases hv : u.ownBlock with
 | none =>
  rw [hv] at hg
  exact (((Below.refl W1.heap.size W1).grown hg (Nat.le_refl _) (fun k hk => by cases hk)).block _ (heap_lt hrow)).trans hrow
 | some k =>
  rw [hv] at hg
  obtain ⟨cur', hc, -⟩ := own_block hu hv
  exact heap_other (by decide) hrow hc hg
theorem ArBox.add0 (h : ArBox W lo b u0 u1 u2 u3 x) (a : Apart14 u0 u1 u2 u3) (hb : Below W.heap.size W W1) {u : Value} {l : List Int} (hu : IntsOwn W' lo u l) (hg : W1.grownBy W' u0.ownBlock) (he : u.ownBlock = u0.ownBlock ∨ u.ownBlock = some W1.heap.size) :
  ArBox (W'.setCell ⟨b, 0, none⟩ u) lo b u u1 u2 u3 ⟨l, x.pts, x.sigs, x.routes⟩ ∧ Apart14 u u1 u2 u3 ∧ Below b W (W'.setCell ⟨b, 0, none⟩ u) := by
 have h1 := h.below hb
 have hs := hb.size
 have hr := row_grown h1.own.secs hg h1.row
 have q : ∀ v m, IntsOwn W' lo v m → IntsOwn (W'.setCell ⟨b, 0, none⟩ u) lo v m := fun v m hv => own_off14 intF hv (grown_setK W' b 0 u) (by decide) ⟨_, hr⟩
 have b1 : Below b W W' := (hb.mono (Nat.le_of_lt h.lt)).grown hg (Nat.le_trans (Nat.le_of_lt h.lt) hs) (fun j hj => Nat.le_trans h.low (own_lo h1.own.secs j hj))
 have b2 := b1.trans (gb_low14 (grown_setK W' b 0 u) (Nat.le_refl _) (Nat.le_trans (Nat.le_of_lt h.lt) b1.size))
 refine ⟨⟨heap_setK (k := 0) hr u, h.low, Nat.le_trans h.size b2.size, ⟨q _ _ hu, q _ _ (own_off15 a.o01 h1.own.pts hg), q _ _ (own_off15 a.o02 h1.own.sigs hg), q _ _ (own_off15 a.o03 h1.own.routes hg)⟩⟩, ⟨off_new a.o01 h.own.pts hs he, off_new a.o02 h.own.sigs hs he, off_new a.o03 h.own.routes hs he, a.o12, a.o13, a.o23⟩, b2⟩
theorem ArBox.add1 (h : ArBox W lo b u0 u1 u2 u3 x) (a : Apart14 u0 u1 u2 u3) (hb : Below W.heap.size W W1) {u : Value} {l : List Int} (hu : IntsOwn W' lo u l) (hg : W1.grownBy W' u1.ownBlock) (he : u.ownBlock = u1.ownBlock ∨ u.ownBlock = some W1.heap.size) :
  ArBox (W'.setCell ⟨b, 1, none⟩ u) lo b u0 u u2 u3 ⟨x.secs, l, x.sigs, x.routes⟩ ∧ Apart14 u0 u u2 u3 ∧ Below b W (W'.setCell ⟨b, 1, none⟩ u) := by
 have h1 := h.below hb
 have hs := hb.size
 have hr := row_grown h1.own.pts hg h1.row
 have q : ∀ v m, IntsOwn W' lo v m → IntsOwn (W'.setCell ⟨b, 1, none⟩ u) lo v m := fun v m hv => own_off14 intF hv (grown_setK W' b 1 u) (by decide) ⟨_, hr⟩
 have b1 : Below b W W' := (hb.mono (Nat.le_of_lt h.lt)).grown hg (Nat.le_trans (Nat.le_of_lt h.lt) hs) (fun j hj => Nat.le_trans h.low (own_lo h1.own.pts j hj))
 have b2 := b1.trans (gb_low14 (grown_setK W' b 1 u) (Nat.le_refl _) (Nat.le_trans (Nat.le_of_lt h.lt) b1.size))
 refine ⟨⟨heap_setK (k := 1) hr u, h.low, Nat.le_trans h.size b2.size, ⟨q _ _ (own_off15 a.o01.symm h1.own.secs hg), q _ _ hu, q _ _ (own_off15 a.o12 h1.own.sigs hg), q _ _ (own_off15 a.o13 h1.own.routes hg)⟩⟩, ⟨(off_new a.o01.symm h.own.secs hs he).symm, a.o02, a.o03, off_new a.o12 h.own.sigs hs he, off_new a.o13 h.own.routes hs he, a.o23⟩, b2⟩
theorem ArBox.add2 (h : ArBox W lo b u0 u1 u2 u3 x) (a : Apart14 u0 u1 u2 u3) (hb : Below W.heap.size W W1) {u : Value} {l : List Int} (hu : IntsOwn W' lo u l) (hg : W1.grownBy W' u2.ownBlock) (he : u.ownBlock = u2.ownBlock ∨ u.ownBlock = some W1.heap.size) :
  ArBox (W'.setCell ⟨b, 2, none⟩ u) lo b u0 u1 u u3 ⟨x.secs, x.pts, l, x.routes⟩ ∧ Apart14 u0 u1 u u3 ∧ Below b W (W'.setCell ⟨b, 2, none⟩ u) := by
 have h1 := h.below hb
 have hs := hb.size
 have hr := row_grown h1.own.sigs hg h1.row
 have q : ∀ v m, IntsOwn W' lo v m → IntsOwn (W'.setCell ⟨b, 2, none⟩ u) lo v m := fun v m hv => own_off14 intF hv (grown_setK W' b 2 u) (by decide) ⟨_, hr⟩
 have b1 : Below b W W' := (hb.mono (Nat.le_of_lt h.lt)).grown hg (Nat.le_trans (Nat.le_of_lt h.lt) hs) (fun j hj => Nat.le_trans h.low (own_lo h1.own.sigs j hj))
 have b2 := b1.trans (gb_low14 (grown_setK W' b 2 u) (Nat.le_refl _) (Nat.le_trans (Nat.le_of_lt h.lt) b1.size))
 refine ⟨⟨heap_setK (k := 2) hr u, h.low, Nat.le_trans h.size b2.size, ⟨q _ _ (own_off15 a.o02.symm h1.own.secs hg), q _ _ (own_off15 a.o12.symm h1.own.pts hg), q _ _ hu, q _ _ (own_off15 a.o23 h1.own.routes hg)⟩⟩, ⟨a.o01, (off_new a.o02.symm h.own.secs hs he).symm, a.o03, (off_new a.o12.symm h.own.pts hs he).symm, a.o13, off_new a.o23 h.own.routes hs he⟩, b2⟩
theorem ArBox.add3 (h : ArBox W lo b u0 u1 u2 u3 x) (a : Apart14 u0 u1 u2 u3) (hb : Below W.heap.size W W1) {u : Value} {l : List Int} (hu : IntsOwn W' lo u l) (hg : W1.grownBy W' u3.ownBlock) (he : u.ownBlock = u3.ownBlock ∨ u.ownBlock = some W1.heap.size) :
  ArBox (W'.setCell ⟨b, 3, none⟩ u) lo b u0 u1 u2 u ⟨x.secs, x.pts, x.sigs, l⟩ ∧ Apart14 u0 u1 u2 u ∧ Below b W (W'.setCell ⟨b, 3, none⟩ u) := by
 have h1 := h.below hb
 have hs := hb.size
 have hr := row_grown h1.own.routes hg h1.row
 have q : ∀ v m, IntsOwn W' lo v m → IntsOwn (W'.setCell ⟨b, 3, none⟩ u) lo v m := fun v m hv => own_off14 intF hv (grown_setK W' b 3 u) (by decide) ⟨_, hr⟩
 have b1 : Below b W W' := (hb.mono (Nat.le_of_lt h.lt)).grown hg (Nat.le_trans (Nat.le_of_lt h.lt) hs) (fun j hj => Nat.le_trans h.low (own_lo h1.own.routes j hj))
 have b2 := b1.trans (gb_low14 (grown_setK W' b 3 u) (Nat.le_refl _) (Nat.le_trans (Nat.le_of_lt h.lt) b1.size))
 refine ⟨⟨heap_setK (k := 3) hr u, h.low, Nat.le_trans h.size b2.size, ⟨q _ _ (own_off15 a.o03.symm h1.own.secs hg), q _ _ (own_off15 a.o13.symm h1.own.pts hg), q _ _ (own_off15 a.o23.symm h1.own.sigs hg), q _ _ hu⟩⟩, ⟨a.o01, a.o02, (off_new a.o03.symm h.own.secs hs he).symm, a.o12, (off_new a.o13.symm h.own.pts hs he).symm, (off_new a.o23.symm h.own.sigs hs he).symm⟩, b2⟩
end

set_option maxHeartbeats 8000000 in
theorem rwith14_any (v : Value) (l : List Int) (z : Int) (w : World) (h : IntsIn w w.heap.size v l) (hl : l.length ≤ 1000) :
  Calls Tryz.prog 72 #[v, .int .i64 z] w fun e w' => ∃ u, e = .returned u ∧ ((u = v ∧ withL l z = l) ∨ IntsOwn w' w.heap.size u (withL l z)) ∧ Below w.heap.size w w' := by
 have H0 := Lib.hid h
 obtain ⟨A, c, rfl, hcl, hcm⟩ := h.slice
 by_cases h0 : z = 0
 ·have d0 : (z == 0) = true := by simpa using h0
  have HV : Hid (withL l z = l) := Lib.hid (by rw [withL, if_pos (.inl h0)])
  clear h0 h hcl hcm
  go_enter Tryz.func72, Tryz.ntmps72
  go_wp2_with fail
  go_ret
  exact ⟨_, rfl, .inl ⟨rfl, HV.out⟩, Below.refl _ _⟩
 have d0 : (z == 0) = false := by simpa using h0
 have hin := rin14_any (.slice A l.length c) l z w.heap.size w H0.out
 by_cases h1 : z ∈ l
 ·have HV : Hid (withL l z = l) := Lib.hid (by rw [withL, if_pos (.inr h1)])
  rw [decide_eq_true h1] at hin
  clear h0 h1 h hcl hcm
  go_enter Tryz.func72, Tryz.ntmps72
  go_wp2_with (go_at_call 105; refine hin.mono ?_; rintro e w' ⟨rfl, rfl⟩)
  go_ret
  exact ⟨_, rfl, .inl ⟨rfl, HV.out⟩, Below.refl _ _⟩
 have HV : Hid (withL l z = insR l z) := Lib.hid (by rw [withL, if_neg (by rintro (g | g); exact h0 g; exact h1 g)])
 rw [decide_eq_false h1] at hin
 obtain ⟨n, hn⟩ : ∃ n, n = l.length := ⟨_, rfl⟩
 have HA : Hid (IntsIn w w.heap.size (.slice A n c) l) := Lib.hid (by rw [hn]; exact H0.out)
 have HN := Lib.hid hn
 have hn9 : n ≤ 1000 := by omega
 have HLE := Lib.hid hn9
 rw [← hn] at hin ⊢
 clear hn h0 h1 h hcl hcm H0 hl
 go_enter Tryz.func72, Tryz.ntmps72
 go_wp2_with (go_at_call 105; refine hin.mono ?_; rintro e w' ⟨rfl, rfl⟩)
 clear hin
 go_loopw [5, 6, 7] (fun s5 s6 s7 wr => ∃ (i m c5 : Nat) (A5 : Option Addr) (pt : Bool) (O : List Int), s7 = .int .i64 i ∧ i ≤ n ∧ s6 = .bool pt ∧ s5 = .slice A5 m c5 ∧ m = O.length ∧ O ++ (if pt then l.drop i else insR (l.drop i) z) = insR l z ∧ IntsOwn wr w.heap.size (.slice A5 m c5) O ∧ Below w.heap.size w wr) (fun _ _ s7 _ => n - (intOf s7).toNat)
 case atStart => exact ⟨0, 0, 0, none, false, [], by go_num, by omega, rfl, rfl, rfl, by simp, ListOwn.nil_, Below.refl _ _⟩
 case round =>
  obtain ⟨i, m, c5, A5, pt, O, rfl, hi, rfl, rfl, hm, heq, ho, hb⟩ := hrel
  have hm2 : m ≤ n + 1 := by
   have h1 := congrArg List.length heq
   rw [List.length_append, ins_len, ← HN.out] at h1
   omega
  have HO := Lib.hid ho
  have BW := Lib.hid hb
  have HM := Lib.hid hm
  have HE := Lib.hid heq
  clear ho hb hm heq
  by_cases hlt : i < n
  ·have hlt' : (i : Int) < n := by omega
   have hir : i < l.length := by rw [← HN.out]; exact hlt
   obtain ⟨b, off, rfl, hbk, hc0⟩ := (HA.out.below intR BW.out).at hir
   obtain ⟨x, hx⟩ : ∃ x, x = l[i] := ⟨_, rfl⟩
   have HX : Hid (l.drop i = x :: l.drop (i + 1)) := Lib.hid (by rw [hx]; exact List.drop_eq_getElem_cons hir)
   have hcell : wr.cell? ⟨b, off + i, none⟩ = some (.int .i64 x) := by rw [hx]; simpa [IntR] using hc0
   have HX2 := Lib.hid hx
   clear hc0 hx hbk
   cases pt with
   | true =>
    have HS : Hid (O ++ [x] ++ l.drop (i + 1) = insR l z) := Lib.hid (by have h := HE.out; rw [if_pos rfl, HX.out] at h; simpa using h)
    have HM1 : Hid (m + 1 = (O ++ [x]).length) := Lib.hid (by rw [List.length_append, HM.out]; rfl)
    go_wp2_with ((with_reducible show wpList _ _ _ (⟨some 42, _, _, _, _, _⟩ :: _) _ _); refine wpList_append_one (W := wr) rfl (.tmp 36) (.tmp 41) rfl slI14 intR (fun _ h _ _ => h) rfl rfl HO.out HM.out (ys := [.int .i64 x]) (x := x) rfl (by simp [Value.oneCell']) rfl (by omega) BW.out.size ?_; intro A6 c6 w6 ho6 hb6; have O6 := Lib.hid ho6; have B6 := Lib.hid (BW.out.trans hb6); clear ho6 hb6)
    go_roundw
    case measure => simp [intOf]; omega
    case rel => exact ⟨i + 1, m + 1, c6, A6, true, O ++ [x], by go_num, by omega, rfl, rfl, HM1.out, by simpa using HS.out, O6.out, B6.out⟩
   | false =>
    by_cases hxz : x > z
    ·have dz : decide (x > z) = true := decide_eq_true hxz
     have HS : Hid (O ++ [z] ++ [x] ++ l.drop (i + 1) = insR l z) := Lib.hid (by have h := HE.out; rw [if_neg (by decide), HX.out, insR, if_pos hxz] at h; simpa using h)
     have HM1 : Hid (m + 1 = (O ++ [z]).length) := Lib.hid (by rw [List.length_append, HM.out]; rfl)
     have HM2 : Hid (m + 1 + 1 = (O ++ [z] ++ [x]).length) := Lib.hid (by rw [List.length_append, ← HM1.out]; rfl)
     clear hxz
     go_upto_region 11 with (first | ((with_reducible show wpList _ _ _ (⟨some 35, _, _, _, _, _⟩ :: _) _ _); refine wpList_append_one (W := wr) rfl (.tmp 32) (.tmp 34) rfl slI14 intR (fun _ h _ _ => h) rfl rfl HO.out HM.out (ys := [.int .i64 z]) (x := z) rfl (by simp [Value.oneCell']) rfl (by omega) BW.out.size ?_; intro A6 c6 w6 ho6 hb6; have O6 := Lib.hid ho6; have B6 := Lib.hid (BW.out.trans hb6); clear ho6 hb6))
     obtain ⟨b', off', e', -, hc6⟩ := (HA.out.below intR B6.out).at hir
     cases e'
     have hcell6 : w6.cell? ⟨b, off + i, none⟩ = some (.int .i64 x) := by rw [HX2.out]; simpa [IntR] using hc6
     clear hc6
     go_wp2_with ((with_reducible show wpList _ _ _ (⟨some 42, _, _, _, _, _⟩ :: _) _ _); refine wpList_append_one (W := w6) rfl (.tmp 36) (.tmp 41) rfl slI14 intR (fun _ h _ _ => h) rfl rfl O6.out HM1.out (ys := [.int .i64 x]) (x := x) rfl (by simp [Value.oneCell']) rfl (by omega) B6.out.size ?_; intro A7 c7 w7 ho7 hb7; have O7 := Lib.hid ho7; have B7 := Lib.hid (B6.out.trans hb7); clear ho7 hb7)
     go_roundw
     case measure => simp [intOf]; omega
     case rel => exact ⟨i + 1, m + 1 + 1, c7, A7, true, O ++ [z] ++ [x], by go_num, by omega, rfl, rfl, HM2.out, by simpa using HS.out, O7.out, B7.out⟩
    ·have dz : decide (x > z) = false := decide_eq_false hxz
     have HS : Hid (O ++ [x] ++ insR (l.drop (i + 1)) z = insR l z) := Lib.hid (by have h := HE.out; rw [if_neg (by decide), HX.out, insR, if_neg hxz] at h; simpa using h)
     have HM1 : Hid (m + 1 = (O ++ [x]).length) := Lib.hid (by rw [List.length_append, HM.out]; rfl)
     clear hxz
     go_wp2_with ((with_reducible show wpList _ _ _ (⟨some 42, _, _, _, _, _⟩ :: _) _ _); refine wpList_append_one (W := wr) rfl (.tmp 36) (.tmp 41) rfl slI14 intR (fun _ h _ _ => h) rfl rfl HO.out HM.out (ys := [.int .i64 x]) (x := x) rfl (by simp [Value.oneCell']) rfl (by omega) BW.out.size ?_; intro A6 c6 w6 ho6 hb6; have O6 := Lib.hid ho6; have B6 := Lib.hid (BW.out.trans hb6); clear ho6 hb6)
     go_roundw
     case measure => simp [intOf]; omega
     case rel => exact ⟨i + 1, m + 1, c6, A6, false, O ++ [x], by go_num, by omega, rfl, rfl, HM1.out, by simpa using HS.out, O6.out, B6.out⟩
  ·obtain rfl : n = i := by omega
   have hlt' : ¬ (n : Int) < n := by omega
   have HD : Hid (l.drop n = []) := Lib.hid (by rw [HN.out]; exact List.drop_length)
   cases pt with
   | true =>
    have HS : Hid (O = insR l z) := Lib.hid (by have h := HE.out; rw [if_pos rfl, HD.out, List.append_nil] at h; exact h)
    go_wp2_with fail
    go_ret
    exact ⟨_, rfl, .inr (by rw [HV.out, ← HS.out]; exact HO.out), BW.out⟩
   | false =>
    have HS : Hid (O ++ [z] = insR l z) := Lib.hid (by have h := HE.out; rw [if_neg (by decide), HD.out] at h; exact h)
    go_wp2_with ((with_reducible show wpList _ _ _ (⟨some 48, _, _, _, _, _⟩ :: _) _ _); refine wpList_append_one (W := wr) rfl (.tmp 45) (.tmp 47) rfl slI14 intR (fun _ h _ _ => h) rfl rfl HO.out HM.out (ys := [.int .i64 z]) (x := z) rfl (by simp [Value.oneCell']) rfl (by omega) BW.out.size ?_; intro A6 c6 w6 ho6 hb6; have O6 := Lib.hid ho6; have B6 := Lib.hid (BW.out.trans hb6); clear ho6 hb6)
    go_ret
    exact ⟨_, rfl, .inr (by rw [HV.out, ← HS.out]; exact O6.out), B6.out⟩

theorem rwith14_own (v : Value) (l : List Int) (z : Int) (lo : Nat) (w : World) (h : IntsOwn w lo v l) (hl : l.length ≤ 1000) (hlo : lo ≤ w.heap.size) :
  Calls Tryz.prog 72 #[v, .int .i64 z] w fun e w' => ∃ u, e = .returned u ∧ IntsOwn w' lo u (withL l z) ∧ Below w.heap.size w w' := by
 refine (rwith14_any v l z w (h.in_ intR_cells) hl).mono ?_
 rintro e w' ⟨u, rfl, hc, hb⟩
 refine ⟨u, rfl, ?_, hb⟩
 rcases hc with ⟨rfl, e⟩ | h2
 ·rw [e]; exact h.below intR hb
 ·exact h2.mono hlo
theorem withs_take_len (l ns : List Int) (i : Nat) (hl : l.length ≤ 400) (hn : ns.length ≤ 400) : (withsL l (ns.take i)).length ≤ 1000 := by
 have h1 := withs_len (ns.take i) l
 have h2 : (ns.take i).length ≤ ns.length := by rw [List.length_take]; omega
 omega
set_option maxHeartbeats 4000000 in
theorem rboth14_any (v y : Value) (l ns : List Int) (lo : Nat) (w : World) (h : IntsOwn w lo v l) (h' : IntsIn w w.heap.size y ns) (hl : l.length ≤ 400) (hm : ns.length ≤ 400) (hlo : lo ≤ w.heap.size) :
  Calls Tryz.prog 104 #[v, y] w fun e w' => ∃ u, e = .returned u ∧ IntsOwn w' lo u (withsL l ns) ∧ Below w.heap.size w w' := by
 have HL : Hid (∀ i, (withsL l (ns.take i)).length ≤ 1000) := Lib.hid fun i => withs_take_len l ns i hl hm
 obtain ⟨A, c, rfl, hcl, hcm⟩ := h'.slice
 obtain ⟨n, hn⟩ : ∃ n, n = ns.length := ⟨_, rfl⟩
 have HA : Hid (IntsIn w w.heap.size (.slice A n c) ns) := Lib.hid (by rw [hn]; exact h')
 have H0 := Lib.hid h
 have hn9 : n ≤ 1000 := by omega
 have HN := Lib.hid hn
 have HO := Lib.hid hlo
 rw [← hn]
 clear hn h h' hcl hcm hl hm hlo
 go_enter Tryz.func104, Tryz.ntmps104
 go_upto_region 2 with fail
 go_loopw [0, 5] (fun s0 s5 wr => ∃ i : Nat, s5 = .int .i64 i ∧ i ≤ n ∧ IntsOwn wr lo s0 (withsL l (ns.take i)) ∧ Below w.heap.size w wr) (fun _ s5 _ => n - (intOf s5).toNat)
 case atStart => exact ⟨0, by go_num, by omega, by simpa [withsL] using H0.out, Below.refl _ _⟩
 case round =>
  obtain ⟨i, rfl, hi, ho, hb⟩ := hrel
  have HS := Lib.hid ho
  have BW := Lib.hid hb
  clear ho hb
  by_cases hlt : i < n
  ·have hlt' : (i : Int) < n := by omega
   have hir : i < ns.length := by rw [← HN.out]; exact hlt
   obtain ⟨b, off, rfl, hbk, hc0⟩ := (HA.out.below intR BW.out).at hir
   obtain ⟨x, hx⟩ : ∃ x, x = ns[i] := ⟨_, rfl⟩
   have HX : Hid (withsL l (ns.take (i + 1)) = withL (withsL l (ns.take i)) x) := Lib.hid (by rw [hx]; exact withs_snoc hir)
   have hcell : wr.cell? ⟨b, off + i, none⟩ = some (.int .i64 x) := by rw [hx]; simpa [IntR] using hc0
   clear hc0 hx hbk
   go_wp2_with (go_at_call 72; refine (rwith14_own _ _ x lo wr HS.out (HL.out i) (Nat.le_trans HO.out BW.out.size)).mono ?_; rintro e w2 ⟨u, rfl, h2, b2⟩; have HS2 := Lib.hid h2; have BW2 := Lib.hid (BW.out.trans (b2.mono BW.out.size)); clear h2 b2)
   go_roundw
   case measure => simp [intOf]; omega
   case rel => exact ⟨i + 1, by go_num, by omega, by rw [HX.out]; exact HS2.out, BW2.out⟩
  ·obtain rfl : n = i := by omega
   have hlt' : ¬ (n : Int) < n := by omega
   have HT : Hid (ns.take n = ns) := Lib.hid (by rw [HN.out]; exact List.take_length)
   go_wp2_with fail
   go_ret
   exact ⟨_, rfl, by rw [← HT.out]; exact HS.out, BW.out⟩
set_option maxHeartbeats 4000000 in
theorem rmeet14_any (v y : Value) (l ns : List Int) (w : World) (h : IntsIn w w.heap.size v l) (h' : IntsIn w w.heap.size y ns) :
  Calls Tryz.prog 103 #[v, y] w fun e w' => e = .returned (.bool (meetL l ns)) ∧ w = w' := by
 obtain ⟨A, c, rfl, hcl, hcm⟩ := h.slice
 obtain ⟨n, hn⟩ : ∃ n, n = l.length := ⟨_, rfl⟩
 have HA : Hid (IntsIn w w.heap.size (.slice A n c) l) := Lib.hid (by rw [hn]; exact h)
 have HB := Lib.hid h'
 have hn9 : n ≤ 9223372036854775807 := by unfold maxLen at hcm; omega
 have HN := Lib.hid hn
 have HD : Hid (∀ g : Bool, (g = true ↔ ∃ x ∈ l, x ∈ ns) → g = meetL l ns) := Lib.hid (fun g h => by rw [Bool.eq_iff_iff, h, meetL, List.any_eq_true]; simp)
 generalize hg : meetL l ns = g at HD ⊢
 rw [← hn]
 clear hn h h' hcl hcm hg
 go_enter Tryz.func103, Tryz.ntmps103
 go_upto_region 2 with fail
 go_loopw [5] (fun s5 wr => ∃ i : Nat, s5 = .int .i64 i ∧ i ≤ n ∧ wr = w ∧ (∀ j (hj : j < i) (hl : j < l.length), l[j] ∉ ns)) (fun s5 _ => n - (intOf s5).toNat)
 case atStart => exact ⟨0, by go_num, by omega, rfl, fun j hj => absurd hj (by omega)⟩
 case round =>
  obtain ⟨i, rfl, hi, rfl, hall⟩ := hrel
  have HALL := Lib.hid hall
  clear hall
  by_cases hlt : i < n
  ·have hlt' : (i : Int) < n := by omega
   have hir : i < l.length := by rw [← HN.out]; exact hlt
   obtain ⟨b, off, rfl, hb, hc0⟩ := HA.out.at hir
   obtain ⟨x, hx⟩ : ∃ x, x = l[i] := ⟨_, rfl⟩
   have HX := Lib.hid hx
   have hcell : wr.cell? ⟨b, off + i, none⟩ = some (.int .i64 x) := by rw [hx]; simpa [IntR] using hc0
   clear hc0 hb hx
   have hin := rin14_any y ns x wr.heap.size wr HB.out
   by_cases he : x ∈ ns
   ·rw [decide_eq_true he] at hin
    have HF : Hid (true = g) := Lib.hid (HD.out true ⟨fun _ => ⟨x, HX.out ▸ List.getElem_mem hir, he⟩, fun _ => rfl⟩)
    clear he
    go_wp2_with (go_at_call 105; refine hin.mono ?_; rintro e w' ⟨rfl, rfl⟩)
    go_ret
    exact ⟨by rw [← HF.out]; rfl, rfl⟩
   ·rw [decide_eq_false he] at hin
    have HS : Hid (∀ j (hj : j < i + 1) (hl : j < l.length), l[j] ∉ ns) := Lib.hid (fun j hj hl => by
     rcases Nat.lt_or_ge j i with h | h
     ·exact HALL.out j h hl
     ·obtain rfl : j = i := by omega
      rw [← HX.out]; exact he)
    clear he
    go_wp2_with (go_at_call 105; refine hin.mono ?_; rintro e w' ⟨rfl, rfl⟩)
    go_roundw
    case measure => simp [intOf]; omega
    case rel => exact ⟨i + 1, by go_num, by omega, by trivial, HS.out⟩
  ·obtain rfl : n = i := by omega
   have hlt' : ¬ (n : Int) < n := by omega
   have HF : Hid (false = g) := Lib.hid (HD.out false ⟨fun h => Bool.noConfusion h, fun h => by
    obtain ⟨x, hx, h2⟩ := h
    obtain ⟨j, hj, e⟩ := List.getElem_of_mem hx
    exact absurd (e ▸ h2) (HALL.out j (by rw [HN.out]; exact hj) hj)⟩)
   go_wp2_with fail
   go_ret
   exact ⟨by rw [← HF.out]; rfl, rfl⟩
set_option maxHeartbeats 8000000 in
theorem rmeets14_any (v y : Value) (x z : Ar) (w : World) (h : AreaV w w.heap.size v x) (h' : AreaV w w.heap.size y z) :
  Calls Tryz.prog 70 #[v, y] w fun e w' => e = .returned (.bool (meetA x z)) ∧ Below w.heap.size w w' := by
 obtain ⟨u0, u1, u2, u3, rfl, hin⟩ := h
 obtain ⟨z0, z1, z2, z3, rfl, hin'⟩ := h'
 obtain ⟨h0, h1, hqb⟩ := two_boxes w (.cells #[u0, u1, u2, u3] 24) (.cells #[z0, z1, z2, z3] 24)
 go_enter Tryz.func70, Tryz.ntmps70
 go_upto_region 1 with fail
 generalize (w.alloc (.cells #[u0, u1, u2, u3] 24)).alloc (.cells #[z0, z1, z2, z3] 24) = q at h0 h1 hqb ⊢
 have X0 := Lib.hid h0
 have X1 := Lib.hid h1
 have BQ := Lib.hid hqb
 have IA := Lib.hid ((hin.below hqb).more hqb.size)
 have IB := Lib.hid ((hin'.below hqb).more hqb.size)
 clear h0 h1 hqb hin hin'
 obtain ⟨k0, k1, k2, k3⟩ := cell4A X0.out
 obtain ⟨l0, l1, l2, l3⟩ := cell4A X1.out
 clear X0 X1
 go_wp2_with fail
 refine (rmeet14_any _ _ x.secs z.secs q IA.out.secs IB.out.secs).mono ?_
 rintro e w0 ⟨rfl, rfl⟩
 cases e0 : meetL x.secs z.secs
 rotate_left
 ·have HF : Hid (meetA x z = true) := Lib.hid (by unfold meetA; rw [e0]; rfl)
  clear e0
  go_wp2_with fail
  go_ret
  exact ⟨by rw [HF.out]; rfl, BQ.out⟩
 go_wp2_with fail
 refine (rmeet14_any _ _ x.pts z.pts q IA.out.pts IB.out.pts).mono ?_
 rintro e w1 ⟨rfl, rfl⟩
 cases e1 : meetL x.pts z.pts
 rotate_left
 ·have HF : Hid (meetA x z = true) := Lib.hid (by unfold meetA; rw [e0, e1]; rfl)
  clear e0 e1
  go_wp2_with fail
  go_ret
  exact ⟨by rw [HF.out]; rfl, BQ.out⟩
 go_wp2_with fail
 refine (rmeet14_any _ _ x.sigs z.sigs q IA.out.sigs IB.out.sigs).mono ?_
 rintro e w2 ⟨rfl, rfl⟩
 cases e2 : meetL x.sigs z.sigs
 rotate_left
 ·have HF : Hid (meetA x z = true) := Lib.hid (by unfold meetA; rw [e0, e1, e2]; rfl)
  clear e0 e1 e2
  go_wp2_with fail
  go_ret
  exact ⟨by rw [HF.out]; rfl, BQ.out⟩
 go_wp2_with fail
 refine (rmeet14_any _ _ x.routes z.routes q IA.out.routes IB.out.routes).mono ?_
 rintro e w3 ⟨rfl, rfl⟩
 cases e3 : meetL x.routes z.routes
 rotate_left
 ·have HF : Hid (meetA x z = true) := Lib.hid (by unfold meetA; rw [e0, e1, e2, e3]; rfl)
  clear e0 e1 e2 e3
  go_wp2_with fail
  go_ret
  exact ⟨by rw [HF.out]; rfl, BQ.out⟩
 have HF : Hid (meetA x z = false) := Lib.hid (by unfold meetA; rw [e0, e1, e2, e3]; rfl)
 clear e0 e1 e2 e3
 go_wp2_with fail
 go_ret
 exact ⟨by rw [HF.out]; rfl, BQ.out⟩

theorem own_sl {W : World} {lo : Nat} {v : Value} {l : List Int} (h : IntsOwn W lo v l) : ∃ A n c, v = .slice A n c := by
 obtain ⟨A, c, e⟩ := own_at h
 exact ⟨A, _, c, e⟩
def Len14 (n : Nat) (x : Ar) : Prop := x.secs.length ≤ n ∧ x.pts.length ≤ n ∧ x.sigs.length ≤ n ∧ x.routes.length ≤ n
theorem infoArea4 : (Tryz.prog.info? 24).map (·.size) = some 4 := by kernel_rfl
set_option maxHeartbeats 16000000 in
theorem rjoin14_any (u0 u1 u2 u3 y : Value) (x z : Ar) (lo : Nat) (w : World) (h : ArOwn w lo u0 u1 u2 u3 x) (h' : AreaV w w.heap.size y z) (hl : Len14 400 x) (hm : Len14 400 z) (hlo : lo ≤ w.heap.size) :
  Calls Tryz.prog 71 #[.agg #[u0, u1, u2, u3], y] w fun e w' => ∃ o0 o1 o2 o3, e = .returned (.agg #[o0, o1, o2, o3]) ∧ ArOwn w' lo o0 o1 o2 o3 (joinA x z) ∧ Below w.heap.size w w' := by
 obtain ⟨z0, z1, z2, z3, rfl, hin'⟩ := h'
 obtain ⟨q, hq, h0, h1, h2, hsz, hqb⟩ := boxes3 w (.cells #[u0, u1, u2, u3] 24) (.cells #[z0, z1, z2, z3] 24) (.cells #[.slice none 0 0, .slice none 0 0, .slice none 0 0, .slice none 0 0] 24)
 go_enter Tryz.func71, Tryz.ntmps71
 go_upto_region 1 with fail
 rw [← hq]
 have X0 := Lib.hid h0
 have X1 := Lib.hid h1
 have X2 := Lib.hid h2
 have BQ := Lib.hid hqb
 have LX := Lib.hid hl
 have LZ := Lib.hid hm
 have LO : Hid (lo ≤ q.heap.size) := Lib.hid (Nat.le_trans hlo hqb.size)
 have LW : Hid (lo ≤ w.heap.size) := Lib.hid hlo
 have QS : Hid (w.heap.size + 2 ≤ q.heap.size) := Lib.hid (by omega)
 have OX := Lib.hid (h.below hqb)
 have IZ := Lib.hid ((hin'.below hqb).more hqb.size)
 clear h0 h1 h2 hq hqb h hin' hl hm hlo hsz
 refine wp_region_held_drew (S := fun v => Below (w.heap.size + 2) q v) (by kernel_rfl) ((Below.refl _ q).drew) (fun hHeld => ?_)
 refine tk 0 hHeld ?_;refine tkc 1 hHeld (fun w' hSw => cell4A ((hSw.block _ (by omega)).trans X0.out)) ?_;refine tk 2 hHeld ?_;refine tkc 3 hHeld (fun w' hSw => cell4A ((hSw.block _ (by omega)).trans X1.out)) ?_;refine tk 5 hHeld ?_;refine tkc 6 hHeld (fun w' hSw => cell4A ((hSw.block _ (by omega)).trans X0.out)) ?_;refine tk 7 hHeld ?_;refine tkc 8 hHeld (fun w' hSw => cell4A ((hSw.block _ (by omega)).trans X1.out)) ?_;refine tk 10 hHeld ?_;refine tkc 11 hHeld (fun w' hSw => cell4A ((hSw.block _ (by omega)).trans X0.out)) ?_;refine tk 12 hHeld ?_;refine tkc 13 hHeld (fun w' hSw => cell4A ((hSw.block _ (by omega)).trans X1.out)) ?_;refine tk 15 hHeld ?_;refine tkc 16 hHeld (fun w' hSw => cell4A ((hSw.block _ (by omega)).trans X0.out)) ?_;refine tk 17 hHeld ?_;refine tkc 18 hHeld (fun w' hSw => cell4A ((hSw.block _ (by omega)).trans X1.out)) ?_
 have tb := (Below.refl q.heap.size q).drew
 have tO := OX.out.below tb
 generalize q.drew = q0 at tb tO hHeld ⊢
 clear OX
 have HB := Lib.hid tb
 have OX := Lib.hid tO
 clear tb tO
 refine tkr 4 (fun K hK => ?_)
 go_simp
 refine (rboth14_any _ _ x.secs z.secs lo q0 OX.out.secs ((IZ.out.below HB.out).more HB.out.size).secs LX.out.1 LZ.out.1 (Nat.le_trans LO.out HB.out.size)).mono ?_
 rintro e q1 ⟨o0, rfl, ho, b⟩
 have tb := HB.out.trans (b.mono HB.out.size)
 have tO := OX.out.below b
 clear HB OX b 
 have HB := Lib.hid tb
 have OX := Lib.hid tO
 have O0 := Lib.hid ho
 clear ho tb tO 
 try go_wp2_with fail
 refine hK.out _ _ ?_ fun hHeld => ?_;exact HB.out.mono QS.out;clear hK K;try simp only [zn, Act.put]
 refine tkr 9 (fun K hK => ?_)
 go_simp
 refine (rboth14_any _ _ x.pts z.pts lo q1 OX.out.pts ((IZ.out.below HB.out).more HB.out.size).pts LX.out.2.1 LZ.out.2.1 (Nat.le_trans LO.out HB.out.size)).mono ?_
 rintro e q2 ⟨o1, rfl, ho, b⟩
 have tb := HB.out.trans (b.mono HB.out.size)
 have tO := OX.out.below b
 have t0 := O0.out.below intR b
 clear HB OX b O0
 have HB := Lib.hid tb
 have OX := Lib.hid tO
 have O0 := Lib.hid t0
 have O1 := Lib.hid ho
 clear ho tb tO t0
 try go_wp2_with fail
 refine hK.out _ _ ?_ fun hHeld => ?_;exact HB.out.mono QS.out;clear hK K;try simp only [zn, Act.put]
 refine tkr 14 (fun K hK => ?_)
 go_simp
 refine (rboth14_any _ _ x.sigs z.sigs lo q2 OX.out.sigs ((IZ.out.below HB.out).more HB.out.size).sigs LX.out.2.2.1 LZ.out.2.2.1 (Nat.le_trans LO.out HB.out.size)).mono ?_
 rintro e q3 ⟨o2, rfl, ho, b⟩
 have tb := HB.out.trans (b.mono HB.out.size)
 have tO := OX.out.below b
 have t0 := O0.out.below intR b
 have t1 := O1.out.below intR b
 clear HB OX b O0 O1
 have HB := Lib.hid tb
 have OX := Lib.hid tO
 have O0 := Lib.hid t0
 have O1 := Lib.hid t1
 have O2 := Lib.hid ho
 clear ho tb tO t0 t1
 try go_wp2_with fail
 refine hK.out _ _ ?_ fun hHeld => ?_;exact HB.out.mono QS.out;clear hK K;try simp only [zn, Act.put]
 refine tkr 19 (fun K hK => ?_)
 go_simp
 refine (rboth14_any _ _ x.routes z.routes lo q3 OX.out.routes ((IZ.out.below HB.out).more HB.out.size).routes LX.out.2.2.2 LZ.out.2.2.2 (Nat.le_trans LO.out HB.out.size)).mono ?_
 rintro e q4 ⟨o3, rfl, ho, b⟩
 have tb := HB.out.trans (b.mono HB.out.size)
 have tO := OX.out.below b
 have t0 := O0.out.below intR b
 have t1 := O1.out.below intR b
 have t2 := O2.out.below intR b
 clear HB OX b O0 O1 O2
 have HB := Lib.hid tb
 have OX := Lib.hid tO
 have O0 := Lib.hid t0
 have O1 := Lib.hid t1
 have O2 := Lib.hid t2
 have O3 := Lib.hid ho
 clear ho tb tO t0 t1 t2
 try go_wp2_with fail
 refine hK.out _ _ ?_ fun hHeld => ?_;exact HB.out.mono QS.out;clear hK K;try simp only [zn, Act.put]
 obtain ⟨A0, n0, c0, rfl⟩ := own_sl O0.out
 obtain ⟨A1, n1, c1, rfl⟩ := own_sl O1.out
 obtain ⟨A2, n2, c2, rfl⟩ := own_sl O2.out
 obtain ⟨A3, n3, c3, rfl⟩ := own_sl O3.out
 refine tk 20 hHeld ?_
 refine tkr 21 (fun K hK => ?_)
 rw [if_pos (by rfl)]
 refine wp_store_rowP 24 (.tmp 4) (.tmp 25) rfl (w.heap.size + 1 + 1) rfl (c' := #[.slice A0 n0 c0, .slice A1 n1 c1, .slice A2 n2 c2, .slice A3 n3 c3]) rfl ((HB.out.block _ (heap_lt X2.out)).trans X2.out) infoArea4 rfl (by simp [Value.oneCell']) ?_
 have hrow := (HB.out.block _ (heap_lt X2.out)).trans X2.out
 have hg := grownBy_setRow q4 (w.heap.size + 1 + 1) #[.slice A0 n0 c0, .slice A1 n1 c1, .slice A2 n2 c2, .slice A3 n3 c3]
 have tb : Below (w.heap.size + 2) q (q4.setRow (w.heap.size + 1 + 1) #[.slice A0 n0 c0, .slice A1 n1 c1, .slice A2 n2 c2, .slice A3 n3 c3]) := (HB.out.mono QS.out).trans (gb_low14 hg (Nat.le_refl _) (Nat.le_trans QS.out HB.out.size))
 have tO : ArOwn (q4.setRow (w.heap.size + 1 + 1) #[.slice A0 n0 c0, .slice A1 n1 c1, .slice A2 n2 c2, .slice A3 n3 c3]) lo (.slice A0 n0 c0) (.slice A1 n1 c1) (.slice A2 n2 c2) (.slice A3 n3 c3) (joinA x z) := (ArOwn.mk (x := joinA x z) O0.out O1.out O2.out O3.out).off hg ⟨_, hrow⟩
 have t6 := setRow_heap q4 _ _ #[.slice A0 n0 c0, .slice A1 n1 c1, .slice A2 n2 c2, .slice A3 n3 c3] _ _ hrow
 refine hK.out _ _ ?_ fun hHeld => ?_;exact tb;clear hK K;try simp only [zn, Act.put]
 generalize q4.setRow (w.heap.size + 1 + 1) #[.slice A0 n0 c0, .slice A1 n1 c1, .slice A2 n2 c2, .slice A3 n3 c3] = q5 at tb tO t6 hHeld ⊢
 clear hrow hg
 have BL := Lib.hid (BQ.out.trans (tb.mono (by omega)))
 have OL := Lib.hid tO
 have X6 := Lib.hid t6
 clear tb tO t6 HB
 refine wpAnyH_done (by kernel_rfl) ?_ _
 go_wp2_with fail
 refine bodyPost_ret (results_cell_row rfl _ _ (w.heap.size + 1 + 1) 24 #[.slice A0 n0 c0, .slice A1 n1 c1, .slice A2 n2 c2, .slice A3 n3 c3] (0, 0) _ rfl X6.out Tryz.underlying24 rfl infoArea4) rfl ⟨_, _, _, _, rfl, OL.out, BL.out⟩
end Go.Proofs.YtneeocnjfnneoaaGreat
