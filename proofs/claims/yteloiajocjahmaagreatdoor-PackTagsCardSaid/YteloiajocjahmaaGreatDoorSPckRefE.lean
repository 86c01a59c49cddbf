/-
 The document's own package pack: Parse.
 Conditions: none.
-/
import Derived.Test.YteloiajocjahmaaGreatDoorSGPckRC
import Derived.Test.YteloiajocjahmaaGreatDoorSGPckM
import Derived.Test.YteloiajocjahmaaGreatDoorSGPlnRow
import Derived.Test.YteloiajocjahmaaGreatDoorSGPlnRefD
set_option linter.unusedVariables false
set_option linter.unusedSimpArgs false
set_option maxRecDepth 100000
namespace Go.Proofs.YteloiajocjahmaaGreatDoor
open Go.RowKit

/-- All blocks of a world but one are kept. -/
structure Off (p : Nat) (W W' : World) : Prop where
 size : W.heap.size ≤ W'.heap.size
 same : ∀ i, i < W.heap.size → i ≠ p → W'.heap[i]? = W.heap[i]?
theorem Off.refl (p : Nat) (W : World) : Off p W W := ⟨Nat.le_refl _, fun _ _ _ => rfl⟩
theorem Off.below {p B : Nat} {W W1 W2 : World} (h : Off p W W1) (hb : Below B W1 W2) (hB : W.heap.size ≤ B) : Off p W W2 :=
 ⟨Nat.le_trans h.size hb.size, fun i hi hp => (hb.block i (by omega)).trans (h.same i hi hp)⟩
theorem Off.set {p : Nat} {W W1 : World} (h : Off p W W1) (k : Nat) (x : Value) : Off p W (W1.setCell ⟨p, k, none⟩ x) :=
 ⟨by have := h.size; simp [World.setCell]; omega, fun i hi hp => (heap_setFar W1 p k i x hp).trans (h.same i hi hp)⟩
theorem own_off {α : Type} {T : TypeId} {sz : Nat} {R : El α} {W W' : World} {lo p : Nat} {v : Value} {l : List α} (hR : ∀ (c : Nat → Option Value) (x : α), R W W.heap.size c x → R W' W'.heap.size c x) (h : ListOwn T sz R W lo v l) (ho : Off p W W') (hp : p < lo) : ListOwn T sz R W' lo v l := by
 obtain ⟨yss, ow, h1, hm, hs, ht⟩ := h
 refine ⟨yss, ⟨ow.1, ow.2.imp id fun ⟨g, cap, cur, e, h1, h2, h3⟩ => ⟨g, cap, cur, e, h1, (ho.same g (heap_lt h2) (by omega)).trans h2, h3⟩⟩, h1, hm, hs, fun j ys x a b => hR _ _ (ht j ys x a b)⟩
theorem sects_off {W W' : World} {lo p : Nat} {v : Value} {l : List Sec} (h : SectsOwn W lo v l) (ho : Off p W W') (hp : p < lo) : SectsOwn W' lo v l :=
 own_off (fun c x ⟨h0, h1, u, h2, h3, h4⟩ => ⟨h0, h1, u, h2, own_off (fun _ _ h => joinF h) h3 ho hp, fun k hk => Nat.lt_of_lt_of_le (h4 k hk) ho.size⟩) h ho hp
/-- The plan's box. -/
structure PB (q W : World) (p6 : Nat) (row : Array Value) : Prop where
 x6 : W.heap[p6]? = some (.cells row 28 (0, 0))
 b : Below p6 q W
section
variable {q W W' : World} {p6 : Nat} {row : Array Value}
theorem PB.below (h : PB q W p6 row) (hp : p6 = q.heap.size) (hb : Below W.heap.size W W') : PB q W' p6 row := ⟨(hb.block _ (heap_lt h.x6)).trans h.x6, h.b.trans (hb.mono (by have := h.b.size; omega))⟩
theorem PB.loB {B : Nat} (h : PB q W p6 row) (hb : Below B W W') (hB : p6 < B) : PB q W' p6 row := ⟨(hb.block _ hB).trans h.x6, h.b.trans (hb.mono (Nat.le_of_lt hB))⟩
theorem PB.set (h : PB q W p6 row) (k : Nat) (x : Value) : PB q (W.setCell ⟨p6, k, none⟩ x) p6 (row.setIfInBounds k x) := ⟨heap_setK (k := k) h.x6 x, below_set h.b (Nat.le_refl _) k x⟩
theorem PB.lt (h : PB q W p6 row) : p6 < W.heap.size := heap_lt h.x6
end
theorem wpList_append_listK {P : Program} {w : World} {ops : Array Oper} {rest : List Oper} {o : Oper} {a : Act} {Q : Exit → Act → World → Prop} (hgd : o.guard = none) (s x : Operand) (t : TypeId)
  (ho : o.op = .call { callee := .builtin .append, args := #[s, x], argTypes := #[t, t] })
  {base e size bytes : Nat} {i : TypeInfo} {z : Value} (ht : P.underlying t = some (.slice e)) (hi : P.info? e = some i) (hz : i.zero = some z) (hzs : z.cells.size = size) (hsize : i.size = size) (hsz : 0 < size) (hby : i.bytes = bytes) (hb8 : bytes ≤ 1000)
  {v : Value} {n m c : Nat} {A : Option Addr} {ys news : List Value} (hs : a.eval s = v) (hown : w.ownsRow base e size v n ys) (hu : a.eval x = .slice A m c) (hl : news.length = m * size) (hA : A = none → m = 0 ∧ c = 0)
  (hc : ∀ a, A = some a → ∀ j u, news[j]? = some u → w.cell? (a.add j) = some u) (h1 : ∀ u ∈ news, u.oneCell' = true) (h63 : n + m ≤ 100000) (hbase : base ≤ w.heap.size)
  (h : ∀ v' w', w'.ownsRow base e size v' (n + m) (ys ++ news) → w.grownBy w' v.ownBlock → wpList P ops Q rest (a.put o.dst v') w') : wpList P ops Q (o :: rest) a w := by
 refine wpList_plain hgd fun K hK => ?_
 obtain ⟨v', w', hrun, h2, h3⟩ := run_append_listB (ty := o.type) ht hi hz hzs hsize hsz hby hb8 hown hl hA hc h1 h63 hbase
 unfold Oper.wp execOp
 simp only [ho, resolve, invoke, builtin, Sem.run_bind, Sem.run_pure, Result.andThen_ok, List.map_toArray, List.map_cons, List.map_nil, hs, hu, hrun]
 exact hK _ _ (h v' w' h2 h3)
theorem infoSecS : (Tryz.prog.info? 63).map (·.size) = some 3 := by kernel_rfl
theorem infoPlanS : (Tryz.prog.info? 28).map (·.size) = some 6 := by kernel_rfl
set_option maxHeartbeats 64000000 in
theorem rparse_any (v : Value) (b : List UInt8) (w : World) (h : Txt w w.heap.size v b) (hl : b.length ≤ 10000) :
  Calls Tryz.prog 18 #[v] w fun e w' => ∃ u2 u3 u4 u5, e = .returned (.tuple #[.agg #[.int .i64 (parseP b).ver, .int .i64 (parseP b).par, u2, u3, u4, u5], .int .i64 (parseE b)]) ∧ PlOwn w' w.heap.size u2 u3 u4 u5 (parseP b) ∧ Below w.heap.size w w' := by
 have HX0 := Lib.hid h
 have HBL := Lib.hid hl
 obtain ⟨A0, c0, rfl, -, -, -, -⟩ := h
 obtain ⟨nb, hnb⟩ : ∃ n, n = b.length := ⟨_, rfl⟩
 have HX_T : Hid (Txt w w.heap.size (.slice A0 nb c0) b) := Lib.hid (by rw [hnb]; exact HX0.out)
 rw [← hnb]
 clear hnb HX0 hl
 have hx2 := heap_alloc_self w (.cells #[.int .i64 0, .int .i64 0, .slice none 0 0, .slice none 0 0, .slice none 0 0, .slice none 0 0] 28)
 have hb2 := below_new w (.cells #[.int .i64 0, .int .i64 0, .slice none 0 0, .slice none 0 0, .slice none 0 0, .slice none 0 0] 28)
 have hs2 := heap_alloc_size w (.cells #[.int .i64 0, .int .i64 0, .slice none 0 0, .slice none 0 0, .slice none 0 0, .slice none 0 0] 28)
 go_enter Tryz.func18, Tryz.ntmps18
 go_upto_region 1 with fail
 generalize w.alloc (.cells #[.int .i64 0, .int .i64 0, .slice none 0 0, .slice none 0 0, .slice none 0 0, .slice none 0 0] 28) = q0 at hx2 hb2 hs2 ⊢
 have X2 := Lib.hid hx2
 have B2 := Lib.hid hb2
 have S2 : Hid (q0.heap.size = w.heap.size + 1) := Lib.hid hs2
 clear hx2 hb2 hs2
 go_wp2_with fail
 refine (rget12_any _ b q0 ((HX_T.out.below B2.out).more B2.out.size) HBL.out).mono ?_
 rintro e q ⟨hres, hbq⟩
 have BQ := Lib.hid hbq
 have X2q := Lib.hid ((hbq.block _ (heap_lt X2.out)).trans X2.out)
 have BW := Lib.hid (B2.out.trans (hbq.mono B2.out.size))
 clear hbq X2 B2
 rcases hres with ⟨l, A, c, n, rfl, hn, hn4, ho, hok, hput⟩ | ⟨rfl, hno⟩
 rotate_left
 ·have HNO : Hid (parseE b = 8 ∧ parseP b = zPl) := Lib.hid (parse_no fun p hp e => hno _ (nums_ok hp) e)
  clear hno
  go_wp2_with ((with_reducible show wpList _ _ _ (⟨none, _, _, _, _, _⟩ :: _) _ _); refine wpList_store_rowS rfl _ (.tmp 2) (.tmp 25) rfl w.heap.size rfl (c' := #[.int .i64 0, .int .i64 0, .slice none 0 0, .slice none 0 0, .slice none 0 0, .slice none 0 0]) rfl X2q.out infoPlanS rfl (by simp [Value.oneCell']) ?_)
  refine bodyPost_ret (results_rowS_tmp (c := #[.int .i64 0, .int .i64 0, .slice none 0 0, .slice none 0 0, .slice none 0 0, .slice none 0 0]) rfl _ _ w.heap.size rfl (setRow_heap _ _ _ _ _ _ X2q.out) Tryz.underlying28 infoPlanS (.int .i64 8) rfl) rfl ?_
  rw [HNO.out.1, HNO.out.2]
  exact ⟨_, _, _, _, rfl, ⟨ListOwn.nil_, ListOwn.nil_, ListOwn.nil_, ListOwn.nil_⟩, below_setRow BW.out (Nat.le_refl _) _⟩
 have LQ : Hid (IntsIn q q.heap.size (.slice A n c) l) := Lib.hid (ho.in_ intR_cells)
 have HNL := Lib.hid hn
 have HOK := Lib.hid hok
 have HPUT := Lib.hid hput
 clear hn ho hok hput BQ
 obtain ⟨V0, hV0⟩ : ∃ x, x = l.getD 0 0 := ⟨_, rfl⟩
 have HV0 := Lib.hid hV0
 clear hV0
 obtain ⟨V1, hV1⟩ : ∃ x, x = l.getD 1 0 := ⟨_, rfl⟩
 have HV1 := Lib.hid hV1
 clear hV1
 obtain ⟨N2, hN2⟩ : ∃ x, x = l.getD 2 0 := ⟨_, rfl⟩
 have HN2 := Lib.hid hN2
 clear hN2
 have LI_q := LQ
 go_wp2_with fail
 refine (rnumber_at _ l (0) q LI_q.out (by simp) _ (by simp)).mono ?_
 rintro e w' ⟨rfl, hw⟩
 rw [hw, ← HV0.out]
 clear hw w'
 go_wp2_with fail
 refine (rnumber_at _ l (1) q LI_q.out (by simp) _ (by simp)).mono ?_
 rintro e w' ⟨rfl, hw⟩
 rw [hw, ← HV1.out]
 clear hw w'
 have XX0 := heap_alloc_self q (.cells #[.int .i64 0, .int .i64 0, .slice none 0 0, .slice none 0 0, .slice none 0 0, .slice none 0 0] 28)
 have hb5 := below_setRow (below_new q (.cells #[.int .i64 0, .int .i64 0, .slice none 0 0, .slice none 0 0, .slice none 0 0, .slice none 0 0] 28)) (Nat.le_refl _) #[.int .i64 V0, .int .i64 V1, .slice none 0 0, .slice none 0 0, .slice none 0 0, .slice none 0 0]
 have hx5 := setRow_heap (q.alloc (.cells #[.int .i64 0, .int .i64 0, .slice none 0 0, .slice none 0 0, .slice none 0 0, .slice none 0 0] 28)) q.heap.size _ #[.int .i64 V0, .int .i64 V1, .slice none 0 0, .slice none 0 0, .slice none 0 0, .slice none 0 0] 28 _ XX0
 go_upto_region 5 with ((with_reducible show wpList _ _ _ (⟨none, _, _, _, _, _⟩ :: _) _ _); refine wpList_store_rowS rfl _ (.tmp 6) (.tmp 30) rfl q.heap.size rfl (c' := #[.int .i64 V0, .int .i64 V1, .slice none 0 0, .slice none 0 0, .slice none 0 0, .slice none 0 0]) rfl XX0 infoPlanS rfl (by simp [Value.oneCell']) ?_)
 generalize (q.alloc (.cells #[.int .i64 0, .int .i64 0, .slice none 0 0, .slice none 0 0, .slice none 0 0, .slice none 0 0] 28)).setRow q.heap.size #[.int .i64 V0, .int .i64 V1, .slice none 0 0, .slice none 0 0, .slice none 0 0, .slice none 0 0] = q1 at hb5 hx5 ⊢
 obtain ⟨p6, hp6⟩ : ∃ n, n = q.heap.size := ⟨_, rfl⟩
 rw [← hp6] at hx5 hb5 ⊢
 obtain ⟨lo, hlo⟩ : ∃ n, n = p6 + 1 := ⟨_, rfl⟩
 have HP6 : Hid (p6 = q.heap.size) := Lib.hid hp6
 have HLO : Hid (p6 < lo) := Lib.hid (by omega)
 have HLO2 : Hid (lo = p6 + 1) := Lib.hid hlo
 have P26 : Hid (w.heap.size < p6) := Lib.hid (by rw [hp6]; exact heap_lt X2q.out)
 have S0 : Hid (PB q q1 p6 #[.int .i64 V0, .int .i64 V1, .slice none 0 0, .slice none 0 0, .slice none 0 0, .slice none 0 0]) := Lib.hid ⟨hx5, hb5⟩
 clear XX0 hb5 hx5 hp6 hlo LI_q S2
 go_wp2_with fail
 go_loopw [7, 8] (fun s7 s8 wr => ∃ (i a : Nat) (A2 : Option Addr) (c2 : Nat) (L2 : List Sec), s8 = .int .i64 i ∧ s7 = .int .i64 a ∧ i ≤ a ∧ a ≤ n + 8 ∧ KL numsS l N2 3 Pl.secs tlPts (fun p => p.ver = V0 ∧ p.par = V1) i a L2 ∧ L2.length = i ∧ SectsOwn wr lo (.slice A2 i c2) L2 ∧ PB q wr p6 #[.int .i64 V0, .int .i64 V1, .slice A2 i c2, .slice none 0 0, .slice none 0 0, .slice none 0 0]) (fun s7 _ _ => n + 8 - (intOf s7).toNat)
 case atStart => exact ⟨0, 3, none, 0, [], by go_num, by go_num, by omega, by omega, by rw [HV0.out, HV1.out, HN2.out]; exact k_secs l, rfl, ListOwn.nil_, S0.out⟩
 case round =>
  obtain ⟨wy, hwy⟩ : ∃ u, u = wr := ⟨_, rfl⟩
  subst hwy
  obtain ⟨i, a, A2, c2, L2, rfl, rfl, hia, han, hk, hln, hso, hpb⟩ := hrel
  have HK := Lib.hid hk
  have HLN := Lib.hid hln
  have SO := Lib.hid hso
  have ST := Lib.hid hpb
  clear hk hln hso hpb
  have LI_wy := Lib.hid ((LQ.out.below intR (by rw [← HP6.out]; exact ST.out.b)).more intR ST.out.b.size)
  obtain ⟨c, hc⟩ : ∃ c, c = decide ((i : Int) < N2 ∧ a < n) := ⟨_, rfl⟩
  have HC := Lib.hid hc
  clear hc
  go_upto_region 7 with fail
  go_cut [40] from 31 to 40 (fun s40 wx => s40 = .bool c ∧ wx = wy)
  case first =>
   go_wp2_with fail
   refine (rnumber_at _ l (2) wy LI_wy.out (by omega) _ (by omega)).mono ?_
   rintro e w' ⟨rfl, hw⟩
   rw [hw, ← HN2.out]
   clear hw w'
   by_cases h1 : (i : Int) < N2
   rotate_left
   ·have d0 : decide ((i : Int) < N2) = false := decide_eq_false h1
    have HCF : Hid (c = false) := Lib.hid (by rw [HC.out]; exact decide_eq_false fun h => h1 h.1)
    clear h1
    go_wp2_with fail
    go_meet
    exact ⟨by rw [HCF.out], rfl⟩
   have d0 : decide ((i : Int) < N2) = true := decide_eq_true h1
   by_cases h2 : a < n
   rotate_left
   ·have d1 : decide ((a : Int) < n) = false := decide_eq_false (by omega)
    have HCF : Hid (c = false) := Lib.hid (by rw [HC.out]; exact decide_eq_false fun h => h2 h.2)
    have DN : Hid (decide (a < n) = false) := Lib.hid (decide_eq_false h2)
    clear h1 h2
    go_wp2_with fail
    go_meet
    exact ⟨by rw [HCF.out]; first | rfl | rw [DN.out], rfl⟩
   have d1 : decide ((a : Int) < n) = true := decide_eq_true (by omega)
   have HCF : Hid (c = true) := Lib.hid (by rw [HC.out]; exact decide_eq_true ⟨h1, h2⟩)
   have DN : Hid (decide (a < n) = true) := Lib.hid (decide_eq_true h2)
   clear h1 h2
   go_wp2_with fail
   go_meet
   exact ⟨by rw [HCF.out]; first | rfl | rw [DN.out], rfl⟩
  case rest =>
   obtain ⟨rfl, hwc⟩ := hcut
   subst hwc
   obtain ⟨wy, hwy⟩ : ∃ u, u = wc := ⟨_, rfl⟩
   subst hwy
   cases c with
   | false =>
    have HX : Hid (¬ ((i : Int) < N2 ∧ a < l.length)) := Lib.hid (by rw [← HNL.out]; exact of_decide_eq_false HC.out.symm)
    clear HC
    have HE : Hid (∀ p, PlanMay p → numsP p = l → (p.ver = V0 ∧ p.par = V1) ∧ L2 = p.secs ∧ l.drop a = tlPts p) := Lib.hid (HK.out.fin numsS_ne HX.out)
    clear HK HX
    have F2 : Hid (SectsOwn wy lo (.slice A2 i c2) L2) := SO
    clear SO
    obtain ⟨i2, hr⟩ : ∃ x, x = i := ⟨_, rfl⟩
    subst hr
    obtain ⟨N3, hN3⟩ : ∃ x, x = l.getD a 0 := ⟨_, rfl⟩
    have HN3 := Lib.hid hN3
    clear hN3
    have hwz : IntKind.i64.wrap ((a : Int) + 1) = ((a + 1 : Nat) : Int) := by rw [wrap_id (by omega) (by omega)]; omega
    go_wp2_with fail
    refine (rnumber_at _ l (a) wy LI_wy.out (by omega) _ (by omega)).mono ?_
    rintro e w' ⟨rfl, hw⟩
    rw [hw, ← HN3.out]
    clear hw w'
    have HK0 : Hid (KL numsJ l N3 (a + 1) Pl.pts tailG (fun p => (p.ver = V0 ∧ p.par = V1) ∧ L2 = p.secs) 0 (a + 1) []) := Lib.hid (by
     rw [HN3.out]
     exact k_next fun p hp e => ⟨⟨(HE.out p hp e).1, (HE.out p hp e).2.1⟩, (HE.out p hp e).2.2⟩)
    clear HE
    go_wp2_with fail
    clear hwz
    obtain ⟨b2, hr⟩ : ∃ x, x = a := ⟨_, rfl⟩
    subst hr
    obtain ⟨W2, hr⟩ : ∃ x, x = wy := ⟨_, rfl⟩
    subst hr
    obtain ⟨lo2, hlo⟩ : ∃ n, n = W2.heap.size := ⟨_, rfl⟩
    have HLo2 : Hid (lo2 = W2.heap.size) := Lib.hid hlo
    have HPL2 : Hid (p6 < lo2) := Lib.hid (by rw [hlo]; exact ST.out.lt)
    have HLL2 : Hid (lo ≤ lo2) := Lib.hid (by have h1 := HPL2.out; have h2 := HLO2.out; omega)
    clear hlo LI_wy
    go_loopw [7, 13] (fun s7 s8 wr => ∃ (i a : Nat) (A : Option Addr) (c : Nat) (L : List Jn), s8 = .int .i64 i ∧ s7 = .int .i64 a ∧ i ≤ a ∧ a ≤ n + 9 ∧ KL numsJ l N3 (b2 + 1) Pl.pts tailG (fun p => (p.ver = V0 ∧ p.par = V1) ∧ L2 = p.secs) i a L ∧ L.length = i ∧ PointsOwn wr lo2 (.slice A i c) L ∧ PB q wr p6 #[.int .i64 V0, .int .i64 V1, .slice A2 i2 c2, .slice A i c, .slice none 0 0, .slice none 0 0] ∧ Off p6 W2 wr) (fun s7 _ _ => n + 9 - (intOf s7).toNat)
    case atStart => exact ⟨0, b2 + 1, none, 0, [], by go_num, by first | rfl | simp, by omega, by omega, HK0.out, rfl, ListOwn.nil_, ST.out, Off.refl _ _⟩
    case round =>
     obtain ⟨wy, hwy⟩ : ∃ u, u = wr := ⟨_, rfl⟩
     subst hwy
     obtain ⟨i, a, A, c, L, rfl, rfl, hia, han, hk, hln, hso, hpb, hoff⟩ := hrel
     clear ST
     have HK := Lib.hid hk
     have HLN := Lib.hid hln
     have SO := Lib.hid hso
     have ST := Lib.hid hpb
     have OFF := Lib.hid hoff
     have LL : Hid (lo2 ≤ wy.heap.size) := Lib.hid (by rw [HLo2.out]; exact hoff.size)
     clear hk hln hso hpb hoff
     have LI_wy := Lib.hid ((LQ.out.below intR (by rw [← HP6.out]; exact ST.out.b)).more intR ST.out.b.size)
     obtain ⟨c, hc⟩ : ∃ c, c = decide ((i : Int) < N3 ∧ a < n) := ⟨_, rfl⟩
     have HC := Lib.hid hc
     clear hc
     go_upto_region 23 with fail
     go_cut [95] from 87 to 95 (fun s40 wx => s40 = .bool c ∧ wx = wy)
     case first =>
      by_cases h1 : (i : Int) < N3
      rotate_left
      ·have d0 : decide ((i : Int) < N3) = false := decide_eq_false h1
       have HCF : Hid (c = false) := Lib.hid (by rw [HC.out]; exact decide_eq_false fun h => h1 h.1)
       clear h1
       go_wp2_with fail
       go_meet
       exact ⟨by rw [HCF.out], rfl⟩
      have d0 : decide ((i : Int) < N3) = true := decide_eq_true h1
      by_cases h2 : a < n
      rotate_left
      ·have d1 : decide ((a : Int) < n) = false := decide_eq_false (by omega)
       have HCF : Hid (c = false) := Lib.hid (by rw [HC.out]; exact decide_eq_false fun h => h2 h.2)
       have DN : Hid (decide (a < n) = false) := Lib.hid (decide_eq_false h2)
       clear h1 h2
       go_wp2_with fail
       go_meet
       exact ⟨by rw [HCF.out]; first | rfl | rw [DN.out], rfl⟩
      have d1 : decide ((a : Int) < n) = true := decide_eq_true (by omega)
      have HCF : Hid (c = true) := Lib.hid (by rw [HC.out]; exact decide_eq_true ⟨h1, h2⟩)
      have DN : Hid (decide (a < n) = true) := Lib.hid (decide_eq_true h2)
      clear h1 h2
      go_wp2_with fail
      go_meet
      exact ⟨by rw [HCF.out]; first | rfl | rw [DN.out], rfl⟩
     case rest =>
      obtain ⟨rfl, hwc⟩ := hcut
      subst hwc
      obtain ⟨wy, hwy⟩ : ∃ u, u = wc := ⟨_, rfl⟩
      subst hwy
      cases c with
      | false =>
       have HX : Hid (¬ ((i : Int) < N3 ∧ a < l.length)) := Lib.hid (by rw [← HNL.out]; exact of_decide_eq_false HC.out.symm)
       clear HC
       have HE : Hid (∀ p, PlanMay p → numsP p = l → ((p.ver = V0 ∧ p.par = V1) ∧ L2 = p.secs) ∧ L = p.pts ∧ l.drop a = tailG p) := Lib.hid (HK.out.fin numsJ_ne HX.out)
       clear HK HX
       have F2' := Lib.hid (sects_off F2.out OFF.out HLO.out)
       have F3 : Hid (PointsOwn wy lo (.slice A i c) L) := Lib.hid (SO.out.mono HLL2.out)
       clear F2
       have F2 := F2'
       clear F2' OFF LL
       clear SO
       obtain ⟨A3, hr⟩ : ∃ x, x = A := ⟨_, rfl⟩
       subst hr
       obtain ⟨i3, hr⟩ : ∃ x, x = i := ⟨_, rfl⟩
       subst hr
       obtain ⟨c3, hr⟩ : ∃ x, x = c := ⟨_, rfl⟩
       subst hr
       obtain ⟨L3, hr⟩ : ∃ x, x = L := ⟨_, rfl⟩
       subst hr
       obtain ⟨N4, hN4⟩ : ∃ x, x = l.getD a 0 := ⟨_, rfl⟩
       have HN4 := Lib.hid hN4
       clear hN4
       have hwz : IntKind.i64.wrap ((a : Int) + 1) = ((a + 1 : Nat) : Int) := by rw [wrap_id (by omega) (by omega)]; omega
       go_wp2_with fail
       refine (rnumber_at _ l (a) wy LI_wy.out (by omega) _ (by omega)).mono ?_
       rintro e w' ⟨rfl, hw⟩
       rw [hw, ← HN4.out]
       clear hw w'
       have HK0 : Hid (KL numsG l N4 (a + 1) Pl.sigs tailR (fun p => ((p.ver = V0 ∧ p.par = V1) ∧ L2 = p.secs) ∧ L3 = p.pts) 0 (a + 1) []) := Lib.hid (by
        rw [HN4.out]
        exact k_next fun p hp e => ⟨⟨(HE.out p hp e).1, (HE.out p hp e).2.1⟩, (HE.out p hp e).2.2⟩)
       clear HE
       go_wp2_with fail
       clear hwz
       obtain ⟨b3, hr⟩ : ∃ x, x = a := ⟨_, rfl⟩
       subst hr
       obtain ⟨W3, hr⟩ : ∃ x, x = wy := ⟨_, rfl⟩
       subst hr
       obtain ⟨lo3, hlo⟩ : ∃ n, n = W3.heap.size := ⟨_, rfl⟩
       have HLo3 : Hid (lo3 = W3.heap.size) := Lib.hid hlo
       have HPL3 : Hid (p6 < lo3) := Lib.hid (by rw [hlo]; exact ST.out.lt)
       have HLL3 : Hid (lo ≤ lo3) := Lib.hid (by have h1 := HPL3.out; have h2 := HLO2.out; omega)
       clear hlo LI_wy
       go_loopw [7, 14] (fun s7 s8 wr => ∃ (i a : Nat) (A : Option Addr) (c : Nat) (L : List Sg), s8 = .int .i64 i ∧ s7 = .int .i64 a ∧ i ≤ a ∧ a ≤ n + 10 ∧ KL numsG l N4 (b3 + 1) Pl.sigs tailR (fun p => ((p.ver = V0 ∧ p.par = V1) ∧ L2 = p.secs) ∧ L3 = p.pts) i a L ∧ L.length = i ∧ SigsOwn wr lo3 (.slice A i c) L ∧ PB q wr p6 #[.int .i64 V0, .int .i64 V1, .slice A2 i2 c2, .slice A3 i3 c3, .slice A i c, .slice none 0 0] ∧ Off p6 W3 wr) (fun s7 _ _ => n + 10 - (intOf s7).toNat)
       case atStart => exact ⟨0, b3 + 1, none, 0, [], by go_num, by first | rfl | simp, by omega, by omega, HK0.out, rfl, ListOwn.nil_, ST.out, Off.refl _ _⟩
       case round =>
        obtain ⟨wy, hwy⟩ : ∃ u, u = wr := ⟨_, rfl⟩
        subst hwy
        obtain ⟨i, a, A, c, L, rfl, rfl, hia, han, hk, hln, hso, hpb, hoff⟩ := hrel
        clear ST
        have HK := Lib.hid hk
        have HLN := Lib.hid hln
        have SO := Lib.hid hso
        have ST := Lib.hid hpb
        have OFF := Lib.hid hoff
        have LL : Hid (lo3 ≤ wy.heap.size) := Lib.hid (by rw [HLo3.out]; exact hoff.size)
        clear hk hln hso hpb hoff
        have LI_wy := Lib.hid ((LQ.out.below intR (by rw [← HP6.out]; exact ST.out.b)).more intR ST.out.b.size)
        obtain ⟨c, hc⟩ : ∃ c, c = decide ((i : Int) < N4 ∧ a < n) := ⟨_, rfl⟩
        have HC := Lib.hid hc
        clear hc
        go_upto_region 30 with fail
        go_cut [126] from 118 to 126 (fun s40 wx => s40 = .bool c ∧ wx = wy)
        case first =>
         by_cases h1 : (i : Int) < N4
         rotate_left
         ·have d0 : decide ((i : Int) < N4) = false := decide_eq_false h1
          have HCF : Hid (c = false) := Lib.hid (by rw [HC.out]; exact decide_eq_false fun h => h1 h.1)
          clear h1
          go_wp2_with fail
          go_meet
          exact ⟨by rw [HCF.out], rfl⟩
         have d0 : decide ((i : Int) < N4) = true := decide_eq_true h1
         by_cases h2 : a < n
         rotate_left
         ·have d1 : decide ((a : Int) < n) = false := decide_eq_false (by omega)
          have HCF : Hid (c = false) := Lib.hid (by rw [HC.out]; exact decide_eq_false fun h => h2 h.2)
          have DN : Hid (decide (a < n) = false) := Lib.hid (decide_eq_false h2)
          clear h1 h2
          go_wp2_with fail
          go_meet
          exact ⟨by rw [HCF.out]; first | rfl | rw [DN.out], rfl⟩
         have d1 : decide ((a : Int) < n) = true := decide_eq_true (by omega)
         have HCF : Hid (c = true) := Lib.hid (by rw [HC.out]; exact decide_eq_true ⟨h1, h2⟩)
         have DN : Hid (decide (a < n) = true) := Lib.hid (decide_eq_true h2)
         clear h1 h2
         go_wp2_with fail
         go_meet
         exact ⟨by rw [HCF.out]; first | rfl | rw [DN.out], rfl⟩
        case rest =>
         obtain ⟨rfl, hwc⟩ := hcut
         subst hwc
         obtain ⟨wy, hwy⟩ : ∃ u, u = wc := ⟨_, rfl⟩
         subst hwy
         cases c with
         | false =>
          have HX : Hid (¬ ((i : Int) < N4 ∧ a < l.length)) := Lib.hid (by rw [← HNL.out]; exact of_decide_eq_false HC.out.symm)
          clear HC
          have HE : Hid (∀ p, PlanMay p → numsP p = l → (((p.ver = V0 ∧ p.par = V1) ∧ L2 = p.secs) ∧ L3 = p.pts) ∧ L = p.sigs ∧ l.drop a = tailR p) := Lib.hid (HK.out.fin numsG_ne HX.out)
          clear HK HX
          have F2' := Lib.hid (sects_off F2.out OFF.out HLO.out)
          have F3' : Hid (PointsOwn wy lo (.slice A3 i3 c3) L3) := Lib.hid (own_off (fun _ _ h => joinF h) F3.out OFF.out HLO.out)
          have F4 : Hid (SigsOwn wy lo (.slice A i c) L) := Lib.hid (SO.out.mono HLL3.out)
          clear F2 F3
          have F2 := F2'
          have F3 := F3'
          clear F2' F3' OFF LL
          clear SO
          obtain ⟨A4, hr⟩ : ∃ x, x = A := ⟨_, rfl⟩
          subst hr
          obtain ⟨i4, hr⟩ : ∃ x, x = i := ⟨_, rfl⟩
          subst hr
          obtain ⟨c4, hr⟩ : ∃ x, x = c := ⟨_, rfl⟩
          subst hr
          obtain ⟨L4, hr⟩ : ∃ x, x = L := ⟨_, rfl⟩
          subst hr
          obtain ⟨N5, hN5⟩ : ∃ x, x = l.getD a 0 := ⟨_, rfl⟩
          have HN5 := Lib.hid hN5
          clear hN5
          have hwz : IntKind.i64.wrap ((a : Int) + 1) = ((a + 1 : Nat) : Int) := by rw [wrap_id (by omega) (by omega)]; omega
          go_wp2_with fail
          refine (rnumber_at _ l (a) wy LI_wy.out (by omega) _ (by omega)).mono ?_
          rintro e w' ⟨rfl, hw⟩
          rw [hw, ← HN5.out]
          clear hw w'
          have HK0 : Hid (KL numsR l N5 (a + 1) Pl.routes (fun _ => []) (fun p => (((p.ver = V0 ∧ p.par = V1) ∧ L2 = p.secs) ∧ L3 = p.pts) ∧ L4 = p.sigs) 0 (a + 1) []) := Lib.hid (by
           rw [HN5.out]
           exact k_next fun p hp e => ⟨⟨(HE.out p hp e).1, (HE.out p hp e).2.1⟩, by rw [List.append_nil]; exact (HE.out p hp e).2.2⟩)
          clear HE
          go_wp2_with fail
          clear hwz
          obtain ⟨b4, hr⟩ : ∃ x, x = a := ⟨_, rfl⟩
          subst hr
          obtain ⟨W4, hr⟩ : ∃ x, x = wy := ⟨_, rfl⟩
          subst hr
          obtain ⟨lo4, hlo⟩ : ∃ n, n = W4.heap.size := ⟨_, rfl⟩
          have HLo4 : Hid (lo4 = W4.heap.size) := Lib.hid hlo
          have HPL4 : Hid (p6 < lo4) := Lib.hid (by rw [hlo]; exact ST.out.lt)
          have HLL4 : Hid (lo ≤ lo4) := Lib.hid (by have h1 := HPL4.out; have h2 := HLO2.out; omega)
          clear hlo LI_wy
          go_loopw [7, 15] (fun s7 s8 wr => ∃ (i a : Nat) (A : Option Addr) (c : Nat) (L : List Rt), s8 = .int .i64 i ∧ s7 = .int .i64 a ∧ i ≤ a ∧ a ≤ n + 11 ∧ KL numsR l N5 (b4 + 1) Pl.routes (fun _ => []) (fun p => (((p.ver = V0 ∧ p.par = V1) ∧ L2 = p.secs) ∧ L3 = p.pts) ∧ L4 = p.sigs) i a L ∧ L.length = i ∧ RoutesOwn wr lo4 (.slice A i c) L ∧ PB q wr p6 #[.int .i64 V0, .int .i64 V1, .slice A2 i2 c2, .slice A3 i3 c3, .slice A4 i4 c4, .slice A i c] ∧ Off p6 W4 wr) (fun s7 _ _ => n + 11 - (intOf s7).toNat)
          case atStart => exact ⟨0, b4 + 1, none, 0, [], by go_num, by first | rfl | simp, by omega, by omega, HK0.out, rfl, ListOwn.nil_, ST.out, Off.refl _ _⟩
          case round =>
           obtain ⟨wy, hwy⟩ : ∃ u, u = wr := ⟨_, rfl⟩
           subst hwy
           obtain ⟨i, a, A, c, L, rfl, rfl, hia, han, hk, hln, hso, hpb, hoff⟩ := hrel
           clear ST
           have HK := Lib.hid hk
           have HLN := Lib.hid hln
           have SO := Lib.hid hso
           have ST := Lib.hid hpb
           have OFF := Lib.hid hoff
           have LL : Hid (lo4 ≤ wy.heap.size) := Lib.hid (by rw [HLo4.out]; exact hoff.size)
           clear hk hln hso hpb hoff
           have LI_wy := Lib.hid ((LQ.out.below intR (by rw [← HP6.out]; exact ST.out.b)).more intR ST.out.b.size)
           obtain ⟨c, hc⟩ : ∃ c, c = decide ((i : Int) < N5 ∧ a < n) := ⟨_, rfl⟩
           have HC := Lib.hid hc
           clear hc
           go_upto_region 37 with fail
           go_cut [161] from 153 to 161 (fun s40 wx => s40 = .bool c ∧ wx = wy)
           case first =>
            by_cases h1 : (i : Int) < N5
            rotate_left
            ·have d0 : decide ((i : Int) < N5) = false := decide_eq_false h1
             have HCF : Hid (c = false) := Lib.hid (by rw [HC.out]; exact decide_eq_false fun h => h1 h.1)
             clear h1
             go_wp2_with fail
             go_meet
             exact ⟨by rw [HCF.out], rfl⟩
            have d0 : decide ((i : Int) < N5) = true := decide_eq_true h1
            by_cases h2 : a < n
            rotate_left
            ·have d1 : decide ((a : Int) < n) = false := decide_eq_false (by omega)
             have HCF : Hid (c = false) := Lib.hid (by rw [HC.out]; exact decide_eq_false fun h => h2 h.2)
             have DN : Hid (decide (a < n) = false) := Lib.hid (decide_eq_false h2)
             clear h1 h2
             go_wp2_with fail
             go_meet
             exact ⟨by rw [HCF.out]; first | rfl | rw [DN.out], rfl⟩
            have d1 : decide ((a : Int) < n) = true := decide_eq_true (by omega)
            have HCF : Hid (c = true) := Lib.hid (by rw [HC.out]; exact decide_eq_true ⟨h1, h2⟩)
            have DN : Hid (decide (a < n) = true) := Lib.hid (decide_eq_true h2)
            clear h1 h2
            go_wp2_with fail
            go_meet
            exact ⟨by rw [HCF.out]; first | rfl | rw [DN.out], rfl⟩
           case rest =>
            obtain ⟨rfl, hwc⟩ := hcut
            subst hwc
            obtain ⟨wy, hwy⟩ : ∃ u, u = wc := ⟨_, rfl⟩
            subst hwy
            cases c with
            | false =>
             have HX : Hid (¬ ((i : Int) < N5 ∧ a < l.length)) := Lib.hid (by rw [← HNL.out]; exact of_decide_eq_false HC.out.symm)
             clear HC
             have HE : Hid (∀ p, PlanMay p → numsP p = l → ((((p.ver = V0 ∧ p.par = V1) ∧ L2 = p.secs) ∧ L3 = p.pts) ∧ L4 = p.sigs) ∧ L = p.routes ∧ l.drop a = []) := Lib.hid (HK.out.fin numsR_ne HX.out)
             have F2' := Lib.hid (sects_off F2.out OFF.out HLO.out)
             have F3' : Hid (PointsOwn wy lo (.slice A3 i3 c3) L3) := Lib.hid (own_off (fun _ _ h => joinF h) F3.out OFF.out HLO.out)
             have F4' : Hid (SigsOwn wy lo (.slice A4 i4 c4) L4) := Lib.hid (own_off (fun _ _ h => sigF h) F4.out OFF.out HLO.out)
             have F5 : Hid (RoutesOwn wy lo (.slice A i c) L) := Lib.hid (SO.out.mono' HLL4.out)
             clear F2 F3 F4 HK HX SO OFF LL
             obtain ⟨A5, hr⟩ : ∃ x, x = A := ⟨_, rfl⟩
             subst hr
             obtain ⟨i5, hr⟩ : ∃ x, x = i := ⟨_, rfl⟩
             subst hr
             obtain ⟨c5, hr⟩ : ∃ x, x = c := ⟨_, rfl⟩
             subst hr
             obtain ⟨L5, hr⟩ : ∃ x, x = L := ⟨_, rfl⟩
             subst hr
             obtain ⟨Q, hQ⟩ : ∃ x : Pl, x = ⟨V0, V1, L2, L3, L4, L5⟩ := ⟨_, rfl⟩
             have OW : Hid (PlOwn wy lo (.slice A2 i2 c2) (.slice A3 i3 c3) (.slice A4 i4 c4) (.slice A5 i5 c5) Q) := Lib.hid (by rw [hQ]; exact ⟨F2'.out, F3'.out, F4'.out, F5.out⟩)
             have HQ0 : Hid (Q.ver = V0 ∧ Q.par = V1) := Lib.hid (by rw [hQ]; exact ⟨rfl, rfl⟩)
             have HPA := Lib.hid (parse_by HOK.out HPUT.out (q := Q) (fun p hp e => by
              obtain ⟨⟨⟨⟨⟨h1, h2⟩, h3⟩, h4⟩, h5⟩, h6, -⟩ := HE.out p hp e
              rw [hQ]
              obtain ⟨x1, x2, x3, x4, x5, x6⟩ := p
              simp only at h1 h2 h3 h4 h5 h6
              rw [h1, h2, h3, h4, h5, h6]))
             have PV : Hid (PlanV wy wy.heap.size (.agg #[.int .i64 V0, .int .i64 V1, .slice A2 i2 c2, .slice A3 i3 c3, .slice A4 i4 c4, .slice A5 i5 c5]) Q) := Lib.hid ⟨_, _, _, _, by rw [HQ0.out.1, HQ0.out.2], OW.out.in_⟩
             clear F2' F3' F4' F5 HE hQ
             have XB := Lib.hid ((ST.out.b.block _ P26.out).trans X2q.out)
             have BWY : Hid (Below w.heap.size w wy) := Lib.hid (BW.out.trans (ST.out.b.mono (Nat.le_of_lt P26.out)))
             have LOW : Hid (w.heap.size < lo) := Lib.hid (by have h1 := P26.out; have h2 := HLO.out; omega)
             have HXB : Hid (Txt wy wy.heap.size (.slice A0 nb c0) b) := Lib.hid ((HX_T.out.below BWY.out).more BWY.out.size)
             go_upto_region 42 with fail
             by_cases hm : PlanMay Q
             rotate_left
             ·have HR : Hid (parseE b = 8 ∧ parseP b = zPl) := Lib.hid (HPA.out.2 fun h => hm h.1)
              have HMF := Lib.hid (planMay_false hm)
              clear hm HPA
              refine wp_region_held_drew (S := fun v => Below wy.heap.size wy v) (by kernel_rfl) (Below.refl wy.heap.size wy).drew (fun hHeld => ?_)
              refine tkc 0 hHeld (fun w' hSw => cell6_of ((hSw.block _ ST.out.lt).trans ST.out.x6)) ?_
              refine tkr 1 (fun K hK => ?_)
              go_simp
              refine (rmay8_any _ Q wy.drew ((PV.out.below (Below.refl wy.heap.size wy).drew).more (Below.refl wy.heap.size wy).drew.size)).mono ?_
              rintro e x1 ⟨rfl, hb1⟩
              rw [HMF.out]
              have B1 : Hid (Below wy.heap.size wy x1) := Lib.hid ((Below.refl wy.heap.size wy).drew.trans (hb1.mono (Below.refl wy.heap.size wy).drew.size))
              clear hb1
              try go_wp2_with fail
              refine hK.out _ _ ?_ fun hHeld => ?_;exact B1.out;clear hK K;try simp only [zn, Act.put]
              refine tk 2 hHeld ?_;refine tk 3 hHeld ?_;refine tks 4 hHeld ?_;refine tks 5 hHeld ?_;refine tks 6 hHeld ?_;refine tks 7 hHeld ?_;refine tks 8 hHeld ?_;refine tks 9 hHeld ?_;refine tk 10 hHeld ?_
              refine wpAnyH_done (by kernel_rfl) ?_ _
              have BF := B1
              have XF := Lib.hid ((BF.out.block _ (heap_lt XB.out)).trans XB.out)
              go_wp2_with ((with_reducible show wpList _ _ _ (⟨none, _, _, _, _, _⟩ :: _) _ _); refine wpList_store_rowS rfl _ (.tmp 2) (.tmp 188) rfl w.heap.size rfl (c' := #[.int .i64 0, .int .i64 0, .slice none 0 0, .slice none 0 0, .slice none 0 0, .slice none 0 0]) rfl XF.out infoPlanS rfl (by simp [Value.oneCell']) ?_)
              refine bodyPost_ret (results_rowS_tmp (c := #[.int .i64 0, .int .i64 0, .slice none 0 0, .slice none 0 0, .slice none 0 0, .slice none 0 0]) rfl _ _ w.heap.size rfl (setRow_heap _ _ _ _ _ _ XF.out) Tryz.underlying28 infoPlanS (.int .i64 8) rfl) rfl ?_
              rw [HR.out.1, HR.out.2]
              exact ⟨_, _, _, _, rfl, ⟨ListOwn.nil_, ListOwn.nil_, ListOwn.nil_, ListOwn.nil_⟩, below_setRow (BWY.out.trans (BF.out.mono BWY.out.size)) (Nat.le_refl _) _⟩
             have HMT := Lib.hid (planMay_true hm)
             have HM_ := Lib.hid hm
             by_cases he : textL Q = b
             ·have HR : Hid (parseE b = 0 ∧ parseP b = Q) := Lib.hid (HPA.out.1 ⟨hm, he⟩)
              have HTE := Lib.hid he
              clear hm he HPA
              refine wp_region_held_drew (S := fun v => Below wy.heap.size wy v) (by kernel_rfl) (Below.refl wy.heap.size wy).drew (fun hHeld => ?_)
              refine tkc 0 hHeld (fun w' hSw => cell6_of ((hSw.block _ ST.out.lt).trans ST.out.x6)) ?_
              refine tkr 1 (fun K hK => ?_)
              go_simp
              refine (rmay8_any _ Q wy.drew ((PV.out.below (Below.refl wy.heap.size wy).drew).more (Below.refl wy.heap.size wy).drew.size)).mono ?_
              rintro e x1 ⟨rfl, hb1⟩
              rw [HMT.out]
              have B1 : Hid (Below wy.heap.size wy x1) := Lib.hid ((Below.refl wy.heap.size wy).drew.trans (hb1.mono (Below.refl wy.heap.size wy).drew.size))
              clear hb1
              try go_wp2_with fail
              refine hK.out _ _ ?_ fun hHeld => ?_;exact B1.out;clear hK K;try simp only [zn, Act.put]
              refine tk 2 hHeld ?_;refine tk 3 hHeld ?_;refine tkc 4 hHeld (fun w' hSw => cell6_of ((hSw.block _ ST.out.lt).trans ST.out.x6)) ?_;refine tk 7 hHeld ?_;refine tkc 8 hHeld (fun w' hSw => run_txt_string (HXB.out.below hSw)) ?_
              refine tkr 5 (fun K hK => ?_)
              go_simp
              refine (rwritten_any _ Q x1 ((PV.out.below B1.out).more B1.out.size) HM_.out).mono ?_
              rintro e x2 ⟨u, rfl, hu, hb2⟩
              have B2 : Hid (Below wy.heap.size wy x2) := Lib.hid (B1.out.trans (hb2.mono B1.out.size))
              have UT : Hid (Txt x2 x2.heap.size u (textL Q)) := Lib.hid (hu.txt (by have := (text_len HM_.out).1; unfold maxLen; omega))
              clear hu hb2
              try go_wp2_with fail
              refine hK.out _ _ ?_ fun hHeld => ?_;exact B2.out;clear hK K;try simp only [zn, Act.put]
              refine tkr 6 (fun K hK => ?_)
              rw [if_pos (by rfl)]
              have hc6 := run_txt_string UT.out
              rw [HTE.out] at hc6
              go_simp
              refine hK.out _ _ ?_ fun hHeld => ?_;exact B2.out;clear hK K;try simp only [zn, Act.put]
              refine tk 9 hHeld ?_;refine tk 10 hHeld ?_
              refine wpAnyH_done (by kernel_rfl) ?_ _
              have BF := B2
              have XF := Lib.hid ((BF.out.block _ (heap_lt XB.out)).trans XB.out)
              have SF := Lib.hid (ST.out.below HP6.out BF.out)
              have OF := Lib.hid (OW.out.below BF.out)
              obtain ⟨m0, m1, m2, m3, m4, m5⟩ := cell6_of SF.out.x6
              go_wp2_with ((with_reducible show wpList _ _ _ (⟨none, _, _, _, _, _⟩ :: _) _ _); refine wpList_store_rowS rfl _ (.tmp 2) (.tmp 189) rfl w.heap.size rfl (c' := #[.int .i64 V0, .int .i64 V1, .slice A2 i2 c2, .slice A3 i3 c3, .slice A4 i4 c4, .slice A5 i5 c5]) rfl XF.out infoPlanS rfl (by simp [Value.oneCell']) ?_)
              refine bodyPost_ret (results_rowS_tmp (c := #[.int .i64 V0, .int .i64 V1, .slice A2 i2 c2, .slice A3 i3 c3, .slice A4 i4 c4, .slice A5 i5 c5]) rfl _ _ w.heap.size rfl (setRow_heap _ _ _ _ _ _ XF.out) Tryz.underlying28 infoPlanS (.int .i64 0) rfl) rfl ?_
              rw [HR.out.1, HR.out.2]
              refine ⟨_, _, _, _, by rw [HQ0.out.1, HQ0.out.2], ?_, below_setRow (BWY.out.trans (BF.out.mono BWY.out.size)) (Nat.le_refl _) _⟩
              have hfar := PlOwn.far (W' := x2.setRow w.heap.size #[.int .i64 V0, .int .i64 V1, .slice A2 i2 c2, .slice A3 i3 c3, .slice A4 i4 c4, .slice A5 i5 c5]) OF.out (fun j hj => setRow_other _ _ _ _ (by have := LOW.out; omega)) (by simp)
              have hmn := Nat.le_of_lt LOW.out
              exact ⟨hfar.secs.mono' hmn, hfar.pts.mono hmn, hfar.sigs.mono hmn, hfar.routes.mono' hmn⟩
             ·have HR : Hid (parseE b = 8 ∧ parseP b = zPl) := Lib.hid (HPA.out.2 fun h => he h.2)
              have heqb : (textL Q == b) = false := beq_eq_false_iff_ne.2 he
              clear hm he HPA
              refine wp_region_held_drew (S := fun v => Below wy.heap.size wy v) (by kernel_rfl) (Below.refl wy.heap.size wy).drew (fun hHeld => ?_)
              refine tkc 0 hHeld (fun w' hSw => cell6_of ((hSw.block _ ST.out.lt).trans ST.out.x6)) ?_
              refine tkr 1 (fun K hK => ?_)
              go_simp
              refine (rmay8_any _ Q wy.drew ((PV.out.below (Below.refl wy.heap.size wy).drew).more (Below.refl wy.heap.size wy).drew.size)).mono ?_
              rintro e x1 ⟨rfl, hb1⟩
              rw [HMT.out]
              have B1 : Hid (Below wy.heap.size wy x1) := Lib.hid ((Below.refl wy.heap.size wy).drew.trans (hb1.mono (Below.refl wy.heap.size wy).drew.size))
              clear hb1
              try go_wp2_with fail
              refine hK.out _ _ ?_ fun hHeld => ?_;exact B1.out;clear hK K;try simp only [zn, Act.put]
              refine tk 2 hHeld ?_;refine tk 3 hHeld ?_;refine tkc 4 hHeld (fun w' hSw => cell6_of ((hSw.block _ ST.out.lt).trans ST.out.x6)) ?_;refine tk 7 hHeld ?_;refine tkc 8 hHeld (fun w' hSw => run_txt_string (HXB.out.below hSw)) ?_
              refine tkr 5 (fun K hK => ?_)
              go_simp
              refine (rwritten_any _ Q x1 ((PV.out.below B1.out).more B1.out.size) HM_.out).mono ?_
              rintro e x2 ⟨u, rfl, hu, hb2⟩
              have B2 : Hid (Below wy.heap.size wy x2) := Lib.hid (B1.out.trans (hb2.mono B1.out.size))
              have UT : Hid (Txt x2 x2.heap.size u (textL Q)) := Lib.hid (hu.txt (by have := (text_len HM_.out).1; unfold maxLen; omega))
              clear hu hb2
              try go_wp2_with fail
              refine hK.out _ _ ?_ fun hHeld => ?_;exact B2.out;clear hK K;try simp only [zn, Act.put]
              refine tkr 6 (fun K hK => ?_)
              rw [if_pos (by rfl)]
              have hc6 := run_txt_string UT.out
              go_simp
              refine hK.out _ _ ?_ fun hHeld => ?_;exact B2.out;clear hK K;try simp only [zn, Act.put]
              refine tk 9 hHeld ?_;refine tk 10 hHeld ?_
              refine wpAnyH_done (by kernel_rfl) ?_ _
              have BF := B2
              have XF := Lib.hid ((BF.out.block _ (heap_lt XB.out)).trans XB.out)
              go_wp2_with ((with_reducible show wpList _ _ _ (⟨none, _, _, _, _, _⟩ :: _) _ _); refine wpList_store_rowS rfl _ (.tmp 2) (.tmp 188) rfl w.heap.size rfl (c' := #[.int .i64 0, .int .i64 0, .slice none 0 0, .slice none 0 0, .slice none 0 0, .slice none 0 0]) rfl XF.out infoPlanS rfl (by simp [Value.oneCell']) ?_)
              refine bodyPost_ret (results_rowS_tmp (c := #[.int .i64 0, .int .i64 0, .slice none 0 0, .slice none 0 0, .slice none 0 0, .slice none 0 0]) rfl _ _ w.heap.size rfl (setRow_heap _ _ _ _ _ _ XF.out) Tryz.underlying28 infoPlanS (.int .i64 8) rfl) rfl ?_
              rw [HR.out.1, HR.out.2]
              exact ⟨_, _, _, _, rfl, ⟨ListOwn.nil_, ListOwn.nil_, ListOwn.nil_, ListOwn.nil_⟩, below_setRow (BWY.out.trans (BF.out.mono BWY.out.size)) (Nat.le_refl _) _⟩
            | true =>
             obtain ⟨h1, h2⟩ : ((i : Int) < N5 ∧ a < n) := of_decide_eq_true HC.out.symm
             clear HC
             have H1 : Hid ((i : Int) < N5) := Lib.hid h1
             have HAL : Hid (a < l.length) := Lib.hid (by rw [← HNL.out]; exact h2)
             have HNX := Lib.hid (rdN_le HAL.out)
             go_wp2_with fail
             refine (rroute12_any _ l a wy LI_wy.out (by rw [← HNL.out]; exact hn4) HAL.out _ rfl).mono ?_
             rintro e u1 ⟨v3, v4, v5, rfl, hro, hb⟩
             obtain ⟨X, hX⟩ : ∃ x, x = rdR l a := ⟨_, rfl⟩
             obtain ⟨a', ha'⟩ : ∃ x, x = rdN l a := ⟨_, rfl⟩
             rw [← hX] at hro ⊢
             rw [← ha'] at HNX ⊢
             have HX_ := Lib.hid hX
             have HA_ := Lib.hid ha'
             obtain ⟨P3, q3, rfl⟩ := hro.path.slice
             obtain ⟨P4, q4, rfl⟩ := hro.over.slice
             obtain ⟨P5, q5, rfl⟩ := hro.flanks.slice
             have RO := Lib.hid hro
             have BU := Lib.hid hb
             have hnx : a < a' ∧ a' ≤ n + 8 := by have := HNX.out; rw [← HNL.out] at this; exact this
             clear hro hb hX ha' HNX
             have XX0 := heap_alloc_self u1 (.cells #[.int .i64 0, .int .i64 0, .int .i64 0, .slice none 0 0, .slice none 0 0, .slice none 0 0, .int .i64 0] 44)
             have hb5 := below_setRow (below_new u1 (.cells #[.int .i64 0, .int .i64 0, .int .i64 0, .slice none 0 0, .slice none 0 0, .slice none 0 0, .int .i64 0] 44)) (Nat.le_refl _) #[.int .i64 X.id, .int .i64 X.entry, .int .i64 X.exit, .slice P3 X.path.length q3, .slice P4 X.over.length q4, .slice P5 X.flanks.length q5, .int .i64 X.timer]
             have hx5 := setRow_heap (u1.alloc (.cells #[.int .i64 0, .int .i64 0, .int .i64 0, .slice none 0 0, .slice none 0 0, .slice none 0 0, .int .i64 0] 44)) u1.heap.size _ #[.int .i64 X.id, .int .i64 X.entry, .int .i64 X.exit, .slice P3 X.path.length q3, .slice P4 X.over.length q4, .slice P5 X.flanks.length q5, .int .i64 X.timer] 44 _ XX0
             go_upto_region 40 with ((with_reducible show wpList _ _ _ (⟨none, _, _, _, _, _⟩ :: _) _ _); refine wpList_store_rowS rfl _ (.tmp 16) (.tmp 168) rfl u1.heap.size rfl (c' := #[.int .i64 X.id, .int .i64 X.entry, .int .i64 X.exit, .slice P3 X.path.length q3, .slice P4 X.over.length q4, .slice P5 X.flanks.length q5, .int .i64 X.timer]) rfl XX0 infoRoute7 rfl (by simp [Value.oneCell']) ?_)
             generalize (u1.alloc (.cells #[.int .i64 0, .int .i64 0, .int .i64 0, .slice none 0 0, .slice none 0 0, .slice none 0 0, .int .i64 0] 44)).setRow u1.heap.size #[.int .i64 X.id, .int .i64 X.entry, .int .i64 X.exit, .slice P3 X.path.length q3, .slice P4 X.over.length q4, .slice P5 X.flanks.length q5, .int .i64 X.timer] = u2 at hb5 hx5 ⊢
             have X16 := Lib.hid hx5
             have BU2 : Hid (Below wy.heap.size wy u2) := Lib.hid (BU.out.trans (hb5.mono BU.out.size))
             have RO2 := Lib.hid (RO.out.below hb5)
             have SZ := Lib.hid (ST.out.below HP6.out BU2.out)
             clear XX0 hb5 hx5 BU RO
             obtain ⟨i0, hii, hz0, hzz, hz2⟩ := info_parts infoRouteI
             have I0 := Lib.hid hii
             have I1 := Lib.hid hz0
             have I2 := Lib.hid hzz
             have I3 := Lib.hid hz2
             clear hii hz0 hzz hz2
             obtain ⟨yss, hown, hyl, hm_, hys, hyr⟩ := SO.out
             rw [HLN.out] at hown
             have OSy := Lib.hid hown
             have OS := Lib.hid (owns_below hown BU2.out)
             have YL : Hid (yss.length = i) := Lib.hid (by rw [hyl]; exact HLN.out)
             have YS := Lib.hid hys
             have YR := Lib.hid hyr
             clear hown hyl hm_ hys hyr
             obtain ⟨m0, m1, m2, m3, m4, m5, m6⟩ := cell7_of X16.out
             obtain ⟨k0, k1, k2, k3, k4, k5⟩ := cell6_of SZ.out.x6
             have LZ : Hid (lo4 ≤ u2.heap.size) := Lib.hid (Nat.le_trans LL.out BU2.out.size)
             go_upto_region 41 with ((with_reducible show wpList _ _ _ (⟨some 174, _, _, _, _, _⟩ :: _) _ _); refine wpList_append_listK rfl (.tmp 171) (.tmp 173) _ rfl Tryz.underlying26 I0.out I1.out rfl I2.out (by decide) I3.out (by decide) rfl (owns_below OS.out ((Below.refl u2.heap.size u2).alloc (Nat.le_refl _) _)) rfl (m := 1) (news := [.int .i64 X.id, .int .i64 X.entry, .int .i64 X.exit, .slice P3 X.path.length q3, .slice P4 X.over.length q4, .slice P5 X.flanks.length q5, .int .i64 X.timer]) rfl (fun h => by cases h) (fun a ha j u hj => by cases ha; rw [Addr.add_lit, Nat.zero_add, World.cell?_alloc_new]; simpa using hj) (by simp [Value.oneCell']) (by omega) (by have := LZ.out; simp; omega) ?_; intro z5 x5 hown5 hgrow5; obtain ⟨A5, c5, rfl⟩ := own_sliceN hown5; have OW5 := Lib.hid hown5; have GR5 := Lib.hid hgrow5; have BL5 : Hid (Below lo4 u2 x5) := Lib.hid (((Below.refl lo4 u2).alloc LZ.out _).grown hgrow5 (by have := LZ.out; simp; omega) (own_ge OS.out)); clear hown5 hgrow5; obtain ⟨cw0, cw1, cw2, cw3, cw4, cw5⟩ := cell6_of ((BL5.out.block p6 HPL4.out).trans SZ.out.x6); have fw := frozen2_of ((BL5.out.block p6 HPL4.out).trans SZ.out.x6) 5)
             have S6 : RoutesOwn x5 lo4 (.slice A5 (i + 1) c5) (L ++ [X]) := routes_snoc (W := wy) (w1 := u2) (r := X) (o := .cells #[.int .i64 X.id, .int .i64 X.entry, .int .i64 X.exit, .slice P3 X.path.length q3, .slice P4 X.over.length q4, .slice P5 X.flanks.length q5, .int .i64 X.timer] 44) HLN.out OSy.out YL.out YS.out (by unfold maxLen; omega) YR.out LL.out BU2.out RO2.out OW5.out GR5.out
             have tS := (PlOwn.set (p := ⟨0, 0, [], [], [], _⟩) ⟨ListOwn.nil_, ListOwn.nil_, ListOwn.nil_, S6⟩ HPL4.out 5 (.slice A5 (i + 1) c5)).routes
             have tP : PB q (x5.setCell ⟨p6, 5, none⟩ (.slice A5 (i + 1) c5)) p6 #[.int .i64 V0, .int .i64 V1, .slice A2 i2 c2, .slice A3 i3 c3, .slice A4 i4 c4, .slice A5 (i + 1) c5] := (SZ.out.loB BL5.out HPL4.out).set 5 _
             have tF : Off p6 W4 (x5.setCell ⟨p6, 5, none⟩ (.slice A5 (i + 1) c5)) := ((OFF.out.below BU2.out OFF.out.size).below BL5.out (by rw [HLo4.out]; exact Nat.le_refl _)).set 5 _
             generalize x5.setCell ⟨p6, 5, none⟩ (.slice A5 (i + 1) c5) = wF at tS tP tF ⊢
             have TS := Lib.hid tS
             have TP := Lib.hid tP
             have TF := Lib.hid tF
             have NK : Hid (KL numsR l N5 (b4 + 1) Pl.routes (fun _ => []) (fun p => (((p.ver = V0 ∧ p.par = V1) ∧ L2 = p.secs) ∧ L3 = p.pts) ∧ L4 = p.sigs) (i + 1) a' (L ++ [X])) := Lib.hid (HK.out.step H1.out fun p hp s r' hs hd => by
              have h := k_route p hp s r' hs hd
              rw [← HX_.out, ← HA_.out] at h
              exact h)
             clear S6 tS tP tF BL5 OW5 GR5 cw0 cw1 cw2 cw3 cw4 cw5 fw m0 m1 m2 m3 m4 m5 m6 k0 k1 k2 k3 k4 k5
             go_wp2_with fail
             go_roundw
             case measure => simp [intOf]; omega
             case rel => exact ⟨i + 1, a', A5, c5, _, by go_num, rfl, by omega, by omega, NK.out, by rw [List.length_append, HLN.out]; rfl, TS.out, TP.out, TF.out⟩
         | true =>
          obtain ⟨h1, h2⟩ : ((i : Int) < N4 ∧ a < n) := of_decide_eq_true HC.out.symm
          clear HC
          obtain ⟨f0, hf0⟩ : ∃ x, x = l.getD (a) 0 := ⟨_, rfl⟩
          have Hf0 := Lib.hid hf0
          clear hf0
          obtain ⟨f1, hf1⟩ : ∃ x, x = l.getD (a + 1) 0 := ⟨_, rfl⟩
          have Hf1 := Lib.hid hf1
          clear hf1
          obtain ⟨f2, hf2⟩ : ∃ x, x = l.getD (a + 2) 0 := ⟨_, rfl⟩
          have Hf2 := Lib.hid hf2
          clear hf2
          have hwb1 : IntKind.i64.wrap ((a : Int) + 1) = (a : Int) + 1 := wrap_id (by omega) (by omega)
          have hwb2 : IntKind.i64.wrap ((a : Int) + 2) = (a : Int) + 2 := wrap_id (by omega) (by omega)
          have hwb3 : IntKind.i64.wrap ((a : Int) + 3) = (a : Int) + 3 := wrap_id (by omega) (by omega)
          have H1 : Hid ((i : Int) < N4) := Lib.hid h1
          obtain ⟨i0, hii, hz0, hzz, hz2⟩ := info_parts infoSigI
          have I0 := Lib.hid hii
          have I1 := Lib.hid hz0
          have I2 := Lib.hid hzz
          have I3 := Lib.hid hz2
          clear hii hz0 hzz hz2
          obtain ⟨m0, m1, m2, m3, m4, m5⟩ := cell6_of ST.out.x6
          go_upto_region 32 with fail
          clear m0 m1 m2 m3 m4 m5
          refine wp_region_end (S := fun v' => Below lo3 wy v') 17 (by kernel_rfl) (Below.refl lo3 wy).drew (fun hHeld => ?_)
          refine tke [1, 15, 17] 0 hHeld ?_;refine tkd [15, 17] 1 hHeld (fun w' hSw => cell6_of ((hSw.block _ HPL3.out).trans ST.out.x6)) ?_;refine tke [4, 13, 14, 15, 17] 2 hHeld ?_;refine tke [4, 13, 14, 15, 17] 3 hHeld ?_;refine tke [8, 13, 14, 15, 17] 5 hHeld ?_;refine tke [7, 8, 13, 14, 15, 17] 6 hHeld ?_;refine tke [8, 13, 14, 15, 17] 7 hHeld ?_;refine tke [12, 13, 14, 15, 17] 9 hHeld ?_;refine tke [11, 12, 13, 14, 15, 17] 10 hHeld ?_;refine tke [12, 13, 14, 15, 17] 11 hHeld ?_
          refine wpAnyE_one (i := 4) (by kernel_rfl) rfl (by kernel_rfl) (fun K hK => ?_)
          go_simp
          refine (rnumber_at _ l (a) wy.drew ((LI_wy.out.below intR (Below.refl wy.heap.size wy).drew).more intR (Below.refl wy.heap.size wy).drew.size) (by omega) _ (by omega)).mono ?_
          rintro e w' ⟨rfl, hw⟩
          rw [hw, ← Hf0.out]
          clear hw w'
          try go_wp2_with fail
          refine hK.out _ _ ?_ fun hHeld => ?_;exact (Below.refl lo3 wy).drew;clear hK K;try simp only [zn, Act.put]
          refine wpAnyE_one (i := 8) (by kernel_rfl) rfl (by kernel_rfl) (fun K hK => ?_)
          go_simp
          refine (rnumber_at _ l (a + 1) wy.drew ((LI_wy.out.below intR (Below.refl wy.heap.size wy).drew).more intR (Below.refl wy.heap.size wy).drew.size) (by omega) _ (by omega)).mono ?_
          rintro e w' ⟨rfl, hw⟩
          rw [hw, ← Hf1.out]
          clear hw w'
          try go_wp2_with fail
          refine hK.out _ _ ?_ fun hHeld => ?_;exact (Below.refl lo3 wy).drew;clear hK K;try simp only [zn, Act.put]
          refine wpAnyE_one (i := 12) (by kernel_rfl) rfl (by kernel_rfl) (fun K hK => ?_)
          go_simp
          refine (rnumber_at _ l (a + 2) wy.drew ((LI_wy.out.below intR (Below.refl wy.heap.size wy).drew).more intR (Below.refl wy.heap.size wy).drew.size) (by omega) _ (by omega)).mono ?_
          rintro e w' ⟨rfl, hw⟩
          rw [hw, ← Hf2.out]
          clear hw w'
          try go_wp2_with fail
          refine hK.out _ _ ?_ fun hHeld => ?_;exact (Below.refl lo3 wy).drew;clear hK K;try simp only [zn, Act.put]
          refine tke [14, 15, 17] 13 hHeld ?_
          refine wpAnyE_one (i := 14) (by kernel_rfl) rfl (by kernel_rfl) (fun K hK => ?_)
          go_simp
          refine hK.out _ _ ?_ fun hHeld => ?_;exact ((Below.refl lo3 wy).drew.alloc LL.out _);clear hK K;try simp only [zn, Act.put]
          refine wpAnyE_one (i := 15) (by kernel_rfl) rfl (by kernel_rfl) (fun K hK => ?_)
          rw [if_pos (by rfl)]
          refine wp_append_flat (T := 59) (tS := 25) (sz := 3) (bytes := 24) (R := SigR) (.tmp 130) (.tmp 143) rfl sigF (fun _ _ => sigR_cells) (fun _ _ => sigR_full) Tryz.underlying25 I0.out I1.out rfl I2.out (by decide) I3.out (by decide) (lo := lo3) rfl (SO.out.below sigR ((Below.refl wy.heap.size wy).drew.alloc (Nat.le_refl _) _)) HLN.out.symm rfl (elem_alloc (T := 59) (row := [.int .i64 f0, .int .i64 f1, .int .i64 f2]) (x := (f0, f1, f2)) (fun _ _ => sigR_cells) ⟨rfl, rfl, rfl⟩) (i + 1) rfl (by omega) (by have := LL.out; simp; omega) ?_
          intro AE cE wE hoE hbE hkE
          have OE := Lib.hid hoE
          have BE : Hid (Below lo3 wy wE) := Lib.hid (((Below.refl lo3 wy).drew.alloc LL.out _).trans hbE)
          obtain ⟨cw0, cw1, cw2, cw3, cw4, cw5⟩ := cell6_of ((BE.out.block p6 HPL3.out).trans ST.out.x6)
          have fw := frozen2_of ((BE.out.block p6 HPL3.out).trans ST.out.x6) 4
          clear hoE hbE hkE
          refine hK.out _ _ ?_ fun hHeld => ?_;exact BE.out;clear hK K;try simp only [zn, Act.put]
          refine tke [17] 16 hHeld ?_
          refine wpAnyE_last (by kernel_rfl) rfl (by kernel_rfl) (fun K hK => ?_)
          rw [if_pos (by rfl)]
          go_simp
          refine hK.out _ _ ?_
          clear hK K
          have RS : Hid (rdG l a = (f0, f1, f2)) := Lib.hid (by rw [rdG, ← Hf0.out, ← Hf1.out, ← Hf2.out])
          have NK : Hid (KL numsG l N4 (b3 + 1) Pl.sigs tailR (fun p => ((p.ver = V0 ∧ p.par = V1) ∧ L2 = p.secs) ∧ L3 = p.pts) (i + 1) (a + 3) (L ++ [(f0, f1, f2)])) := Lib.hid (HK.out.step H1.out fun p hp s r' hs hd => by
           have h := k_sig p hp s r' hs hd
           rw [RS.out] at h
           exact h)
          have tP : PB q (wE.setCell ⟨p6, 4, none⟩ (.slice AE (i + 1) cE)) p6 #[.int .i64 V0, .int .i64 V1, .slice A2 i2 c2, .slice A3 i3 c3, .slice AE (i + 1) cE, .slice none 0 0] := (ST.out.loB BE.out HPL3.out).set 4 _
          have tO : SigsOwn (wE.setCell ⟨p6, 4, none⟩ (.slice AE (i + 1) cE)) lo3 (.slice AE (i + 1) cE) (L ++ [(f0, f1, f2)]) := own_kept sigF OE.out (grown_setK wE p6 4 _) (fun g hg => by have h1 := own_lo OE.out g hg; have h2 := HPL3.out; omega)
          have tF : Off p6 W3 (wE.setCell ⟨p6, 4, none⟩ (.slice AE (i + 1) cE)) := (OFF.out.below BE.out (by rw [HLo3.out]; exact Nat.le_refl _)).set 4 _
          generalize wE.setCell ⟨p6, 4, none⟩ (.slice AE (i + 1) cE) = wF at tP tO tF ⊢
          have TP := Lib.hid tP
          have TO := Lib.hid tO
          have TF := Lib.hid tF
          clear tP tO tF OE BE cw0 cw1 cw2 cw3 cw4 cw5 fw
          go_wp2_with fail
          go_roundw
          case measure => simp [intOf]; omega
          case rel => exact ⟨i + 1, a + 3, AE, cE, _, by go_num, by first | rfl | simp, by omega, by omega, NK.out, by rw [List.length_append, HLN.out]; rfl, TO.out, TP.out, TF.out⟩
      | true =>
       obtain ⟨h1, h2⟩ : ((i : Int) < N3 ∧ a < n) := of_decide_eq_true HC.out.symm
       clear HC
       obtain ⟨f0, hf0⟩ : ∃ x, x = l.getD (a) 0 := ⟨_, rfl⟩
       have Hf0 := Lib.hid hf0
       clear hf0
       obtain ⟨f1, hf1⟩ : ∃ x, x = l.getD (a + 1) 0 := ⟨_, rfl⟩
       have Hf1 := Lib.hid hf1
       clear hf1
       have hwb1 : IntKind.i64.wrap ((a : Int) + 1) = (a : Int) + 1 := wrap_id (by omega) (by omega)
       have hwb2 : IntKind.i64.wrap ((a : Int) + 2) = (a : Int) + 2 := wrap_id (by omega) (by omega)
       have H1 : Hid ((i : Int) < N3) := Lib.hid h1
       obtain ⟨i0, hii, hz0, hzz, hz2⟩ := info_parts infoPointI
       have I0 := Lib.hid hii
       have I1 := Lib.hid hz0
       have I2 := Lib.hid hzz
       have I3 := Lib.hid hz2
       clear hii hz0 hzz hz2
       obtain ⟨m0, m1, m2, m3, m4, m5⟩ := cell6_of ST.out.x6
       go_upto_region 25 with fail
       clear m0 m1 m2 m3 m4 m5
       refine wp_region_end (S := fun v' => Below lo2 wy v') 13 (by kernel_rfl) (Below.refl lo2 wy).drew (fun hHeld => ?_)
       refine tke [1, 11, 13] 0 hHeld ?_;refine tkd [11, 13] 1 hHeld (fun w' hSw => cell6_of ((hSw.block _ HPL2.out).trans ST.out.x6)) ?_;refine tke [4, 9, 10, 11, 13] 2 hHeld ?_;refine tke [4, 9, 10, 11, 13] 3 hHeld ?_;refine tke [8, 9, 10, 11, 13] 5 hHeld ?_;refine tke [7, 8, 9, 10, 11, 13] 6 hHeld ?_;refine tke [8, 9, 10, 11, 13] 7 hHeld ?_
       refine wpAnyE_one (i := 4) (by kernel_rfl) rfl (by kernel_rfl) (fun K hK => ?_)
       go_simp
       refine (rnumber_at _ l (a) wy.drew ((LI_wy.out.below intR (Below.refl wy.heap.size wy).drew).more intR (Below.refl wy.heap.size wy).drew.size) (by omega) _ (by omega)).mono ?_
       rintro e w' ⟨rfl, hw⟩
       rw [hw, ← Hf0.out]
       clear hw w'
       try go_wp2_with fail
       refine hK.out _ _ ?_ fun hHeld => ?_;exact (Below.refl lo2 wy).drew;clear hK K;try simp only [zn, Act.put]
       refine wpAnyE_one (i := 8) (by kernel_rfl) rfl (by kernel_rfl) (fun K hK => ?_)
       go_simp
       refine (rnumber_at _ l (a + 1) wy.drew ((LI_wy.out.below intR (Below.refl wy.heap.size wy).drew).more intR (Below.refl wy.heap.size wy).drew.size) (by omega) _ (by omega)).mono ?_
       rintro e w' ⟨rfl, hw⟩
       rw [hw, ← Hf1.out]
       clear hw w'
       try go_wp2_with fail
       refine hK.out _ _ ?_ fun hHeld => ?_;exact (Below.refl lo2 wy).drew;clear hK K;try simp only [zn, Act.put]
       refine tke [10, 11, 13] 9 hHeld ?_
       refine wpAnyE_one (i := 10) (by kernel_rfl) rfl (by kernel_rfl) (fun K hK => ?_)
       go_simp
       refine hK.out _ _ ?_ fun hHeld => ?_;exact ((Below.refl lo2 wy).drew.alloc LL.out _);clear hK K;try simp only [zn, Act.put]
       refine wpAnyE_one (i := 11) (by kernel_rfl) rfl (by kernel_rfl) (fun K hK => ?_)
       rw [if_pos (by rfl)]
       refine wp_append_flat (T := 57) (tS := 24) (sz := 2) (bytes := 16) (R := JoinR) (.tmp 99) (.tmp 108) rfl joinF (fun _ _ => joinR_cells) (fun _ _ => joinR_full) Tryz.underlying24 I0.out I1.out rfl I2.out (by decide) I3.out (by decide) (lo := lo2) rfl (SO.out.below joinR ((Below.refl wy.heap.size wy).drew.alloc (Nat.le_refl _) _)) HLN.out.symm rfl (elem_alloc (T := 57) (row := [.int .i64 f0, .int .i64 f1]) (x := (f0, f1)) (fun _ _ => joinR_cells) ⟨rfl, rfl⟩) (i + 1) rfl (by omega) (by have := LL.out; simp; omega) ?_
       intro AE cE wE hoE hbE hkE
       have OE := Lib.hid hoE
       have BE : Hid (Below lo2 wy wE) := Lib.hid (((Below.refl lo2 wy).drew.alloc LL.out _).trans hbE)
       obtain ⟨cw0, cw1, cw2, cw3, cw4, cw5⟩ := cell6_of ((BE.out.block p6 HPL2.out).trans ST.out.x6)
       have fw := frozen2_of ((BE.out.block p6 HPL2.out).trans ST.out.x6) 3
       clear hoE hbE hkE
       refine hK.out _ _ ?_ fun hHeld => ?_;exact BE.out;clear hK K;try simp only [zn, Act.put]
       refine tke [13] 12 hHeld ?_
       refine wpAnyE_last (by kernel_rfl) rfl (by kernel_rfl) (fun K hK => ?_)
       rw [if_pos (by rfl)]
       go_simp
       refine hK.out _ _ ?_
       clear hK K
       have RS : Hid (rdP l a = (f0, f1)) := Lib.hid (by rw [rdP, ← Hf0.out, ← Hf1.out])
       have NK : Hid (KL numsJ l N3 (b2 + 1) Pl.pts tailG (fun p => (p.ver = V0 ∧ p.par = V1) ∧ L2 = p.secs) (i + 1) (a + 2) (L ++ [(f0, f1)])) := Lib.hid (HK.out.step H1.out fun p hp s r' hs hd => by
        have h := k_pt p hp s r' hs hd
        rw [RS.out] at h
        exact h)
       have tP : PB q (wE.setCell ⟨p6, 3, none⟩ (.slice AE (i + 1) cE)) p6 #[.int .i64 V0, .int .i64 V1, .slice A2 i2 c2, .slice AE (i + 1) cE, .slice none 0 0, .slice none 0 0] := (ST.out.loB BE.out HPL2.out).set 3 _
       have tO : PointsOwn (wE.setCell ⟨p6, 3, none⟩ (.slice AE (i + 1) cE)) lo2 (.slice AE (i + 1) cE) (L ++ [(f0, f1)]) := own_kept joinF OE.out (grown_setK wE p6 3 _) (fun g hg => by have h1 := own_lo OE.out g hg; have h2 := HPL2.out; omega)
       have tF : Off p6 W2 (wE.setCell ⟨p6, 3, none⟩ (.slice AE (i + 1) cE)) := (OFF.out.below BE.out (by rw [HLo2.out]; exact Nat.le_refl _)).set 3 _
       generalize wE.setCell ⟨p6, 3, none⟩ (.slice AE (i + 1) cE) = wF at tP tO tF ⊢
       have TP := Lib.hid tP
       have TO := Lib.hid tO
       have TF := Lib.hid tF
       clear tP tO tF OE BE cw0 cw1 cw2 cw3 cw4 cw5 fw
       go_wp2_with fail
       go_roundw
       case measure => simp [intOf]; omega
       case rel => exact ⟨i + 1, a + 2, AE, cE, _, by go_num, by first | rfl | simp, by omega, by omega, NK.out, by rw [List.length_append, HLN.out]; rfl, TO.out, TP.out, TF.out⟩
   | true =>
    obtain ⟨h1, h2⟩ : ((i : Int) < N2 ∧ a < n) := of_decide_eq_true HC.out.symm
    clear HC
    obtain ⟨e0, he0⟩ : ∃ x, x = l.getD a 0 := ⟨_, rfl⟩
    have He0 := Lib.hid he0
    clear he0
    obtain ⟨e1, he1⟩ : ∃ x, x = l.getD (a + 1) 0 := ⟨_, rfl⟩
    have He1 := Lib.hid he1
    clear he1
    have hwb : IntKind.i64.wrap ((a : Int) + 1) = (a : Int) + 1 := wrap_id (by omega) (by omega)
    go_wp2_with fail
    refine (rnumber_at _ l (a) wy LI_wy.out (by omega) _ (by omega)).mono ?_
    rintro e w' ⟨rfl, hw⟩
    rw [hw, ← He0.out]
    clear hw w'
    go_wp2_with fail
    refine (rnumber_at _ l (a + 1) wy LI_wy.out (by omega) _ (by omega)).mono ?_
    rintro e w' ⟨rfl, hw⟩
    rw [hw, ← He1.out]
    clear hw w'
    have XX0 := heap_alloc_self wy (.cells #[.int .i64 0, .int .i64 0, .slice none 0 0] 63)
    have hb5 := below_setRow (below_new wy (.cells #[.int .i64 0, .int .i64 0, .slice none 0 0] 63)) (Nat.le_refl _) #[.int .i64 e0, .int .i64 e1, .slice none 0 0]
    have hx5 := setRow_heap (wy.alloc (.cells #[.int .i64 0, .int .i64 0, .slice none 0 0] 63)) wy.heap.size _ #[.int .i64 e0, .int .i64 e1, .slice none 0 0] 63 _ XX0
    go_upto_region 10 with ((with_reducible show wpList _ _ _ (⟨none, _, _, _, _, _⟩ :: _) _ _); refine wpList_store_rowS rfl _ (.tmp 9) (.tmp 50) rfl wy.heap.size rfl (c' := #[.int .i64 e0, .int .i64 e1, .slice none 0 0]) rfl XX0 infoSecS rfl (by simp [Value.oneCell']) ?_)
    generalize (wy.alloc (.cells #[.int .i64 0, .int .i64 0, .slice none 0 0] 63)).setRow wy.heap.size #[.int .i64 e0, .int .i64 e1, .slice none 0 0] = u1 at hb5 hx5 ⊢
    obtain ⟨p9, hp9⟩ : ∃ n, n = wy.heap.size := ⟨_, rfl⟩
    rw [← hp9] at hx5 ⊢
    have P9 := Lib.hid hp9
    have X9 := Lib.hid hx5
    have B9 := Lib.hid hb5
    clear XX0 hb5 hx5 hp9 hwb
    obtain ⟨m0, m1, m2⟩ := cell3_of X9.out
    have hw2 : IntKind.i64.wrap ((a : Int) + 2) = (a : Int) + 2 := wrap_id (by omega) (by omega)
    have H1 : Hid ((i : Int) < N2) := Lib.hid h1
    by_cases hpt : 0 < e1
    ·have HPT := Lib.hid hpt
     have dp : decide (0 < e1) = true := decide_eq_true hpt
     clear hpt
     go_upto_region 14 with fail
     clear m0 m1 m2
     go_wp2_with fail
     clear hw2
     go_loopw [7, 11] (fun s7 s11 wr => ∃ (k : Nat) (A9 : Option Addr) (c9 : Nat), s11 = .int .i64 k ∧ s7 = .int .i64 ((a : Int) + 2 + 2 * k) ∧ k ≤ 3 ∧ JoinsOwn wr (p9 + 1) (.slice A9 k c9) (rdJ l (a + 2) k) ∧ wr.heap[p9]? = some (.cells #[.int .i64 e0, .int .i64 e1, .slice A9 k c9] 63 (0, 0)) ∧ Below p9 wy wr) (fun _ s11 _ => 3 - (intOf s11).toNat)
     case atStart => exact ⟨0, none, 0, by go_num, by simp, by omega, ListOwn.nil_, X9.out, by rw [P9.out]; exact B9.out⟩
     case round =>
      obtain ⟨wz, hwz⟩ : ∃ u, u = wr := ⟨_, rfl⟩
      subst hwz
      obtain ⟨k, A9, c9, rfl, rfl, hk, hoj, hx, hb⟩ := hrel
      have OJ := Lib.hid hoj
      have X := Lib.hid hx
      have BZ := Lib.hid hb
      have BZ' : Hid (Below wy.heap.size wy wz) := Lib.hid (by rw [← P9.out]; exact hb)
      have LZ : Hid (p9 + 1 ≤ wz.heap.size) := Lib.hid (heap_lt hx)
      have SZ := Lib.hid (ST.out.below HP6.out BZ'.out)
      have SOz := Lib.hid (SO.out.below (secO_ lo) BZ'.out)
      clear hoj hx hb
      have LI_wz := Lib.hid ((LQ.out.below intR (by rw [← HP6.out]; exact SZ.out.b)).more intR SZ.out.b.size)
      obtain ⟨m0, m1, m2⟩ := cell3_of X.out
      by_cases hlk : k < 3
      ·have hlk' : (k : Int) < 3 := by omega
       have hwb : IntKind.i64.wrap ((a : Int) + 2 + 2 * k + 1) = (a : Int) + 2 + 2 * k + 1 := wrap_id (by omega) (by omega)
       have hwc : IntKind.i64.wrap ((a : Int) + 2 + 2 * k + 2) = (a : Int) + 2 + 2 * (k + 1 : Nat) := by rw [wrap_id (by omega) (by omega)]; omega
       obtain ⟨f0, hf0⟩ : ∃ x, x = l.getD (a + 2 + 2 * k) 0 := ⟨_, rfl⟩
       have Hf0 := Lib.hid hf0
       clear hf0
       obtain ⟨f1, hf1⟩ : ∃ x, x = l.getD (a + 2 + 2 * k + 1) 0 := ⟨_, rfl⟩
       have Hf1 := Lib.hid hf1
       clear hf1
       obtain ⟨i0, hii, hz0, hzz, hz2⟩ := info_parts infoJoin
       have I0 := Lib.hid hii
       have I1 := Lib.hid hz0
       have I2 := Lib.hid hzz
       have I3 := Lib.hid hz2
       clear hii hz0 hzz hz2
       go_upto_region 17 with fail
       clear m0 m1 m2
       refine wp_region_end (S := fun v' => Below (p9 + 1) wz v') 13 (by kernel_rfl) (Below.refl (p9 + 1) wz).drew (fun hHeld => ?_)
       refine tke [1, 11, 13] 0 hHeld ?_;refine tkd [11, 13] 1 hHeld (fun w' hSw => cell3_of ((hSw.block _ (Nat.lt_succ_self p9)).trans X.out)) ?_;refine tke [4, 9, 10, 11, 13] 2 hHeld ?_;refine tke [4, 9, 10, 11, 13] 3 hHeld ?_;refine tke [8, 9, 10, 11, 13] 5 hHeld ?_;refine tke [7, 8, 9, 10, 11, 13] 6 hHeld ?_;refine tke [8, 9, 10, 11, 13] 7 hHeld ?_
       refine wpAnyE_one (i := 4) (by kernel_rfl) rfl (by kernel_rfl) (fun K hK => ?_)
       go_simp
       refine (rnumber_at _ l (a + 2 + 2 * k) wz.drew ((LI_wz.out.below intR (Below.refl wz.heap.size wz).drew).more intR (Below.refl wz.heap.size wz).drew.size) (by omega) _ (by omega)).mono ?_
       rintro e w' ⟨rfl, hw⟩
       rw [hw, ← Hf0.out]
       clear hw w'
       try go_wp2_with fail
       refine hK.out _ _ ?_ fun hHeld => ?_;exact (Below.refl (p9 + 1) wz).drew;clear hK K;try simp only [zn, Act.put]
       refine wpAnyE_one (i := 8) (by kernel_rfl) rfl (by kernel_rfl) (fun K hK => ?_)
       go_simp
       refine (rnumber_at _ l (a + 2 + 2 * k + 1) wz.drew ((LI_wz.out.below intR (Below.refl wz.heap.size wz).drew).more intR (Below.refl wz.heap.size wz).drew.size) (by omega) _ (by omega)).mono ?_
       rintro e w' ⟨rfl, hw⟩
       rw [hw, ← Hf1.out]
       clear hw w'
       try go_wp2_with fail
       refine hK.out _ _ ?_ fun hHeld => ?_;exact (Below.refl (p9 + 1) wz).drew;clear hK K;try simp only [zn, Act.put]
       refine tke [10, 11, 13] 9 hHeld ?_
       refine wpAnyE_one (i := 10) (by kernel_rfl) rfl (by kernel_rfl) (fun K hK => ?_)
       go_simp
       refine hK.out _ _ ?_ fun hHeld => ?_;exact ((Below.refl (p9 + 1) wz).drew.alloc LZ.out _);clear hK K;try simp only [zn, Act.put]
       refine wpAnyE_one (i := 11) (by kernel_rfl) rfl (by kernel_rfl) (fun K hK => ?_)
       rw [if_pos (by rfl)]
       refine wp_append_flat (T := 92) (tS := 61) (sz := 2) (bytes := 16) (R := JoinR) (.tmp 62) (.tmp 71) rfl joinF (fun _ _ => joinR_cells) (fun _ _ => joinR_full) Tryz.underlying61 I0.out I1.out rfl I2.out (by decide) I3.out (by decide) (lo := (p9 + 1)) rfl (OJ.out.below joinR ((Below.refl wz.heap.size wz).drew.alloc (Nat.le_refl _) _)) (by rw [rdJ_len]) rfl (elem_alloc (T := 92) (row := [.int .i64 f0, .int .i64 f1]) (x := (f0, f1)) (fun _ _ => joinR_cells) ⟨rfl, rfl⟩) (k + 1) rfl (by omega) (by have := LZ.out; simp; omega) ?_
       intro AE cE wE hoE hbE hkE
       have OE := Lib.hid hoE
       have BE : Hid (Below (p9 + 1) wz wE) := Lib.hid (((Below.refl (p9 + 1) wz).drew.alloc LZ.out _).trans hbE)
       have tX := (hbE.block p9 (Nat.lt_succ_self p9)).trans ((heap_alloc_lt wz.drew _ (heap_lt X.out)).trans X.out)
       obtain ⟨cw0, cw1, cw2⟩ := cell3_of tX
       have fw := frozen2_of tX 2
       have XE := Lib.hid tX
       clear hoE hbE hkE
       refine hK.out _ _ ?_ fun hHeld => ?_;exact BE.out;clear hK K;try simp only [zn, Act.put]
       refine tke [13] 12 hHeld ?_
       refine wpAnyE_last (by kernel_rfl) rfl (by kernel_rfl) (fun K hK => ?_)
       rw [if_pos (by rfl)]
       go_simp
       refine hK.out _ _ ?_
       clear hK K
       have tX : (wE.setCell ⟨p9, 2, none⟩ (.slice AE (k + 1) cE)).heap[p9]? = some (.cells #[.int .i64 e0, .int .i64 e1, .slice AE (k + 1) cE] 63 (0, 0)) := heap_setK (k := 2) XE.out _
       have tB := below_set (BZ.out.trans (BE.out.mono (Nat.le_succ p9))) (Nat.le_refl p9) 2 (.slice AE (k + 1) cE)
       have tO : JoinsOwn (wE.setCell ⟨p9, 2, none⟩ (.slice AE (k + 1) cE)) (p9 + 1) (.slice AE (k + 1) cE) (rdJ l (a + 2) (k + 1)) := own_kept joinF (by rw [rdJ_succ, ← Hf0.out, ← Hf1.out]; exact OE.out) (grown_setK wE p9 2 _) (fun g hg => by have h1 := own_lo OE.out g hg; omega)
       generalize wE.setCell ⟨p9, 2, none⟩ (.slice AE (k + 1) cE) = wF at tX tB tO ⊢
       have TX := Lib.hid tX
       have TB := Lib.hid tB
       have TO := Lib.hid tO
       clear tX tB tO OE BE XE cw0 cw1 cw2 fw
       go_wp2_with fail
       go_roundw
       case measure => simp [intOf]; omega
       case rel => exact ⟨k + 1, AE, cE, by go_num, by simp, by omega, TO.out, TX.out, TB.out⟩
      ·have OJX : JoinsOwn wz wy.heap.size (.slice A9 k c9) (rdJ l (a + 2) k) := OJ.out.mono (by rw [← P9.out]; exact Nat.le_succ p9)
       clear m0 m1 m2
       obtain rfl : k = 3 := by omega
       have hlk' : ¬ (((3 : Nat) : Int) < 3) := by omega
       have HKD : Hid (rdE l a = 3) := Lib.hid (by rw [rdE, ← He1.out]; exact if_pos (by have := HPT.out; omega))
       have RS : Hid (rdS l a = (e0, e1, rdJ l (a + 2) 3)) := Lib.hid (by rw [rdS, HKD.out, ← He0.out, ← He1.out])
       have NK : Hid (KL numsS l N2 3 Pl.secs tlPts (fun p => p.ver = V0 ∧ p.par = V1) (i + 1) (a + 2 + 2 * 3) (L2 ++ [(e0, e1, rdJ l (a + 2) 3)])) := Lib.hid (HK.out.step H1.out fun p hp s r' hs hd => by
        have h := k_sec p hp s r' hs hd
        rw [RS.out, HKD.out] at h
        exact h)
       obtain ⟨i0, hii, hz0, hzz, hz2⟩ := info_parts infoSec
       have I0 := Lib.hid hii
       have I1 := Lib.hid hz0
       have I2 := Lib.hid hzz
       have I3 := Lib.hid hz2
       clear hii hz0 hzz hz2
       obtain ⟨yss, hown, hyl, hm_, hys, hyr⟩ := SO.out
       rw [HLN.out] at hown
       have OSy := Lib.hid hown
       have OS := Lib.hid (owns_below hown BZ'.out)
       have LY6 : Hid (lo ≤ wy.heap.size) := Lib.hid (by have := ST.out.lt; have := HLO2.out; omega)
       have YL : Hid (yss.length = i) := Lib.hid (by rw [hyl]; exact HLN.out)
       have YS := Lib.hid hys
       have YR := Lib.hid hyr
       clear hown hyl hm_ hys hyr
       obtain ⟨m0, m1, m2⟩ := cell3_of X.out
       obtain ⟨k0, k1, k2, k3, k4, k5⟩ := cell6_of SZ.out.x6
       have LZ6 : Hid (lo ≤ wz.heap.size) := Lib.hid (by have := SZ.out.lt; have := HLO2.out; omega)
       go_upto_region 8 with ((with_reducible show wpList _ _ _ (⟨some 80, _, _, _, _, _⟩ :: _) _ _); refine wpList_append_list rfl (.tmp 77) (.tmp 79) _ rfl Tryz.underlying23 I0.out I1.out rfl I2.out (by decide) I3.out (by decide) rfl (owns_below OS.out ((Below.refl wz.heap.size wz).alloc (Nat.le_refl _) _)) rfl (m := 1) (news := [.int .i64 e0, .int .i64 e1, .slice A9 3 c9]) rfl (fun h => by cases h) (fun a ha j u hj => by cases ha; rw [Addr.add_lit, Nat.zero_add, World.cell?_alloc_new]; simpa using hj) (by simp [Value.oneCell']) (by omega) (by have := LZ6.out; simp; omega) ?_; intro z5 x5 hown5 hgrow5; obtain ⟨A5, c5, rfl⟩ := own_sliceN hown5; have OW5 := Lib.hid hown5; have GR5 := Lib.hid hgrow5; have BL5 : Hid (Below lo wz x5) := Lib.hid (((Below.refl lo wz).alloc LZ6.out _).grown hgrow5 (by have := LZ6.out; simp; omega) (own_ge OS.out)); clear hown5 hgrow5; obtain ⟨cw0, cw1, cw2, cw3, cw4, cw5⟩ := cell6_of ((BL5.out.block p6 HLO.out).trans SZ.out.x6); have fw := frozen2_of ((BL5.out.block p6 HLO.out).trans SZ.out.x6) 2)
       have S6 : SectsOwn x5 lo (.slice A5 (i + 1) c5) (L2 ++ [(e0, e1, rdJ l (a + 2) 3)]) := sects_snoc (W := wy) (w1 := wz) (s := (e0, e1, rdJ l (a + 2) 3)) (o := .cells #[.int .i64 e0, .int .i64 e1, .slice A9 3 c9] 63) HLN.out OSy.out YL.out YS.out (by unfold maxLen; omega) YR.out LY6.out BZ'.out OJX OW5.out GR5.out
       have tS := (PlOwn.set (p := ⟨0, 0, _, [], [], []⟩) ⟨S6, ListOwn.nil_, ListOwn.nil_, ListOwn.nil_⟩ HLO.out 2 (.slice A5 (i + 1) c5)).secs
       have tP : PB q (x5.setCell ⟨p6, 2, none⟩ (.slice A5 (i + 1) c5)) p6 #[.int .i64 V0, .int .i64 V1, .slice A5 (i + 1) c5, .slice none 0 0, .slice none 0 0, .slice none 0 0] := (SZ.out.loB BL5.out HLO.out).set 2 _
       generalize x5.setCell ⟨p6, 2, none⟩ (.slice A5 (i + 1) c5) = wF at tS tP ⊢
       have TS := Lib.hid tS
       have TP := Lib.hid tP
       clear S6 tS tP BL5 OW5 GR5 cw0 cw1 cw2 cw3 cw4 cw5 fw m0 m1 m2 k0 k1 k2 k3 k4 k5
       go_wp2_with fail
       go_roundw
       case measure => simp [intOf]; omega
       case rel => exact ⟨i + 1, a + 2 + 2 * 3, A5, c5, _, by go_num, by simp, by omega, by omega, NK.out, by rw [List.length_append, HLN.out]; rfl, TS.out, TP.out⟩
    ·have HPT := Lib.hid hpt
     have dp : decide (0 < e1) = false := decide_eq_false hpt
     clear hpt
     go_upto_region 14 with fail
     clear m0 m1 m2
     go_wp2_with fail
     clear hw2
     go_loopw [7, 11] (fun s7 s11 wr => ∃ (k : Nat) (A9 : Option Addr) (c9 : Nat), s11 = .int .i64 k ∧ s7 = .int .i64 ((a : Int) + 2 + 2 * k) ∧ k ≤ 2 ∧ JoinsOwn wr (p9 + 1) (.slice A9 k c9) (rdJ l (a + 2) k) ∧ wr.heap[p9]? = some (.cells #[.int .i64 e0, .int .i64 e1, .slice A9 k c9] 63 (0, 0)) ∧ Below p9 wy wr) (fun _ s11 _ => 2 - (intOf s11).toNat)
     case atStart => exact ⟨0, none, 0, by go_num, by simp, by omega, ListOwn.nil_, X9.out, by rw [P9.out]; exact B9.out⟩
     case round =>
      obtain ⟨wz, hwz⟩ : ∃ u, u = wr := ⟨_, rfl⟩
      subst hwz
      obtain ⟨k, A9, c9, rfl, rfl, hk, hoj, hx, hb⟩ := hrel
      have OJ := Lib.hid hoj
      have X := Lib.hid hx
      have BZ := Lib.hid hb
      have BZ' : Hid (Below wy.heap.size wy wz) := Lib.hid (by rw [← P9.out]; exact hb)
      have LZ : Hid (p9 + 1 ≤ wz.heap.size) := Lib.hid (heap_lt hx)
      have SZ := Lib.hid (ST.out.below HP6.out BZ'.out)
      have SOz := Lib.hid (SO.out.below (secO_ lo) BZ'.out)
      clear hoj hx hb
      have LI_wz := Lib.hid ((LQ.out.below intR (by rw [← HP6.out]; exact SZ.out.b)).more intR SZ.out.b.size)
      obtain ⟨m0, m1, m2⟩ := cell3_of X.out
      by_cases hlk : k < 2
      ·have hlk' : (k : Int) < 2 := by omega
       have hwb : IntKind.i64.wrap ((a : Int) + 2 + 2 * k + 1) = (a : Int) + 2 + 2 * k + 1 := wrap_id (by omega) (by omega)
       have hwc : IntKind.i64.wrap ((a : Int) + 2 + 2 * k + 2) = (a : Int) + 2 + 2 * (k + 1 : Nat) := by rw [wrap_id (by omega) (by omega)]; omega
       obtain ⟨f0, hf0⟩ : ∃ x, x = l.getD (a + 2 + 2 * k) 0 := ⟨_, rfl⟩
       have Hf0 := Lib.hid hf0
       clear hf0
       obtain ⟨f1, hf1⟩ : ∃ x, x = l.getD (a + 2 + 2 * k + 1) 0 := ⟨_, rfl⟩
       have Hf1 := Lib.hid hf1
       clear hf1
       obtain ⟨i0, hii, hz0, hzz, hz2⟩ := info_parts infoJoin
       have I0 := Lib.hid hii
       have I1 := Lib.hid hz0
       have I2 := Lib.hid hzz
       have I3 := Lib.hid hz2
       clear hii hz0 hzz hz2
       go_upto_region 17 with fail
       clear m0 m1 m2
       refine wp_region_end (S := fun v' => Below (p9 + 1) wz v') 13 (by kernel_rfl) (Below.refl (p9 + 1) wz).drew (fun hHeld => ?_)
       refine tke [1, 11, 13] 0 hHeld ?_;refine tkd [11, 13] 1 hHeld (fun w' hSw => cell3_of ((hSw.block _ (Nat.lt_succ_self p9)).trans X.out)) ?_;refine tke [4, 9, 10, 11, 13] 2 hHeld ?_;refine tke [4, 9, 10, 11, 13] 3 hHeld ?_;refine tke [8, 9, 10, 11, 13] 5 hHeld ?_;refine tke [7, 8, 9, 10, 11, 13] 6 hHeld ?_;refine tke [8, 9, 10, 11, 13] 7 hHeld ?_
       refine wpAnyE_one (i := 4) (by kernel_rfl) rfl (by kernel_rfl) (fun K hK => ?_)
       go_simp
       refine (rnumber_at _ l (a + 2 + 2 * k) wz.drew ((LI_wz.out.below intR (Below.refl wz.heap.size wz).drew).more intR (Below.refl wz.heap.size wz).drew.size) (by omega) _ (by omega)).mono ?_
       rintro e w' ⟨rfl, hw⟩
       rw [hw, ← Hf0.out]
       clear hw w'
       try go_wp2_with fail
       refine hK.out _ _ ?_ fun hHeld => ?_;exact (Below.refl (p9 + 1) wz).drew;clear hK K;try simp only [zn, Act.put]
       refine wpAnyE_one (i := 8) (by kernel_rfl) rfl (by kernel_rfl) (fun K hK => ?_)
       go_simp
       refine (rnumber_at _ l (a + 2 + 2 * k + 1) wz.drew ((LI_wz.out.below intR (Below.refl wz.heap.size wz).drew).more intR (Below.refl wz.heap.size wz).drew.size) (by omega) _ (by omega)).mono ?_
       rintro e w' ⟨rfl, hw⟩
       rw [hw, ← Hf1.out]
       clear hw w'
       try go_wp2_with fail
       refine hK.out _ _ ?_ fun hHeld => ?_;exact (Below.refl (p9 + 1) wz).drew;clear hK K;try simp only [zn, Act.put]
       refine tke [10, 11, 13] 9 hHeld ?_
       refine wpAnyE_one (i := 10) (by kernel_rfl) rfl (by kernel_rfl) (fun K hK => ?_)
       go_simp
       refine hK.out _ _ ?_ fun hHeld => ?_;exact ((Below.refl (p9 + 1) wz).drew.alloc LZ.out _);clear hK K;try simp only [zn, Act.put]
       refine wpAnyE_one (i := 11) (by kernel_rfl) rfl (by kernel_rfl) (fun K hK => ?_)
       rw [if_pos (by rfl)]
       refine wp_append_flat (T := 92) (tS := 61) (sz := 2) (bytes := 16) (R := JoinR) (.tmp 62) (.tmp 71) rfl joinF (fun _ _ => joinR_cells) (fun _ _ => joinR_full) Tryz.underlying61 I0.out I1.out rfl I2.out (by decide) I3.out (by decide) (lo := (p9 + 1)) rfl (OJ.out.below joinR ((Below.refl wz.heap.size wz).drew.alloc (Nat.le_refl _) _)) (by rw [rdJ_len]) rfl (elem_alloc (T := 92) (row := [.int .i64 f0, .int .i64 f1]) (x := (f0, f1)) (fun _ _ => joinR_cells) ⟨rfl, rfl⟩) (k + 1) rfl (by omega) (by have := LZ.out; simp; omega) ?_
       intro AE cE wE hoE hbE hkE
       have OE := Lib.hid hoE
       have BE : Hid (Below (p9 + 1) wz wE) := Lib.hid (((Below.refl (p9 + 1) wz).drew.alloc LZ.out _).trans hbE)
       have tX := (hbE.block p9 (Nat.lt_succ_self p9)).trans ((heap_alloc_lt wz.drew _ (heap_lt X.out)).trans X.out)
       obtain ⟨cw0, cw1, cw2⟩ := cell3_of tX
       have fw := frozen2_of tX 2
       have XE := Lib.hid tX
       clear hoE hbE hkE
       refine hK.out _ _ ?_ fun hHeld => ?_;exact BE.out;clear hK K;try simp only [zn, Act.put]
       refine tke [13] 12 hHeld ?_
       refine wpAnyE_last (by kernel_rfl) rfl (by kernel_rfl) (fun K hK => ?_)
       rw [if_pos (by rfl)]
       go_simp
       refine hK.out _ _ ?_
       clear hK K
       have tX : (wE.setCell ⟨p9, 2, none⟩ (.slice AE (k + 1) cE)).heap[p9]? = some (.cells #[.int .i64 e0, .int .i64 e1, .slice AE (k + 1) cE] 63 (0, 0)) := heap_setK (k := 2) XE.out _
       have tB := below_set (BZ.out.trans (BE.out.mono (Nat.le_succ p9))) (Nat.le_refl p9) 2 (.slice AE (k + 1) cE)
       have tO : JoinsOwn (wE.setCell ⟨p9, 2, none⟩ (.slice AE (k + 1) cE)) (p9 + 1) (.slice AE (k + 1) cE) (rdJ l (a + 2) (k + 1)) := own_kept joinF (by rw [rdJ_succ, ← Hf0.out, ← Hf1.out]; exact OE.out) (grown_setK wE p9 2 _) (fun g hg => by have h1 := own_lo OE.out g hg; omega)
       generalize wE.setCell ⟨p9, 2, none⟩ (.slice AE (k + 1) cE) = wF at tX tB tO ⊢
       have TX := Lib.hid tX
       have TB := Lib.hid tB
       have TO := Lib.hid tO
       clear tX tB tO OE BE XE cw0 cw1 cw2 fw
       go_wp2_with fail
       go_roundw
       case measure => simp [intOf]; omega
       case rel => exact ⟨k + 1, AE, cE, by go_num, by simp, by omega, TO.out, TX.out, TB.out⟩
      ·have OJX : JoinsOwn wz wy.heap.size (.slice A9 k c9) (rdJ l (a + 2) k) := OJ.out.mono (by rw [← P9.out]; exact Nat.le_succ p9)
       clear m0 m1 m2
       obtain rfl : k = 2 := by omega
       have hlk' : ¬ (((2 : Nat) : Int) < 2) := by omega
       have HKD : Hid (rdE l a = 2) := Lib.hid (by rw [rdE, ← He1.out]; exact if_neg (by have := HPT.out; omega))
       have RS : Hid (rdS l a = (e0, e1, rdJ l (a + 2) 2)) := Lib.hid (by rw [rdS, HKD.out, ← He0.out, ← He1.out])
       have NK : Hid (KL numsS l N2 3 Pl.secs tlPts (fun p => p.ver = V0 ∧ p.par = V1) (i + 1) (a + 2 + 2 * 2) (L2 ++ [(e0, e1, rdJ l (a + 2) 2)])) := Lib.hid (HK.out.step H1.out fun p hp s r' hs hd => by
        have h := k_sec p hp s r' hs hd
        rw [RS.out, HKD.out] at h
        exact h)
       obtain ⟨i0, hii, hz0, hzz, hz2⟩ := info_parts infoSec
       have I0 := Lib.hid hii
       have I1 := Lib.hid hz0
       have I2 := Lib.hid hzz
       have I3 := Lib.hid hz2
       clear hii hz0 hzz hz2
       obtain ⟨yss, hown, hyl, hm_, hys, hyr⟩ := SO.out
       rw [HLN.out] at hown
       have OSy := Lib.hid hown
       have OS := Lib.hid (owns_below hown BZ'.out)
       have LY6 : Hid (lo ≤ wy.heap.size) := Lib.hid (by have := ST.out.lt; have := HLO2.out; omega)
       have YL : Hid (yss.length = i) := Lib.hid (by rw [hyl]; exact HLN.out)
       have YS := Lib.hid hys
       have YR := Lib.hid hyr
       clear hown hyl hm_ hys hyr
       obtain ⟨m0, m1, m2⟩ := cell3_of X.out
       obtain ⟨k0, k1, k2, k3, k4, k5⟩ := cell6_of SZ.out.x6
       have LZ6 : Hid (lo ≤ wz.heap.size) := Lib.hid (by have := SZ.out.lt; have := HLO2.out; omega)
       go_upto_region 8 with ((with_reducible show wpList _ _ _ (⟨some 80, _, _, _, _, _⟩ :: _) _ _); refine wpList_append_list rfl (.tmp 77) (.tmp 79) _ rfl Tryz.underlying23 I0.out I1.out rfl I2.out (by decide) I3.out (by decide) rfl (owns_below OS.out ((Below.refl wz.heap.size wz).alloc (Nat.le_refl _) _)) rfl (m := 1) (news := [.int .i64 e0, .int .i64 e1, .slice A9 2 c9]) rfl (fun h => by cases h) (fun a ha j u hj => by cases ha; rw [Addr.add_lit, Nat.zero_add, World.cell?_alloc_new]; simpa using hj) (by simp [Value.oneCell']) (by omega) (by have := LZ6.out; simp; omega) ?_; intro z5 x5 hown5 hgrow5; obtain ⟨A5, c5, rfl⟩ := own_sliceN hown5; have OW5 := Lib.hid hown5; have GR5 := Lib.hid hgrow5; have BL5 : Hid (Below lo wz x5) := Lib.hid (((Below.refl lo wz).alloc LZ6.out _).grown hgrow5 (by have := LZ6.out; simp; omega) (own_ge OS.out)); clear hown5 hgrow5; obtain ⟨cw0, cw1, cw2, cw3, cw4, cw5⟩ := cell6_of ((BL5.out.block p6 HLO.out).trans SZ.out.x6); have fw := frozen2_of ((BL5.out.block p6 HLO.out).trans SZ.out.x6) 2)
       have S6 : SectsOwn x5 lo (.slice A5 (i + 1) c5) (L2 ++ [(e0, e1, rdJ l (a + 2) 2)]) := sects_snoc (W := wy) (w1 := wz) (s := (e0, e1, rdJ l (a + 2) 2)) (o := .cells #[.int .i64 e0, .int .i64 e1, .slice A9 2 c9] 63) HLN.out OSy.out YL.out YS.out (by unfold maxLen; omega) YR.out LY6.out BZ'.out OJX OW5.out GR5.out
       have tS := (PlOwn.set (p := ⟨0, 0, _, [], [], []⟩) ⟨S6, ListOwn.nil_, ListOwn.nil_, ListOwn.nil_⟩ HLO.out 2 (.slice A5 (i + 1) c5)).secs
       have tP : PB q (x5.setCell ⟨p6, 2, none⟩ (.slice A5 (i + 1) c5)) p6 #[.int .i64 V0, .int .i64 V1, .slice A5 (i + 1) c5, .slice none 0 0, .slice none 0 0, .slice none 0 0] := (SZ.out.loB BL5.out HLO.out).set 2 _
       generalize x5.setCell ⟨p6, 2, none⟩ (.slice A5 (i + 1) c5) = wF at tS tP ⊢
       have TS := Lib.hid tS
       have TP := Lib.hid tP
       clear S6 tS tP BL5 OW5 GR5 cw0 cw1 cw2 cw3 cw4 cw5 fw m0 m1 m2 k0 k1 k2 k3 k4 k5
       go_wp2_with fail
       go_roundw
       case measure => simp [intOf]; omega
       case rel => exact ⟨i + 1, a + 2 + 2 * 2, A5, c5, _, by go_num, by simp, by omega, by omega, NK.out, by rw [List.length_append, HLN.out]; rfl, TS.out, TP.out⟩
end Go.Proofs.YteloiajocjahmaaGreatDoor
