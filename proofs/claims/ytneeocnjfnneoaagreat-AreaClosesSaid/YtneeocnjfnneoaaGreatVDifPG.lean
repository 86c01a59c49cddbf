/-
 The program's package diff: check, One, Of.
 Conditions: none.
-/
import Derived.Test.YtneeocnjfnneoaaGreatVGDifPE
import Derived.Test.YtneeocnjfnneoaaGreatVGDifM
import Derived.Test.YtneeocnjfnneoaaGreatVGPlnRefD
import Derived.Test.YtneeocnjfnneoaaGreatVGBase
set_option linter.unusedVariables false
set_option linter.unusedSimpArgs false
set_option maxRecDepth 100000
namespace Go.Proofs.YtneeocnjfnneoaaGreat
open Go.RowKit

section
variable {α : Type} {T tS : TypeId} {sz : Nat} {R : El α} {W : World} {lo n c ty : Nat} {A : Option Addr} {L : List α} {x : α} {ys : List Value}
theorem run_append_one13 (hT : SliceOf tS T sz) (e : Elem R) (hG : ∀ {W W' : World} {c : Nat → Option Value} {y : α} {g : Nat}, lo ≤ g → R W W.heap.size c y → W.grownBy W' (some g) → (∃ cur, W.heap[g]? = some (.cells cur T (0, 0))) → R W' W'.heap.size c y)
  (hO : ListOwn T sz R W lo (.slice A n c) L) (hn : n = L.length) (hy : ys.length = sz) (h1 : ∀ u ∈ ys, u.oneCell' = true) (hx : R W W.heap.size (fun k => ys[k]?) x) (hle : n + 1 ≤ 10000) (hlo : lo ≤ W.heap.size) :
  ∃ A' c' w', (Builtin.append_ #[tS, tS] ty #[.slice A n c, .slice (some ⟨W.heap.size, 0, none⟩) 1 1]).run Tryz.prog (W.alloc (.cells ys.toArray T)) = .ok (.slice A' (n + 1) c') w' ∧ ListOwn T sz R w' lo (.slice A' (n + 1) c') (L ++ [x]) ∧ (W.alloc (.cells ys.toArray T)).grownBy w' (Value.slice A n c).ownBlock := by
 obtain ⟨ht, i, z, hi, hz, hzs, hsize, hsz, hby⟩ := hT
 obtain ⟨yss, ho, hl, hm, hs, hr⟩ := hO
 have hb := below_new W (.cells ys.toArray T)
 obtain ⟨v', w', hrun, h2, h3, -⟩ := run_append_own (P := Tryz.prog) (W.alloc (.cells ys.toArray T)) lo tS ty T i z sz i.bytes ht hi hz hsize rfl hzs hsz (.slice A n c) n yss.flatten (owns_below (hn ▸ ho : W.ownsRow lo T sz (.slice A n c) n yss.flatten) hb) ⟨W.heap.size, 0, none⟩ 1 1 ys (by omega) (fun j u hj => by
  rw [Addr.add_lit, Nat.zero_add, World.cell?_alloc_new]
  simpa using hj) h1 (by unfold maxLen; omega) (by have := Nat.mul_le_mul hle hby; omega) (Nat.le_trans hlo hb.size)
 obtain ⟨A', c', rfl⟩ := own_sliceN h2
 refine ⟨A', c', w', hrun, ?_, h3⟩
 subst hn
 exact ListOwn.snoc e hG ho hl hs hy (by unfold maxLen; omega) hr (Below.refl _ _) hx h2 h3
theorem wp_append_one13 {o : Oper} {a : Act} {K : Act → World → Prop} {Q : Exit → Act → World → Prop} (s u : Operand) (ho : o.op = .call { callee := .builtin .append, args := #[s, u], argTypes := #[tS, tS] })
  (hT : SliceOf tS T sz) (e : Elem R) (hG : ∀ {W W' : World} {c : Nat → Option Value} {y : α} {g : Nat}, lo ≤ g → R W W.heap.size c y → W.grownBy W' (some g) → (∃ cur, W.heap[g]? = some (.cells cur T (0, 0))) → R W' W'.heap.size c y)
  (hs : a.eval s = .slice A n c) (hu : a.eval u = .slice (some ⟨W.heap.size, 0, none⟩) 1 1)
  (hO : ListOwn T sz R W lo (.slice A n c) L) (hn : n = L.length) (hy : ys.length = sz) (h1 : ∀ u ∈ ys, u.oneCell' = true) (hx : R W W.heap.size (fun k => ys[k]?) x) (hle : n + 1 ≤ 10000) (hlo : lo ≤ W.heap.size)
  (h : ∀ A' c' w', ListOwn T sz R w' lo (.slice A' (n + 1) c') (L ++ [x]) → (W.alloc (.cells ys.toArray T)).grownBy w' (Value.slice A n c).ownBlock → K (a.put o.dst (.slice A' (n + 1) c')) w') : o.wp Tryz.prog a (W.alloc (.cells ys.toArray T)) K Q := by
 obtain ⟨A', c', w', hrun, h2, h3⟩ := run_append_one13 (ty := o.type) hT e hG hO hn hy h1 hx hle hlo
 unfold Oper.wp execOp
 simp only [ho, resolve, invoke, builtin, Sem.run_bind, Sem.run_pure, Result.andThen_ok, List.map_toArray, List.map_cons, List.map_nil, hs, hu, hrun]
 exact h A' c' w' h2 h3
end
theorem infoDiffI : (Tryz.prog.info? 51).map (fun i => (i.zero, i.size, i.bytes)) = some (some (.agg #[.int .u8 0, .int .i64 0, .int .u8 0]), 3, 24) := by kernel_rfl
theorem infoDiffP : SliceOf 47 51 3 := ⟨Tryz.underlying47, by obtain ⟨i, hi, h1, h2, h3⟩ := info_parts infoDiffI; exact ⟨i, _, hi, h1, by decide, h2, by decide, by omega⟩⟩
theorem made_diff (m : Nat) (h : m ≤ 1000) (w' : World) : ∃ o : Obj, (Instr.makeSlice 47 (.int .i64 0) (.int .i64 (m : Int))).run Tryz.prog w' = .ok (.slice (some ⟨w'.heap.size, 0, none⟩) 0 m) (w'.alloc o) ∧ (w'.alloc o).ownsRow w'.heap.size 51 3 (.slice (some ⟨w'.heap.size, 0, none⟩) 0 m) 0 [] := by
 obtain ⟨i0, hi, hz0, hz1, hz2⟩ := info_parts infoDiffI
 have := run_make (P := Tryz.prog) w' 47 51 i0 _ Tryz.underlying47 hi hz0 .i64 .i64 0 m (by omega) (by omega) (by rw [hz2]; omega) (by omega)
 exact ⟨_, this, World.ownsRow_made _ _ _ (Nat.le_refl _) (by unfold maxLen; omega) (by rw [hz1]; simp [madeCells])⟩
theorem chk_or (a b : Pl) : orZ (chk8 a) (chk8 b) = difE a b := by
 unfold orZ difE bothB chk8
 cases planMay a <;> cases planMay b <;> rfl
theorem len_map13 {W : World} {b : Nat} {es : Ents} (h : MapB W b es) (ty : TypeId) : (Builtin.len_ #[97] ty #[.map (some b)]).run Tryz.prog W = .ok (.int .i64 es.length) W := by
 have h' : W.heap[b]? = some (.map (ents es) es.length) := h
 simp [Builtin.len_, run_underlying Tryz.underlying97, MapKept.run_getObj_map h', goInt, Result.andThen, ents_size]
set_option maxHeartbeats 8000000 in
theorem check_any (hp : PlanSaid) (v y : Value) (a b : Pl) (w : World) (h : PlanV w w.heap.size v a) (h' : PlanV w w.heap.size y b) :
  Calls Tryz.prog 51 #[v, y] w fun e w' => e = .returned (.int .i64 (difE a b)) ∧ Below w.heap.size w w' := by
 obtain ⟨u2, u3, u4, u5, rfl, hin⟩ := h
 obtain ⟨z2, z3, z4, z5, rfl, hin'⟩ := h'
 obtain ⟨h0, h1, hqb⟩ := two_boxes w (.cells #[.int .i64 a.ver, .int .i64 a.par, u2, u3, u4, u5] 33) (.cells #[.int .i64 b.ver, .int .i64 b.par, z2, z3, z4, z5] 33)
 go_enter Tryz.func51, Tryz.ntmps51
 go_upto_region 1 with fail
 generalize (w.alloc (.cells #[.int .i64 a.ver, .int .i64 a.par, u2, u3, u4, u5] 33)).alloc (.cells #[.int .i64 b.ver, .int .i64 b.par, z2, z3, z4, z5] 33) = q at h0 h1 hqb ⊢
 have X0 := Lib.hid h0
 have X1 := Lib.hid h1
 have BQ := Lib.hid hqb
 have VA : Hid (PlanV q q.heap.size (.agg #[.int .i64 a.ver, .int .i64 a.par, u2, u3, u4, u5]) a) := Lib.hid ⟨_, _, _, _, rfl, (hin.below hqb).more hqb.size⟩
 have VB : Hid (PlanV q q.heap.size (.agg #[.int .i64 b.ver, .int .i64 b.par, z2, z3, z4, z5]) b) := Lib.hid ⟨_, _, _, _, rfl, (hin'.below hqb).more hqb.size⟩
 clear h0 h1 hqb hin hin'
 have SD := (Below.refl q.heap.size q).drew
 refine wp_region_held_drew (S := fun v => Below q.heap.size q v) (by kernel_rfl) SD (fun hHeld => ?_)
 refine tkc 0 hHeld (fun w' hSw => cell6_of ((hSw.block _ (heap_lt X0.out)).trans X0.out)) ?_;refine tkc 2 hHeld (fun w' hSw => cell6_of ((hSw.block _ (heap_lt X1.out)).trans X1.out)) ?_
 have VA1 := Lib.hid ((VA.out.below SD).more SD.size)
 have VB1 := Lib.hid ((VB.out.below SD).more SD.size)
 have HS := Lib.hid SD
 generalize q.drew = q0 at SD VA1 VB1 HS hHeld ⊢
 clear SD VA VB
 refine tkr 1 (fun K hK => ?_)
 go_simp
 refine (hp.check _ a q0 VA1.out).mono ?_
 rintro e q1 ⟨rfl, b1⟩
 have HS1 := Lib.hid (HS.out.trans (b1.mono HS.out.size))
 have VB2 := Lib.hid ((VB1.out.below b1).more b1.size)
 clear b1 HS VB1 VA1
 try go_wp2_with fail
 refine hK.out _ _ ?_ fun hHeld => ?_;exact HS1.out;clear hK K;try simp only [zn, Act.put]
 refine tkr 3 (fun K hK => ?_)
 go_simp
 refine (hp.check _ b q1 VB2.out).mono ?_
 rintro e q2 ⟨rfl, b2⟩
 have HS2 := Lib.hid (HS1.out.trans (b2.mono HS1.out.size))
 clear b2 HS1 VB2
 try go_wp2_with fail
 refine hK.out _ _ ?_ fun hHeld => ?_;exact HS2.out;clear hK K;try simp only [zn, Act.put]
 refine tkr 4 (fun K hK => ?_)
 go_simp
 have tn := HS2.out.alloc HS2.out.size (.cells #[.int .i64 (chk8 a), .int .i64 (chk8 b)] 25)
 have tx := heap_alloc_self q2 (.cells #[.int .i64 (chk8 a), .int .i64 (chk8 b)] 25)
 refine hK.out _ _ ?_ fun hHeld => ?_;exact tn;clear hK K;try simp only [zn, Act.put]
 generalize q2.alloc (.cells #[.int .i64 (chk8 a), .int .i64 (chk8 b)] 25) = q3 at tn tx hHeld ⊢
 generalize q2.heap.size = p at tx ⊢
 have HS3 := Lib.hid tn
 have X2 := Lib.hid tx
 clear tn tx HS2
 refine tkr 5 (fun K hK => ?_)
 go_simp
 refine (orE_any p _ _ q3 X2.out).mono ?_
 rintro e wS ⟨rfl, rfl⟩
 rw [chk_or]
 try go_wp2_with fail
 refine hK.out _ _ ?_ fun hHeld => ?_;exact HS3.out;clear hK K;try simp only [zn, Act.put]
 refine tk 6 hHeld ?_
 refine wpAnyH_done (by kernel_rfl) ?_ _
 have BL := Lib.hid (BQ.out.trans (HS3.out.mono BQ.out.size))
 go_wp2_with fail
 go_ret
 exact ⟨rfl, BL.out⟩
/-- What an append to a list of the call's own keeps. -/
theorem app_keeps {q wE : World} {lo n c : Nat} {A : Option Addr} {L : List Df} {tmp : Obj} (hO : DiffsOwn q lo (.slice A n c) L) (hg : (q.alloc tmp).grownBy wE (Value.slice A n c).ownBlock) (hlo : lo ≤ q.heap.size) :
  (∀ (i : Nat) (o : Obj), q.heap[i]? = some o → (∀ cur, some o ≠ some (.cells cur 51 (0, 0))) → wE.heap[i]? = some o) ∧ Below lo q wE := by
 have hb := below_new q tmp
 refine ⟨fun i o hi hne => ?_, (hb.mono hlo).grown hg (Nat.le_trans hlo hb.size) (fun k e => own_lo hO k e)⟩
 have h1 := (hb.block i (heap_lt hi)).trans hi
 refine (hg.block i (heap_lt h1) fun e => ?_).trans h1
 obtain ⟨cur, h2, -⟩ := own_block hO e.symm
 rw [hi] at h2
 exact hne cur h2
theorem KeysAt.grown' {W W' : World} {v : Value} {L : List K13} (h : KeysAt W v L) (hg : ∀ (i : Nat) (o : Obj), W.heap[i]? = some o → (∀ cur, some o ≠ some (.cells cur 51 (0, 0))) → W'.heap[i]? = some o) : KeysAt W' v L := by
 refine ⟨h.1, fun hp => ?_⟩
 obtain ⟨g, c, cur, h1, h2, h3⟩ := h.2 hp
 exact ⟨g, c, cur, h1, hg g _ h2 (fun cur' e => by injection e with e; injection e with e1 e2 e3; exact absurd e2 (by decide)), h3⟩
theorem keysfn_any (m : Nat) (w : World) : Calls Tryz.prog 54 #[.map (some m)] w fun e w' => e = .returned (.func (.func 91) #[] #[.pointer (some ⟨w.heap.size, 0, none⟩)]) ∧ w' = w.alloc (.cells #[.map (some m)] 97) := by
 go_enter Tryz.func54, Tryz.ntmps54
 go_wp2_with fail
 go_ret
 exact ⟨rfl, rfl⟩
theorem cf_num {x y : K13} (hx : 1 ≤ x.2 ∧ x.2 ≤ 99) (hy : 1 ≤ y.2 ∧ y.2 ≤ 99) (hn : x ≠ y) (h : ltOf cfK y x = false) : numK x < numK y := by
 rw [ltK] at h
 have h1 : ¬ (y.1 < x.1 ∨ (y.1 = x.1 ∧ y.2 < x.2)) := of_decide_eq_false h
 have h2 : ¬ (x.1 = y.1 ∧ x.2 = y.2) := fun e => hn (Prod.ext e.1 e.2)
 unfold numK
 omega
/-- The sorted keys are the document's. -/
theorem sorted_are {a b : Pl} {W : World} {lo m : Nat} {es : Ents} {L : List K13} (ha : PlanMay a) (hb : PlanMay b) (h : PMap W lo m (elK a) (elK b) es) (hp : L.Perm (es.map (·.1))) (hs : L.Pairwise (fun x y => ltOf cfK y x = false)) : L = keysL a b := by
 have hm : ∀ k, k ∈ L ↔ elK a k ≠ .none ∨ elK b k ≠ .none := fun k => hp.mem_iff.trans (h.keys k)
 have hn : L.Nodup := hp.nodup_iff.2 h.nd
 refine keys_are ha hb ?_ hm
 have hin : ∀ k ∈ L, 1 ≤ k.2 ∧ k.2 ≤ 99 := fun k hk => by
  rcases (hm k).1 hk with g | g
  ·exact (el_in ha g).2.2
  ·exact (el_in hb g).2.2
 have h2 : L.Pairwise (fun x y => x ≠ y) := hn
 have h3 := hs.and h2
 exact List.Pairwise.imp_of_mem (fun {x y} hx hy hxy => cf_num (hin x hx) (hin y hy) hxy.2 hxy.1) h3
theorem es_many {a b : Pl} {W : World} {lo m : Nat} {es : Ents} (ha : PlanMay a) (hb : PlanMay b) (h : PMap W lo m (elK a) (elK b) es) : es.length = (diffL a b).length := by
 have := (keys_many ha hb (L := es.map (fun q : K13 × Value => q.1)) h.nd h.keys).length_eq
 rw [keysL_len] at this
 simpa using this
set_option maxHeartbeats 16000000 in
theorem of_prog (hp : PlanSaid) (v y : Value) (a b : Pl) (w : World) (h : PlanV w w.heap.size v a) (h' : PlanV w w.heap.size y b) :
  Calls Tryz.prog 22 #[v, y] w fun e w' => ∃ u, e = .returned (.tuple #[u, .int .i64 (difE a b)]) ∧ DiffsOwn w' w.heap.size u (difV a b) ∧ Below w.heap.size w w' := by
 obtain ⟨u2, u3, u4, u5, rfl, hin⟩ := h
 obtain ⟨z2, z3, z4, z5, rfl, hin'⟩ := h'
 obtain ⟨h0, h1, hqb⟩ := two_boxes w (.cells #[.int .i64 a.ver, .int .i64 a.par, u2, u3, u4, u5] 33) (.cells #[.int .i64 b.ver, .int .i64 b.par, z2, z3, z4, z5] 33)
 go_enter Tryz.func22, Tryz.ntmps22
 go_upto_region 1 with fail
 generalize (w.alloc (.cells #[.int .i64 a.ver, .int .i64 a.par, u2, u3, u4, u5] 33)).alloc (.cells #[.int .i64 b.ver, .int .i64 b.par, z2, z3, z4, z5] 33) = q at h0 h1 hqb ⊢
 have X0 := Lib.hid h0
 have X1 := Lib.hid h1
 have BQ := Lib.hid hqb
 have VA : Hid (PlanV q q.heap.size (.agg #[.int .i64 a.ver, .int .i64 a.par, u2, u3, u4, u5]) a) := Lib.hid ⟨_, _, _, _, rfl, (hin.below hqb).more hqb.size⟩
 have VB : Hid (PlanV q q.heap.size (.agg #[.int .i64 b.ver, .int .i64 b.par, z2, z3, z4, z5]) b) := Lib.hid ⟨_, _, _, _, rfl, (hin'.below hqb).more hqb.size⟩
 clear h0 h1 hqb hin hin'
 obtain ⟨k0, k1, k2, k3, k4, k5⟩ := cell6_of X0.out
 obtain ⟨l0, l1, l2, l3, l4, l5⟩ := cell6_of X1.out
 go_wp2_with fail
 refine (check_any hp _ _ a b q VA.out VB.out).mono ?_
 rintro e w1 ⟨rfl, bN⟩
 clear k0 k1 k2 k3 k4 k5 l0 l1 l2 l3 l4 l5
 replace X0 := Lib.hid ((bN.block _ (heap_lt X0.out)).trans X0.out)
 replace X1 := Lib.hid ((bN.block _ (heap_lt X1.out)).trans X1.out)
 replace BQ := Lib.hid (BQ.out.trans (bN.mono BQ.out.size))
 replace VA := Lib.hid ((VA.out.below bN).more bN.size)
 replace VB := Lib.hid ((VB.out.below bN).more bN.size)
 clear bN
 rcases both_cases a b with ⟨ha, hb, hB⟩ | ⟨hn, hB⟩
 rotate_left
 ·have HE : Hid (difE a b = 8 ∧ difV a b = []) := Lib.hid ⟨by rw [difE, hB]; rfl, by rw [difV, hB]; rfl⟩
  clear hn hB
  rw [HE.out.1]
  go_wp2_with fail
  refine bodyPost_ret (results_tmp2 rfl _ _ _) rfl ?_
  exact ⟨_, by rw [HE.out.1]; rfl, by rw [HE.out.2]; exact ListOwn.nil_, BQ.out⟩
 have HA := Lib.hid ha
 have HB := Lib.hid hb
 have HD : difE a b = 0 := by rw [difE, hB]; rfl
 have HBB := Lib.hid hB
 rw [HD]
 clear HD ha hb hB
 obtain ⟨k0, k1, k2, k3, k4, k5⟩ := cell6_of X0.out
 obtain ⟨l0, l1, l2, l3, l4, l5⟩ := cell6_of X1.out
 go_wp2_with fail
 refine (laid_any _ _ a b w1 VA.out VB.out HA.out HB.out).mono ?_
 rintro e w2 ⟨m, rfl, ⟨es, hpm⟩, hlm, bN⟩
 clear k0 k1 k2 k3 k4 k5 l0 l1 l2 l3 l4 l5
 have B2 := Lib.hid (BQ.out.trans (bN.mono BQ.out.size))
 have PM := Lib.hid hpm
 have ML := Lib.hid hpm.map.lt
 clear bN hpm hlm X0 X1 BQ VA VB
 have EL := es_many HA.out HB.out PM.out
 have NL : Hid (es.length ≤ 396) := Lib.hid (by rw [EL]; exact diffL_len a b)
 have LN := fun ty => len_map13 PM.out.map ty
 have HDV : Hid (difE a b = 0 ∧ difV a b = diffL a b) := Lib.hid ⟨by rw [difE, HBB.out]; rfl, by rw [difV, HBB.out]; rfl⟩
 obtain ⟨o, hmk, hown⟩ := made_diff es.length (by have := NL.out; omega) w2
 obtain ⟨q0, hq0⟩ : ∃ x, x = w2.alloc o := ⟨_, rfl⟩
 rw [← hq0] at hmk hown
 have b0 : Below w2.heap.size w2 q0 := by rw [hq0]; exact below_new w2 o
 have O0 := Lib.hid hown
 have B0 := Lib.hid b0
 have MQ := Lib.hid (PM.out.map.below b0 ML.out)
 have HEL := Lib.hid EL
 clear hown b0 hq0 EL
 have bq := below_new q0 (.cells #[.map (some m)] 97)
 have xq := heap_alloc_self q0 (.cells #[.map (some m)] 97)
 go_wp2_with (go_at_call 54; refine (keysfn_any m q0).mono ?_; rintro e q3 ⟨rfl, rfl⟩)
 clear hmk LN
 generalize q0.alloc (.cells #[.map (some m)] 97) = q3 at bq xq ⊢
 have MB3 := Lib.hid (MQ.out.below bq MQ.out.lt)
 have XQ := Lib.hid xq
 have B3 := Lib.hid (B0.out.trans (bq.mono B0.out.size))
 have O3 : Hid (DiffsOwn q3 w2.heap.size (.slice (some ⟨w2.heap.size, 0, none⟩) 0 es.length) []) := Lib.hid (ListOwn.below diffR ⟨[], O0.out, rfl, Nat.zero_le _, (fun _ h => by cases h), fun j ys x h => by simp at h⟩ bq)
 clear bq xq
 refine (sorted_any q0.heap.size m es q3 PM.out.nd (by have := NL.out; omega) (heap_lt XQ.out) (by simpa using cellK_of XQ.out 0 rfl) MB3.out).mono ?_
 rintro e q4 ⟨KV, rfl, ⟨L, hL1, hL2, hK⟩, b4⟩
 have HLK := Lib.hid (sorted_are HA.out HB.out PM.out hL1 hL2)
 have NLL : Hid (L.length = (diffL a b).length) := Lib.hid (by rw [HLK.out, keysL_len])
 have HIN := Lib.hid (fun k => (hL1.mem_iff (a := k)).trans (PM.out.keys k))
 have B4 := Lib.hid (B3.out.trans (b4.mono B3.out.size))
 have O4 := Lib.hid (O3.out.below diffR b4)
 obtain ⟨⟨AK, ck, rfl⟩, hK2⟩ := hK
 obtain ⟨n, hn⟩ : ∃ n, n = L.length := ⟨_, rfl⟩
 have HN := Lib.hid hn
 have K4 : Hid (KeysAt q4 (.slice AK n ck) L) := Lib.hid (by rw [hn]; exact ⟨⟨_, _, rfl⟩, hK2⟩)
 have N1000 : Hid (n ≤ 396) := Lib.hid (by rw [hn, NLL.out]; exact diffL_len a b)
 rw [← hn]
 clear hn hK2 hL1 hL2 b4 XQ MB3 O3 B3 O0 B0 MQ
 generalize es.length = ce at O4 NL HEL ⊢
 go_wp2_with fail
 have hn396 : n ≤ 396 := N1000.out
 go_loopw [8, 27] (fun s8 s27 wr => ∃ (i c : Nat) (A : Option Addr), s27 = .int .i64 i ∧ i ≤ n ∧ s8 = .slice A i c ∧ DiffsOwn wr w2.heap.size (.slice A i c) ((diffL a b).take i) ∧ KeysAt wr (.slice AK n ck) L ∧ Below w2.heap.size w2 wr) (fun _ s27 _ => n - (intOf s27).toNat)
 case atStart => exact ⟨0, ce, _, by go_num, by omega, rfl, by rw [List.take_zero]; exact O4.out, K4.out, B4.out⟩
 case round =>
  obtain ⟨i, c, A, rfl, hi, rfl, ho, hk, hb⟩ := hrel
  have HO := Lib.hid ho
  have HKY := Lib.hid hk
  have BW := Lib.hid hb
  clear ho hk hb O4 K4 B4
  by_cases hlt : i < n
  ·have hlt' : (i : Int) < n := by omega
   have hir : i < L.length := by rw [← HN.out]; exact hlt
   obtain ⟨g, cg, cur, hv, hg, hcur⟩ := HKY.out.2 (by omega)
   obtain rfl : AK = some ⟨g, 0, none⟩ := by injection hv
   obtain ⟨kd, kid, hx⟩ : ∃ kd kid, L[i] = (kd, kid) := ⟨_, _, rfl⟩
   have HX := Lib.hid hx
   have hc2 := hcur i hir
   rw [hx] at hc2
   have hg0 : wr.cell? ⟨g, i * 2, none⟩ = some (.int .u8 kd) := cellK_of hg _ hc2.1
   have hg1 : wr.cell? ⟨g, i * 2 + 1, none⟩ = some (.int .i64 kid) := cellK_of hg _ hc2.2
   have HNE : Hid (elK a (kd, kid) ≠ .none ∨ elK b (kd, kid) ≠ .none) := Lib.hid ((HIN.out (kd, kid)).1 (by rw [← hx]; exact List.getElem_mem hir))
   clear hv hg hcur hx hc2
   obtain ⟨bv, hbv⟩ : ∃ bv, bv = becomeV (elK a (kd, kid)) (elK b (kd, kid)) := ⟨_, rfl⟩
   have HBV := Lib.hid hbv.symm
   have SNX : Hid ((diffL a b).take i ++ [(kd, kid, bv)] = (diffL a b).take (i + 1)) := Lib.hid (by
    have hj : i < (keysL a b).length := by rw [← HLK.out]; exact hir
    obtain ⟨hj', e⟩ := keysL_at hj
    have e2 : (keysL a b)[i] = (kd, kid) := by rw [← HX.out]; congr 1; exact HLK.out.symm
    rw [take_snoc13 hj', e, e2, hbv, (become_is HNE.out).1])
   have TL : Hid (((diffL a b).take i).length = i) := Lib.hid (by rw [List.length_take, ← NLL.out]; omega)
   clear hbv
   obtain ⟨lv, hlv⟩ : ∃ lv, lv = (look es (kd, kid)).getD zPair := ⟨_, rfl⟩
   have PVW : Hid (PairV w2 w2.heap.size lv (elK a (kd, kid)) (elK b (kd, kid))) := Lib.hid (by rw [hlv]; exact (PM.out.at (kd, kid)).1)
   have LKA : Hid (∀ W', MapB W' m es → (Instr.lookup 97 (.map (some m)) (.agg #[.int .u8 kd, .int .i64 kid]) false).run Tryz.prog W' = .ok lv W') := Lib.hid fun W' hM => by rw [hlv]; exact run_lookup13 keyT13 Tryz.underlying97 hM (kd, kid) (zeroPair13 _) false
   clear hlv
   obtain ⟨q1, hq⟩ : ∃ q_, q_ = wr.alloc (.cells #[.int .u8 kd, .int .i64 kid] 102) := ⟨_, rfl⟩
   have x1 := heap_alloc_self wr (.cells #[.int .u8 kd, .int .i64 kid] 102)
   have b1 := below_new wr (.cells #[.int .u8 kd, .int .i64 kid] 102)
   rw [← hq] at x1 b1
   go_upto_region 9 with fail
   rw [← hq]
   have X1 := Lib.hid x1
   have B1 := Lib.hid (BW.out.trans (b1.mono BW.out.size))
   generalize wr.heap.size = p1 at X1 ⊢
   clear hq hg0 hg1
   have O1 := Lib.hid (HO.out.below diffR b1)
   have K1 := Lib.hid (HKY.out.below b1)
   clear x1 b1
   have SD : Below q1.heap.size q1 q1.drew := (Below.refl q1.heap.size q1).drew
   have MB1 := Lib.hid (PM.out.map.below B1.out ML.out)
   have tX := (SD.block _ (heap_lt X1.out)).trans X1.out
   have tM := (SD.block _ MB1.out.lt).trans MB1.out
   refine wp_region_held_drew (S := fun v => v.heap[p1]? = some (.cells #[.int .u8 kd, .int .i64 kid] 102 (0, 0)) ∧ MapB v m es) (by kernel_rfl) ⟨tX, tM⟩ (fun hHeld => ?_)
   refine tk 0 hHeld ?_;refine tk 1 hHeld ?_;refine tkc 2 hHeld (fun w' hSw => cell2_of hSw.1) ?_;refine tk 3 hHeld ?_;refine tkc 4 hHeld (fun w' hSw => cell2_of hSw.1) ?_;refine tk 5 hHeld ?_;refine tkc 6 hHeld (fun w' hSw => cell2_of hSw.1) ?_;refine tkc 7 hHeld (fun w' hSw => LKA.out _ hSw.2) ?_
   have tB := B1.out.trans (SD.mono B1.out.size)
   have tO := O1.out.below diffR SD
   have tK := K1.out.below SD
   generalize q1.drew = q2 at tX tM tB tO tK hHeld ⊢
   clear X1 B1 O1 K1 SD MB1
   have X2 := Lib.hid tX
   have B2 := Lib.hid tB
   have O2 := Lib.hid tO
   have K2 := Lib.hid tK
   have PV2 := Lib.hid ((PVW.out.same (below_same B2.out)).more B2.out.size)
   clear tX tM tB tO tK
   refine tkr 8 (fun K hK => ?_)
   go_simp
   refine (became_any hp _ _ _ q2 PV2.out).mono ?_
   rintro e q3 ⟨rfl, b3⟩
   rw [HBV.out]
   have tX := (b3.block _ (heap_lt X2.out)).trans X2.out
   have tB := B2.out.trans (b3.mono B2.out.size)
   have tO := O2.out.below diffR b3
   have tK := K2.out.below b3
   clear X2 B2 O2 K2 PV2 b3
   have X3 := Lib.hid tX
   have B3 := Lib.hid tB
   have O3 := Lib.hid tO
   have K3 := Lib.hid tK
   have M3 : Hid (MapB q3 m es) := Lib.hid (PM.out.map.below B3.out ML.out)
   clear tX tB tO tK
   try go_wp2_with fail
   refine hK.out _ _ ?_ fun hHeld => ?_;exact ⟨X3.out, M3.out⟩;clear hK K;try simp only [zn, Act.put]
   refine tk 9 hHeld ?_
   refine tkr 10 (fun K hK => ?_)
   go_simp
   have tn := below_new q3 (.cells #[.int .u8 kd, .int .i64 kid, .int .u8 bv] 51)
   refine hK.out _ _ ?_ fun hHeld => ?_;exact ⟨(tn.block _ (heap_lt X3.out)).trans X3.out, (tn.block _ M3.out.lt).trans M3.out⟩;clear hK K;try simp only [zn, Act.put]
   clear tn
   refine tkr 11 (fun K hK => ?_)
   rw [if_pos (by rfl)]
   refine wp_append_one13 (W := q3) (x := (kd, kid, bv)) (ys := [.int .u8 kd, .int .i64 kid, .int .u8 bv]) (.tmp 31) (.tmp 41) rfl infoDiffP diffR (fun _ h _ _ => h) rfl rfl O3.out TL.out.symm rfl (by simp [Value.oneCell']) ⟨rfl, rfl, rfl⟩ (by have := N1000.out; omega) B3.out.size ?_
   intro AE cE wE hoE hgE
   obtain ⟨ha1, ha2⟩ := app_keeps O3.out hgE B3.out.size
   have tX := ha1 p1 _ X3.out (fun cur e => by injection e with e; injection e with e1 e2 e3; exact absurd e2 (by decide))
   have tM := ha1 m _ M3.out (fun cur e => by injection e with e; cases e)
   have tB := B3.out.trans ha2
   have tK := K3.out.grown' ha1
   refine hK.out _ _ ?_ fun hHeld => ?_;exact ⟨tX, tM⟩;clear hK K;try simp only [zn, Act.put]
   refine tk 12 hHeld ?_
   refine wpAnyH_done (by kernel_rfl) ?_ _
   have OE := Lib.hid hoE
   have BE := Lib.hid tB
   have KE := Lib.hid tK
   clear tX tM tB tK hoE hgE ha1 ha2 X3 B3 O3 K3 M3
   go_wp2_with fail
   go_roundw
   case measure => simp [intOf]; omega
   case rel =>
    have hoX := OE.out
    rw [SNX.out] at hoX
    exact ⟨i + 1, cE, AE, by go_num, by omega, rfl, hoX, KE.out, BE.out⟩
  ·obtain rfl : n = i := by omega
   have hlt' : ¬ (n : Int) < n := by omega
   have HF : Hid ((diffL a b).take n = diffL a b) := Lib.hid (List.take_of_length_le (by rw [HN.out, NLL.out]; exact Nat.le_refl _))
   go_wp2_with fail
   refine bodyPost_ret (results_tmp2 rfl _ _ _) rfl ?_
   exact ⟨_, by rw [HDV.out.1]; rfl, by rw [HDV.out.2, ← HF.out]; exact HO.out.mono B2.out.size, B2.out.trans (BW.out.mono B2.out.size)⟩
/-- The program's package diff answers so. -/
theorem difSaid (hp : PlanSaid) : DifSaid where
 of v y a b w h h' := of_prog hp v y a b w h h'
end Go.Proofs.YtneeocnjfnneoaaGreat
