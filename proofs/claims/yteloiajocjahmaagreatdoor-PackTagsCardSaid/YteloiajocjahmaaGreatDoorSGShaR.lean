/-
 The document's own answer: a word turned right, shifted, sums of words.
 Conditions: none.
-/
import Derived.Test.YteloiajocjahmaaGreatDoorSGShaB
import Derived.Test.YteloiajocjahmaaGreatDoorSGBase
import Derived.Laws.OwnMore
import Derived.Maps.AppendAt
set_option linter.unusedVariables false
set_option linter.unusedSimpArgs false
set_option maxRecDepth 100000
namespace Go.Proofs.YteloiajocjahmaaGreatDoor
open Go.RowKit

theorem right_any (x n : Nat) (k : Int) (hx : x < 4294967296) (hn : n ≤ 31) (hk : k = (n : Int)) (w : World) :
  Calls Tryz.prog 106 #[.int .u32 x, .int .i64 k] w fun e w' => e = .returned (.int .u32 (rotr n x : Nat)) ∧ w' = w := by
 subst hk
 have hn' : (n : Int) ≤ 31 := by omega
 go_enter Tryz.func106, Tryz.ntmps106
 go_wp2
 go_loop [0, 5] (fun s0 s5 => ∃ i : Nat, i ≤ n ∧ s5 = .int .i64 i ∧ s0 = .int .u32 (rotr i x : Nat)) (fun _ s5 => n - (intOf s5).toNat)
 case atStart => exact ⟨0, by omega, rfl, by rw [rotr_zero]⟩
 case round =>
  obtain ⟨i, hi, rfl, rfl⟩ := hrel
  have hl := rotr_lt (n := i) (by omega) hx
  by_cases hlt : i < n
  ·have hlt' : (i : Int) < n := by omega
   have hs := rotr_succ (n := i) (x := x) (by omega)
   have hl2 := rotr_lt (n := i + 1) (by omega) hx
   have HS := Lib.hid hs
   have HL2 := Lib.hid hl2
   clear hs hl2
   generalize rotr i x = X at *
   go_wp2
   go_round
   case measure => simp [intOf]; omega
   case rel => exact ⟨i + 1, by omega, by go_num, by rw [← HS.out]; congr 1⟩
  ·obtain rfl : i = n := by omega
   have hlt' : ¬ (i : Int) < i := by omega
   go_wp2
   go_ret
   exact ⟨rfl, rfl⟩

theorem shifted_any (x n : Nat) (k : Int) (hx : x < 4294967296) (hn : n ≤ 31) (hk : k = (n : Int)) (w : World) :
  Calls Tryz.prog 81 #[.int .u32 x, .int .i64 k] w fun e w' => e = .returned (.int .u32 (x / 2 ^ n : Nat)) ∧ w' = w := by
 subst hk
 have hn' : (n : Int) ≤ 31 := by omega
 go_enter Tryz.func81, Tryz.ntmps81
 go_wp2
 go_loop [0, 5] (fun s0 s5 => ∃ i : Nat, i ≤ n ∧ s5 = .int .i64 i ∧ s0 = .int .u32 (x / 2 ^ i : Nat)) (fun _ s5 => n - (intOf s5).toNat)
 case atStart => exact ⟨0, by omega, rfl, by simp⟩
 case round =>
  obtain ⟨i, hi, rfl, rfl⟩ := hrel
  have hl : x / 2 ^ i < 4294967296 := Nat.lt_of_le_of_lt (Nat.div_le_self _ _) hx
  by_cases hlt : i < n
  ·have hlt' : (i : Int) < n := by omega
   have hs : x / 2 ^ (i + 1) = x / 2 ^ i / 2 := by rw [Nat.pow_succ, ← Nat.div_div_eq_div_mul]
   have HS := Lib.hid hs
   clear hs
   generalize x / 2 ^ i = X at *
   go_wp2
   go_round
   case measure => simp [intOf]; omega
   case rel => exact ⟨i + 1, by omega, by go_num, by rw [HS.out]; congr 1⟩
  ·obtain rfl : i = n := by omega
   have hlt' : ¬ (i : Int) < i := by omega
   obtain ⟨X, hX⟩ : ∃ X, X = x / 2 ^ i := ⟨_, rfl⟩
   rw [← hX] at hl ⊢
   have HX := Lib.hid hX
   clear hX
   go_wp2
   go_ret
   exact ⟨ret_int (by rw [HX.out]; simp), rfl⟩

def sumM (l : List Nat) : Nat := l.foldl (fun n x => (n + x) % 4294967296) 0
theorem sumM_snoc (l : List Nat) (x : Nat) : sumM (l ++ [x]) = (sumM l + x) % 4294967296 := by simp [sumM]
theorem sumM_lt (l : List Nat) : sumM l < 4294967296 := by
 rcases l.eq_nil_or_concat with rfl | ⟨l', x, rfl⟩
 ·decide
 ·rw [List.concat_eq_append, sumM_snoc]; exact Nat.mod_lt _ (by omega)

theorem sumM2 (a b : Nat) : sumM [a, b] = (a + b) % 4294967296 := by
 simp only [sumM, List.foldl_cons, List.foldl_nil, Nat.zero_add, Nat.mod_add_mod]
theorem sumM4 (a b c d : Nat) : sumM [a, b, c, d] = (a + b + c + d) % 4294967296 := by
 simp only [sumM, List.foldl_cons, List.foldl_nil, Nat.zero_add, Nat.mod_add_mod]
theorem sumM5 (a b c d e : Nat) : sumM [a, b, c, d, e] = (a + b + c + d + e) % 4294967296 := by
 simp only [sumM, List.foldl_cons, List.foldl_nil, Nat.zero_add, Nat.mod_add_mod]

theorem sum_words (b : Nat) (l : List Nat) (hl : l.length ≤ 10) (hw : ∀ x ∈ l, x < 4294967296) (t : TypeId) (w : World) (hb : w.heap[b]? = some (.cells (row32 l) t (0, 0))) (n c : Nat) (hn : n = l.length) :
  Calls Tryz.prog 105 #[.slice (some ⟨b, 0, none⟩) n c] w fun e w' => e = .returned (.int .u32 (sumM l : Nat)) ∧ w' = w := by
 subst hn
 have HB := Lib.hid hb
 have HW := Lib.hid hw
 clear hb hw
 go_enter Tryz.func105, Tryz.ntmps105
 go_wp2
 go_loop [3, 4] (fun s3 s4 => ∃ i : Nat, i ≤ l.length ∧ s4 = .int .i64 i ∧ s3 = .int .i64 (sumM (l.take i) : Nat)) (fun _ s4 => l.length - (intOf s4).toNat)
 case atStart => exact ⟨0, by omega, rfl, rfl⟩
 case round =>
  obtain ⟨i, hi, rfl, rfl⟩ := hrel
  have hl := sumM_lt (l.take i)
  by_cases hlt : i < l.length
  ·have hlt' : (i : Int) < l.length := by omega
   have hs : sumM (l.take (i + 1)) = (sumM (l.take i) + l[i]) % 4294967296 := by
    rw [List.take_add_one, List.getElem?_eq_getElem hlt]; exact sumM_snoc _ _
   have hc := row32_cell HB.out (List.getElem?_eq_getElem hlt)
   have hx := HW.out l[i] (List.getElem_mem hlt)
   have HS := Lib.hid hs
   clear hs
   generalize l[i] = x at *
   generalize sumM (l.take i) = X at *
   go_wp2
   go_round
   case measure => simp [intOf]; omega
   case rel => exact ⟨i + 1, by omega, by go_num, by rw [HS.out]; congr 1⟩
  ·obtain rfl : i = l.length := by omega
   have hlt' : ¬ (l.length : Int) < l.length := by omega
   rw [List.take_length] at hl ⊢
   obtain ⟨X, hX⟩ : ∃ X, X = sumM l := ⟨_, rfl⟩
   rw [← hX] at hl ⊢
   have HX := Lib.hid hX
   clear hX
   go_wp2
   go_ret
   exact ⟨ret_int (by rw [HX.out]), rfl⟩

theorem choose_any (e f g : Nat) (he : e < 4294967296) (hf : f < 4294967296) (hg : g < 4294967296) (w : World) :
  Calls Tryz.prog 107 #[.int .u32 e, .int .u32 f, .int .u32 g] w fun x w' => x = .returned (.int .u32 (ch e f g : Nat)) ∧ w' = w := by
 go_enter Tryz.func107, Tryz.ntmps107
 go_wp2
 go_ret
 refine ⟨ret_int ?_, rfl⟩
 rw [u32_xor_nat _ _ hf hg, u32_and_nat _ _ he (xor_w hf hg), u32_xor_nat _ _ hg (and_w (xor_w hf hg))]
 rfl
theorem most_any (a b c : Nat) (ha : a < 4294967296) (hb : b < 4294967296) (hc : c < 4294967296) (w : World) :
  Calls Tryz.prog 108 #[.int .u32 a, .int .u32 b, .int .u32 c] w fun x w' => x = .returned (.int .u32 (maj a b c : Nat)) ∧ w' = w := by
 go_enter Tryz.func108, Tryz.ntmps108
 go_wp2
 go_ret
 refine ⟨ret_int ?_, rfl⟩
 rw [u32_and_nat _ _ ha hb, u32_or_nat _ _ ha hb, u32_and_nat _ _ hc (or_w ha hb), u32_or_nat _ _ (and_w hb) (and_w (or_w ha hb))]
 rfl

/-- append(own, cells...): the row of the call's own, longer by the cells. -/
theorem wpList_append_cells {P : Program} {w : World} {ops : Array Oper} {rest : List Oper} {o : Oper} {a : Act} {Q : Exit → Act → World → Prop} (hgd : o.guard = none) (s x : Operand) (t : TypeId)
  (ho : o.op = .call { callee := .builtin .append, args := #[s, x], argTypes := #[t, t] })
  {base e : Nat} {i : TypeInfo} {z : Value} {bytes : Nat} (ht : P.underlying t = some (.slice e)) (hi : P.info? e = some i) (hz : i.zero = some z) (hzs : z.cells.size = 1) (hsize : i.size = 1) (hby : i.bytes = bytes) (hb8 : bytes ≤ 8)
  {v : Value} {n : Nat} {ys : List Value} (hs : a.eval s = v) (hown : w.ownsRow base e 1 v n ys) {b c : Nat} {news : List Value} (hu : a.eval x = .slice (some ⟨b, 0, none⟩) news.length c)
  (hc : ∀ j u, news[j]? = some u → w.cell? ⟨b, j, none⟩ = some u) (h1 : ∀ u ∈ news, u.oneCell' = true) (h63 : n + news.length ≤ 100000) (hbase : base ≤ w.heap.size)
  (h : ∀ v' w', w'.ownsRow base e 1 v' (n + news.length) (ys ++ news) → w.grownBy w' v.ownBlock → wpList P ops Q rest (a.put o.dst v') w') : wpList P ops Q (o :: rest) a w := by
 refine wpList_plain hgd fun K hK => ?_
 obtain ⟨v', w', hrun, h2, h3, _⟩ := run_append_own (P := P) w base t o.type e i z 1 bytes ht hi hz hsize hby hzs (by decide) v n ys hown ⟨b, 0, none⟩ news.length c news (by simp) (fun j u hj => by rw [Addr.add_lit, Nat.zero_add]; exact hc j u hj) h1 (by unfold maxLen; omega)
  (by have := Nat.mul_le_mul h63 hb8; omega) hbase
 unfold Oper.wp execOp
 simp only [ho, resolve, invoke, builtin, Sem.run_bind, Sem.run_pure, Result.andThen_ok, List.map_toArray, List.map_cons, List.map_nil, hs, hu, hrun]
 exact hK _ _ (h v' w' h2 h3)

theorem shifted_at (x X n : Nat) (k : Int) (hX : X = x / 2 ^ n) (hx : x < 4294967296) (hn : n ≤ 31) (hk : k = (n : Int)) (w : World) :
  Calls Tryz.prog 81 #[.int .u32 x, .int .i64 k] w fun e w' => e = .returned (.int .u32 (X : Nat)) ∧ w' = w := by
 subst hX
 exact shifted_any x n k hx hn hk w
set_option maxHeartbeats 1000000 in
theorem word_any (b cap t : Nat) (T : Int) (hT : T = (t : Int)) (ws : List Nat) (h16 : 16 ≤ t) (ht : t ≤ ws.length) (h64 : ws.length ≤ 64) (hw : ∀ x ∈ ws, x < 4294967296) (w : World)
  (hc : ∀ (j n : Nat), ws[j]? = some n → w.cell? ⟨b, j, none⟩ = some (.int .u32 (n : Int))) :
  Calls Tryz.prog 124 #[.slice (some ⟨b, 0, none⟩) ws.length cap, .int .i64 T] w fun e w' => e = .returned (.int .u32 (wordAt ws t : Nat)) ∧ Below w.heap.size w w' := by
 subst hT
 have get : ∀ k, k < ws.length → ws[k]? = some (ws.getD k 0) := fun k hk => by
  rw [List.getD_eq_getElem?_getD, List.getElem?_eq_getElem hk]; rfl
 have lt : ∀ k, ws.getD k 0 < 4294967296 := W32.getD (n := ws.length) ⟨rfl, hw⟩
 have c16 := hc _ _ (get (t - 16) (by omega))
 have c15 := hc _ _ (get (t - 15) (by omega))
 have c7 := hc _ _ (get (t - 7) (by omega))
 have c2 := hc _ _ (get (t - 2) (by omega))
 have hwa : wordAt ws t = (ws.getD (t - 16) 0 + mix 7 18 3 (ws.getD (t - 15) 0) + ws.getD (t - 7) 0 + mix 17 19 10 (ws.getD (t - 2) 0)) % 4294967296 := rfl
 have l16 := lt (t - 16)
 have l15 := lt (t - 15)
 have l7 := lt (t - 7)
 have l2 := lt (t - 2)
 rw [hwa]
 clear hwa get lt hc hw
 generalize ws.getD (t - 16) 0 = p at *
 generalize ws.getD (t - 15) 0 = x at *
 generalize ws.getD (t - 7) 0 = q at *
 generalize ws.getD (t - 2) 0 = y at *
 obtain ⟨n, hn⟩ : ∃ n, n = ws.length := ⟨_, rfl⟩
 rw [← hn] at ht h64 ⊢
 clear hn
 obtain ⟨t16, e16⟩ : ∃ k, k = t - 16 := ⟨_, rfl⟩
 obtain ⟨t15, e15⟩ : ∃ k, k = t - 15 := ⟨_, rfl⟩
 obtain ⟨t7, e7⟩ : ∃ k, k = t - 7 := ⟨_, rfl⟩
 obtain ⟨t2, e2⟩ : ∃ k, k = t - 2 := ⟨_, rfl⟩
 rw [← e16] at c16
 rw [← e15] at c15
 rw [← e7] at c7
 rw [← e2] at c2
 have i16 : (t : Int) - 16 = t16 := by omega
 have i15 : (t : Int) - 15 = t15 := by omega
 have i7 : (t : Int) - 7 = t7 := by omega
 have i2 : (t : Int) - 2 = t2 := by omega
 have w16 : IntKind.i64.wrap (t16 : Int) = t16 := IntWalk.i64_in _ (by omega)
 have w15 : IntKind.i64.wrap (t15 : Int) = t15 := IntWalk.i64_in _ (by omega)
 have w7 : IntKind.i64.wrap (t7 : Int) = t7 := IntWalk.i64_in _ (by omega)
 have w2 : IntKind.i64.wrap (t2 : Int) = t2 := IntWalk.i64_in _ (by omega)
 have b16 : (t16 : Int) < n := by omega
 have b15 : (t15 : Int) < n := by omega
 have b7 : (t7 : Int) < n := by omega
 have b2 : (t2 : Int) < n := by omega
 have b64 : (t : Int) ≤ 64 := by omega
 clear e16 e15 e7 e2
 have lx7 := rotr_lt (n := 7) (by omega) l15
 have lx18 := rotr_lt (n := 18) (by omega) l15
 have ly17 := rotr_lt (n := 17) (by omega) l2
 have ly19 := rotr_lt (n := 19) (by omega) l2
 have mx : bits .xor .u32 (bits .xor .u32 (rotr 7 x : Nat) (rotr 18 x : Nat)) ((x / 2 ^ 3 : Nat) : Int) = (mix 7 18 3 x : Nat) := by
  rw [u32_xor_nat _ _ lx7 lx18, u32_xor_nat _ _ (xor_w lx7 lx18) (Nat.lt_of_le_of_lt (Nat.div_le_self _ _) l15)]
  rfl
 have my : bits .xor .u32 (bits .xor .u32 (rotr 17 y : Nat) (rotr 19 y : Nat)) ((y / 2 ^ 10 : Nat) : Int) = (mix 17 19 10 y : Nat) := by
  rw [u32_xor_nat _ _ ly17 ly19, u32_xor_nat _ _ (xor_w ly17 ly19) (Nat.lt_of_le_of_lt (Nat.div_le_self _ _) l2)]
  rfl
 have lmx := mix_lt (p := 7) (q := 18) (s := 3) (by omega) (by omega) l15
 have lmy := mix_lt (p := 17) (q := 19) (s := 10) (by omega) (by omega) l2
 have ex : ∃ X, X = x / 2 ^ 3 := ⟨_, rfl⟩
 have ey : ∃ Y, Y = y / 2 ^ 10 := ⟨_, rfl⟩
 obtain ⟨X, hX⟩ := ex
 obtain ⟨Y, hY⟩ := ey
 rw [← hX] at mx
 rw [← hY] at my
 have HX := Lib.hid hX
 have HY := Lib.hid hY
 clear hX hY
 clear lx7 lx18 ly17 ly19
 go_enter Tryz.func124, Tryz.ntmps124
 go_wp2
 have hb0 : Below w.heap.size w w.drew := (Below.refl _ _).drew
 refine wp_region_still_tail 26 (by kernel_rfl) (by kernel_rfl) ?_
 change wpStill _ _ (World.drew w) (fun a' => wpList _ _ _ _ a' (World.drew w)) _ _
 have c16' : w.drew.cell? ⟨b, t16, none⟩ = some (.int .u32 (p : Int)) := c16
 have c7' : w.drew.cell? ⟨b, t7, none⟩ = some (.int .u32 (q : Int)) := c7
 clear c16 c15 c7 c2
 generalize World.drew w = u at hb0 c16' c7' ⊢
 have HB := Lib.hid hb0
 clear hb0
 simp only [List.take_succ_cons, List.take_zero, List.drop_succ_cons, List.drop_zero]
 still_step
 still_step
 still_step
 still_step
 still_step
 still_step
 still_call (right_any _ 7 _ l15 (by omega) (by rfl) _)
 still_step
 still_call (right_any _ 18 _ l15 (by omega) (by rfl) _)
 still_step
 still_step
 still_call (shifted_at _ X 3 _ HX.out l15 (by omega) (by rfl) _)
 still_step
 still_step
 still_step
 still_step
 still_step
 still_step
 still_step
 still_call (right_any _ 17 _ l2 (by omega) (by rfl) _)
 still_step
 still_call (right_any _ 19 _ l2 (by omega) (by rfl) _)
 still_step
 still_step
 still_call (shifted_at _ Y 10 _ HY.out l2 (by omega) (by rfl) _)
 still_step
 refine wpStill_nil ?_
 clear c16' c7'
 go_wp2_with fail
 have h4 : (#[.int .u32 (p : Int), .int .u32 ((mix 7 18 3 x : Nat) : Int), .int .u32 (q : Int), .int .u32 ((mix 17 19 10 y : Nat) : Int)] : Array Value) = row32 [p, mix 7 18 3 x, q, mix 17 19 10 y] := by simp only [row32, List.map_cons, List.map_nil, w32]
 obtain ⟨S, hS⟩ : ∃ S, S = sumM [p, mix 7 18 3 x, q, mix 17 19 10 y] := ⟨_, rfl⟩
 have HS : Hid ((p + mix 7 18 3 x + q + mix 17 19 10 y) % 4294967296 = S) := Lib.hid (by rw [hS, sumM4])
 refine (sum_words _ [p, mix 7 18 3 x, q, mix 17 19 10 y] (by simp) (by simp [l16, lmx, l7, lmy]) _ _ (by rw [← h4]; exact heap_alloc_self _ _) _ _ rfl).mono ?_
 rintro e w2 ⟨rfl, rfl⟩
 rw [← hS]
 clear hS
 go_wp2
 go_ret
 exact ⟨ret_int (by rw [HS.out]), HB.out.alloc HB.out.size _⟩

/-- What Words answers. -/
def WordsAt (w : World) (ws : List Nat) (e : Ending) (w' : World) : Prop :=
 (∃ g c, e = .returned (.slice (some ⟨g, 0, none⟩) 64 c) ∧ w.heap.size ≤ g ∧ ∀ (j x : Nat), ws[j]? = some x → w'.cell? ⟨g, j, none⟩ = some (.int .u32 (x : Int))) ∧ Below w.heap.size w w'

set_option maxHeartbeats 2000000 in
theorem words_ref (bb at_ n cap : Nat) (B : List UInt8) (hB : B.length = 64) (w : World) (hblk : bb < w.heap.size) (hc : ∀ (j : Nat) (h : j < B.length), w.cell? ⟨bb, at_ + j, none⟩ = some (.int .u8 (B[j].toNat : Int))) (ha : at_ + 64 ≤ n) (hn : n ≤ 10000) :
  Calls Tryz.prog 104 #[.slice (some ⟨bb, 0, none⟩) n cap, .int .i64 at_] w (WordsAt w (sched (words16 B) 48)) := by
 have HC := Lib.hid hc
 have HBL := Lib.hid hB
 have HBK := Lib.hid hblk
 obtain ⟨i0, hi0, hz0, hz1, hz2⟩ := info_parts infoWord
 have I0 := Lib.hid hi0
 have I1 := Lib.hid hz0
 have I2 := Lib.hid hz1
 have I3 := Lib.hid hz2
 have ha' : (at_ : Int) + 64 ≤ n := by omega
 have hn' : (n : Int) ≤ 10000 := by omega
 clear hc hB hblk hi0 hz0 hz1 hz2
 go_enter Tryz.func104, Tryz.ntmps104
 go_wp2_with fail
 go_loopw [5, 6] (fun s5 s6 wr => ∃ i : Nat, i ≤ 16 ∧ s6 = .int .i64 i ∧ wr.ownsRow w.heap.size 123 1 s5 i (((words16 B).take i).map w32) ∧ Below w.heap.size w wr) (fun _ s6 _ => 16 - (intOf s6).toNat)
 case atStart => exact ⟨0, by omega, rfl, World.ownsRow_nil _ w.heap.size 123 1, Below.refl _ _⟩
 case round =>
  obtain ⟨i, hi, rfl, ho, hb⟩ := hrel
  have HO := Lib.hid ho
  have HB := Lib.hid hb
  clear ho hb
  by_cases hlt : i < 16
  ·have hlt' : (i : Int) < 16 := by omega
   go_wp2_with fail
   go_loop [7, 8] (fun s7 s8 => ∃ k : Nat, k ≤ 4 ∧ s8 = .int .i64 k ∧ s7 = .int .i64 ((hw ((B.drop (4 * i)).take k) : Nat) : Int)) (fun _ s8 => 4 - (intOf s8).toNat)
   case atStart => exact ⟨0, by omega, rfl, rfl⟩
   case round =>
    obtain ⟨k, hk, rfl, rfl⟩ := hrel
    have hV := hw_word ((B.drop (4 * i)).take k) (by rw [List.length_take]; omega)
    by_cases hkl : k < 4
    ·have hkl' : (k : Int) < 4 := by omega
     have hj : 4 * i + k < B.length := by have := HBL.out; omega
     have hcell := HC.out (4 * i + k) hj
     rw [← HB.out.cell (p := ⟨bb, at_ + (4 * i + k), none⟩) HBK.out] at hcell
     have hs : hw ((B.drop (4 * i)).take (k + 1)) = hw ((B.drop (4 * i)).take k) * 256 + B[4 * i + k].toNat := by
      rw [List.take_add_one, List.getElem?_drop, List.getElem?_eq_getElem hj]; exact hw_snoc _ _
     have hx := UInt8.toNat_lt B[4 * i + k]
     have hS3 := hw_short ((B.drop (4 * i)).take k) (by rw [List.length_take]; omega)
     have HS := Lib.hid hs
     clear hs
     obtain ⟨q, hq⟩ : ∃ q, q = at_ + (4 * i + k) := ⟨_, rfl⟩
     rw [← hq] at hcell
     have hqI : (at_ : Int) + 4 * (i : Int) + (k : Int) = q := by omega
     have hqn : (q : Int) < n := by omega
     clear hq
     generalize B[4 * i + k].toNat = x at *
     generalize hw ((B.drop (4 * i)).take k) = V at *
     go_wp2
     go_round
     case measure => simp [intOf]; omega
     case rel => exact ⟨k + 1, by omega, by go_num, by rw [HS.out]; congr 1; omega⟩
    ·obtain rfl : k = 4 := by omega
     have hkl' : ¬ (4 : Int) < 4 := by omega
     have hnext : ((words16 B).take (i + 1)).map w32 = ((words16 B).take i).map w32 ++ [.int .u32 ((hw ((B.drop (4 * i)).take 4) : Nat) : Int)] := by
      have hg : (words16 B)[i]? = some (hw ((B.drop (4 * i)).take 4)) := by
       unfold words16
       rw [List.getElem?_map, List.getElem?_range hlt]; rfl
      rw [List.take_add_one, hg, List.map_append]; rfl
     have HNX := Lib.hid hnext
     clear hnext
     generalize hw ((B.drop (4 * i)).take 4) = V at *
     go_wp2_with (refine wpList_append_cells (o := ⟨some 35, _, _, _, _, _⟩) rfl (.tmp 31) (.tmp 34) _ rfl Tryz.underlying147 I0.out I1.out rfl I2.out I3.out (by decide) rfl (owns_below HO.out (below_new _ _)) (news := [.int .u32 (V : Int)]) rfl (fun j u hj => by rw [World.cell?_alloc_new]; simpa using hj) (by simp [Value.oneCell']) (by simp; omega) (Nat.le_trans HB.out.size (by simp)) ?_; intro v4 w4 hown4 hgrow4)
     have b4 := ((HB.out.alloc HB.out.size (.cells #[.int .u32 (V : Int)] 123)).grown hgrow4 (Nat.le_trans HB.out.size (by simp)) (own_ge HO.out))
     rw [← HNX.out] at hown4
     have O4 := Lib.hid hown4
     have B4 := Lib.hid b4
     clear hown4 hgrow4 b4
     go_roundw
     case measure => simp [intOf]; omega
     case rel => exact ⟨i + 1, by omega, by go_num, O4.out, B4.out⟩
  ·obtain rfl : i = 16 := by omega
   have hlt' : ¬ (16 : Int) < 16 := by omega
   have W16 := Lib.hid (words16_ok B)
   have hO := HO.out
   rw [List.take_of_length_le (by rw [W16.out.1]; omega)] at hO
   have HO1 := Lib.hid hO
   clear hO HO hlt
   generalize words16 B = ws at *
   go_wp2_with fail
   go_loopw [5, 9] (fun s5 s9 wx => ∃ m : Nat, m ≤ 48 ∧ s9 = .int .i64 ((16 + m : Nat) : Int) ∧ wx.ownsRow w.heap.size 123 1 s5 (16 + m) ((sched ws m).map w32) ∧ Below w.heap.size w wx) (fun _ s9 _ => 64 - (intOf s9).toNat)
   case atStart => exact ⟨0, by omega, rfl, HO1.out, HB.out⟩
   case round =>
    obtain ⟨m, hm, rfl, ho, hb⟩ := hrel
    clear HO1 HB
    have HB := Lib.hid hb
    have SL : Hid ((sched ws m).length = 16 + m) := Lib.hid (by rw [sched_length, W16.out.1])
    have SOK := Lib.hid (sched_ok W16.out m)
    have hsucc : sched ws (m + 1) = sched ws m ++ [wordAt (sched ws m) (16 + m)] := rfl
    have HSU := Lib.hid hsucc
    rcases id ho.2 with ⟨-, h0⟩ | ⟨g, c, cur, rfl, hg, -, hcap, hmax, -, -⟩
    ·omega
    have HO := Lib.hid ho
    have HG := Lib.hid hg
    clear ho hb hsucc hg
    unfold maxLen at hmax
    obtain ⟨p, hp⟩ : ∃ p, p = 16 + m := ⟨_, rfl⟩
    rw [← hp] at HO SL SOK HSU hcap ⊢
    have HP := Lib.hid hp
    by_cases hlt : m < 48
    ·have hlt' : (p : Int) < 64 := by omega
     have hp0 : 16 ≤ p := by omega
     clear hp
     go_wp2_with fail
     have hcells : ∀ (j x : Nat), (sched ws m)[j]? = some x → wr.cell? ⟨g, j, none⟩ = some (.int .u32 (x : Int)) := fun j x hj => by
      have hj2 := (List.getElem?_eq_some_iff.1 hj).1
      rw [SL.out] at hj2
      rw [HO.out.cellAt j (by omega), List.getElem?_map, hj]; rfl
     have hcall := word_any g c p (p : Int) rfl (sched ws m) hp0 (by rw [SL.out]; exact Nat.le_refl _) (by rw [SL.out]; omega) SOK.out.2 wr hcells
     rw [SL.out] at hcall
     refine hcall.mono ?_
     clear hcells hcall
     rintro e w5 ⟨rfl, b⟩
     have hx := wordAt_lt (sched ws m) p
     have ho5 := owns_below HO.out b
     have hb5 := HB.out.trans (b.mono HB.out.size)
     have HO5 := Lib.hid ho5
     have HB5 := Lib.hid hb5
     clear b ho5 hb5 HO HB
     have hnext : (sched ws (m + 1)).map w32 = (sched ws m).map w32 ++ [.int .u32 ((wordAt (sched ws m) p : Nat) : Int)] := by
      rw [HSU.out, List.map_append]; rfl
     have HNX := Lib.hid hnext
     clear hnext
     generalize wordAt (sched ws m) p = V at *
     go_wp2_with (refine wpList_append_cells (o := ⟨some 45, _, _, _, _, _⟩) rfl (.tmp 40) (.tmp 44) _ rfl Tryz.underlying147 I0.out I1.out rfl I2.out I3.out (by decide) rfl (owns_below HO5.out (below_new _ _)) (news := [.int .u32 (V : Int)]) rfl (fun j u hj => by rw [World.cell?_alloc_new]; simpa using hj) (by simp [Value.oneCell']) (by simp; omega) (Nat.le_trans HB5.out.size (by simp)) ?_; intro v4 w4 hown4 hgrow4)
     have b4 := ((HB5.out.alloc HB5.out.size (.cells #[.int .u32 (V : Int)] 123)).grown hgrow4 (Nat.le_trans HB5.out.size (by simp)) (own_ge HO5.out))
     rw [← HNX.out] at hown4
     have O4 := Lib.hid hown4
     have B4 := Lib.hid b4
     clear hown4 hgrow4 b4
     go_roundw
     case measure => simp [intOf]; omega
     case rel => exact ⟨m + 1, by omega, by have := HP.out; rw [show ((16 + (m + 1) : Nat) : Int) = (p : Int) + 1 by omega], by have := HP.out; rw [show 16 + (m + 1) = p + 1 by omega]; exact O4.out, B4.out⟩
    ·obtain rfl : m = 48 := by omega
     obtain rfl : p = 64 := by omega
     have hlt' : ¬ (64 : Int) < 64 := by omega
     clear hp hlt
     go_wp2_with fail
     go_ret
     refine ⟨⟨g, c, rfl, HG.out, fun j x hj => ?_⟩, HB.out⟩
     have hj2 := (List.getElem?_eq_some_iff.1 hj).1
     rw [SL.out] at hj2
     rw [HO.out.cellAt j (by omega), List.getElem?_map, hj]; rfl
end Go.Proofs.YteloiajocjahmaaGreatDoor
