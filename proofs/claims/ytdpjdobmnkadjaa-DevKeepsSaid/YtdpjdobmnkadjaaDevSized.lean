/-
  A disk that comes in as an argument: its lists, and how long they are at most, by what is read before the call.
  Conditions: none.
-/
import Derived.Test.YtdpjdobmnkadjaaDevArgs
import Derived.SizedLaws
set_option linter.unusedVariables false
set_option linter.unusedSimpArgs false
namespace Go.Proofs.Ytdpjdobmnkadjaa
open Go.ChangeShapes Go.WideShapes Go.ChangeAt Go.RowKit Go.Joins Go.Deep

theorem weightsAll_mem_ {H : Type} {P : Program} {e : TypeId} : ∀ {xs : List (DataW H)} {d : DataW H} (hd : d ∈ xs) (n : Nat) (hn : n ∈ d.weights P e), n ∈ DataW.weightsAll P e xs
  | [], d, hd, n, hn => by cases hd
  | x :: xs, d, hd, n, hn => by
    simp only [DataW.weightsAll, List.mem_append]
    rcases List.mem_cons.1 hd with rfl | h
    · exact Or.inl hn
    · exact Or.inr (weightsAll_mem_ h n hn)
theorem bytes8 : Try.prog.bytesOf 5 = 1 := by kernel_rfl
theorem bytesSl : Try.prog.bytesOf 30 = 24 := by kernel_rfl
theorem bytesWr : Try.prog.bytesOf 58 = 32 := by kernel_rfl

theorem txt_of_sized {H : Type} {enc : TypeId × Value → H} {W : World} {n K : Nat} {v : Value} {y : DataW H × List MemPlace} (h : DataW.trod enc Try.prog W 0 (fun _ => true) true n 30 [v] = some y) (hK : ∀ k ∈ y.1.weights Try.prog 30, k ≤ K) :
    ∃ xs, Txt W W.heap.size v xs ∧ xs.length ≤ K := by
  obtain ⟨xs, hx⟩ := txt_of_trod h
  refine ⟨xs, hx, ?_⟩
  obtain ⟨A, cap, hv, h1, h2, hn, h3⟩ := hx
  rcases open_ints Try.underlying30 Try.underlying5 (by kernel_rfl) h with ⟨hcs, _⟩ | ⟨x, l, c, zs, hcs, _, hl, hm, hz, hy, hcell, hwz⟩
  · simp at hcs
    rw [hcs] at hv
    injection hv with e1 e2 e3
    omega
  · simp at hcs
    rw [hcs] at hv
    injection hv with e1 e2 e3
    simp only [if_true] at hz
    have hw := hK ((List.length (lits (H := H) .u8 (zs.take l)) + List.length (lits (H := H) .u8 (zs.drop l))) * Try.prog.bytesOf 5) (by
      rw [hy]
      simp [DataW.weights, Try.underlying30])
    rw [bytes8] at hw
    simp only [lits, List.length_map, List.length_take, List.length_drop, Nat.mul_one] at hw
    omega

theorem secs_of_sized {H : Type} {enc : TypeId × Value → H} {W : World} {n K : Nat} {v : Value} {y : DataW H × List MemPlace} (h : DataW.trod enc Try.prog W 0 (fun _ => true) true n 22 [v] = some y) (hK : ∀ k ∈ y.1.weights Try.prog 22, k ≤ K) :
    ∃ ss, SecsIn W W.heap.size v ss ∧ ss.length ≤ K ∧ ∀ s ∈ ss, s.length ≤ K := by
  rcases open_slice Try.underlying22 h with ⟨hcs, _⟩ | ⟨a, len, cap, m, n', D, Pl, hcs, _, hl, hm, hmm, hy, hi⟩
  · simp at hcs
    subst hcs
    exact ⟨[], SecsIn.nil_, by simp, fun s hs => by simp at hs⟩
  · simp at hcs
    subst hcs
    simp only [if_true] at hmm
    have hC : Try.prog.cellsOf 30 = 1 := by kernel_rfl
    have each : ∀ i, ∃ xs : Bs, i < len → (∃ u, W.cell? (a.add i) = some u ∧ Txt W W.heap.size u xs) ∧ xs.length ≤ K := fun i => by
      by_cases him : i < len
      · obtain ⟨cs', hc, ht⟩ := hi i (by omega)
        rw [hC, Nat.mul_one] at hc
        obtain ⟨_, hcl, hat⟩ := World.cells?_some hc
        match cs', hcl with
        | [u], _ =>
          obtain ⟨xs, hx, hxl⟩ := txt_of_sized ht (K := K) (fun k hk => hK k (by
            rw [hy]
            simp only [DataW.weights, Try.underlying22, List.mem_cons, List.mem_append]
            exact .inr (.inl (weightsAll_mem_ (List.mem_map.2 ⟨i, List.mem_range.2 him, rfl⟩) k hk))))
          have h0 := hat 0 (by omega)
          rw [Addr.add_add, Nat.add_zero] at h0
          exact ⟨xs, fun _ => ⟨⟨u, h0, hx⟩, hxl⟩⟩
      · exact ⟨[], fun h => absurd h him⟩
    obtain ⟨f, hf⟩ := Classical.axiomOfChoice each
    have hlen : ((List.range len).map f).length = len := by simp
    refine ⟨(List.range len).map f, ⟨some a, cap, by rw [hlen], by rw [hlen]; exact hl, hm, fun e => (by cases e), fun hp => ?_⟩, ?_, fun s hs => ?_⟩
    · rw [hlen] at hp
      obtain ⟨⟨u0, h0, _⟩, _⟩ := hf 0 (by omega)
      obtain ⟨b, off, rfl⟩ := addr_plain (by omega) h0
      refine ⟨b, off, rfl, by simpa [Addr.add] using cell_lt h0, fun j hj => ?_⟩
      rw [hlen] at hj
      obtain ⟨⟨u, hu, ht⟩, _⟩ := hf j (by omega)
      rw [Addr.add_lit] at hu
      exact ⟨u, hu, by simpa using ht⟩
    · have hw := hK ((((List.range len).map D).length + ((List.range (m - len)).map fun j => D (len + j)).length) * Try.prog.bytesOf 30) (by
        rw [hy]
        simp [DataW.weights, Try.underlying22])
      rw [bytesSl] at hw
      simp only [List.length_map, List.length_range] at hw
      rw [hlen]
      omega
    · obtain ⟨i, hi, rfl⟩ := List.mem_map.1 hs
      exact (hf i (List.mem_range.1 hi)).2

def atFit (x : Wr) : Prop := -9223372036854775808 ≤ x.1 ∧ x.1 ≤ 9223372036854775807
theorem wts_of_sized {H : Type} {enc : TypeId × Value → H} {W : World} {n K : Nat} {v : Value} {y : DataW H × List MemPlace} (h : DataW.trod enc Try.prog W 0 (fun _ => true) true n 23 [v] = some y) (hK : ∀ k ∈ y.1.weights Try.prog 23, k ≤ K) :
    ∃ ws, WtsIn W W.heap.size v ws ∧ ws.length ≤ K ∧ ∀ x ∈ ws, x.2.length ≤ K ∧ atFit x := by
  rcases open_slice Try.underlying23 h with ⟨hcs, _⟩ | ⟨a, len, cap, m, n', D, Pl, hcs, _, hl, hm, hmm, hy, hi⟩
  · simp at hcs
    subst hcs
    exact ⟨[], WtsIn.nil_, by simp, fun s hs => by simp at hs⟩
  · simp at hcs
    subst hcs
    simp only [if_true] at hmm
    have hC : Try.prog.cellsOf 58 = 2 := by kernel_rfl
    have hC3 : Try.prog.cellsOf 3 = 1 := by kernel_rfl
    have hC30 : Try.prog.cellsOf 30 = 1 := by kernel_rfl
    have each : ∀ i, ∃ x : Wr, i < len → (∃ u, W.cell? (a.add (i * 2)) = some (.int .i64 x.1) ∧ W.cell? (a.add (i * 2 + 1)) = some u ∧ Txt W W.heap.size u x.2) ∧ x.2.length ≤ K ∧ atFit x := fun i => by
      by_cases him : i < len
      · obtain ⟨cs', hc, ht⟩ := hi i (by omega)
        rw [hC] at hc
        obtain ⟨_, hcl, hat⟩ := World.cells?_some hc
        match cs', hcl with
        | [c0, c1], _ =>
          obtain ⟨y0, y1, k, hyy, _, h0, h1⟩ := trod_struct2 Try.underlying58 ht
          simp only [hC3, hC30, List.drop_zero, List.drop_succ_cons, List.take_succ_cons, List.take_zero] at h0 h1
          obtain ⟨z, e0, _, hwf⟩ := DataW.trod_int Try.underlying3 h0
          have hD : D i = .agg [y0.1, y1.1] := congrArg Prod.fst hyy
          obtain ⟨xs, hx, hxl⟩ := txt_of_sized h1 (K := K) (fun k hk => hK k (by
            rw [hy]
            simp only [DataW.weights, Try.underlying23, List.mem_cons, List.mem_append]
            refine .inr (.inl (weightsAll_mem_ (List.mem_map.2 ⟨i, List.mem_range.2 him, rfl⟩) k ?_))
            rw [hD]
            simp only [DataW.weights, Try.underlying58, List.map_cons, List.map_nil, DataW.weightsEach, List.mem_append]
            exact .inr (.inl hk)))
          have g0 := hat 0 (by omega)
          have g1 := hat 1 (by omega)
          rw [Addr.add_add, Nat.add_zero] at g0
          rw [Addr.add_add] at g1
          cases e0
          exact ⟨(z, xs), fun _ => ⟨⟨c1, g0, g1, hx⟩, hxl, by simpa [atFit] using range_i64 (zs := [z]) (fun n hn => by rw [List.mem_singleton.1 hn]; exact hwf) 0⟩⟩
      · exact ⟨(0, []), fun h => absurd h him⟩
    obtain ⟨f, hf⟩ := Classical.axiomOfChoice each
    have hlen : ((List.range len).map f).length = len := by simp
    refine ⟨(List.range len).map f, ⟨some a, cap, by rw [hlen], by rw [hlen]; exact hl, hm, fun e => (by cases e), fun hp => ?_⟩, ?_, fun s hs => ?_⟩
    · rw [hlen] at hp
      obtain ⟨⟨u0, h0, _⟩, _⟩ := hf 0 (by omega)
      obtain ⟨b, off, rfl⟩ := addr_plain (by omega) h0
      refine ⟨b, off, rfl, by simpa [Addr.add] using cell_lt h0, fun j hj => ?_⟩
      rw [hlen] at hj
      obtain ⟨⟨u, hu0, hu1, ht⟩, _⟩ := hf j (by omega)
      rw [Addr.add_lit] at hu0 hu1
      refine ⟨u, by simpa using hu0, ?_, by simpa using ht⟩
      rw [← Nat.add_assoc] at hu1
      exact hu1
    · have hw := hK ((((List.range len).map D).length + ((List.range (m - len)).map fun j => D (len + j)).length) * Try.prog.bytesOf 58) (by
        rw [hy]
        simp [DataW.weights, Try.underlying23])
      rw [bytesWr] at hw
      simp only [List.length_map, List.length_range] at hw
      rw [hlen]
      omega
    · obtain ⟨i, hi, rfl⟩ := List.mem_map.1 hs
      exact (hf i (List.mem_range.1 hi)).2

/-- How long a disk's lists are at most, as they are read before the call. -/
structure Reach47 (ss : List Bs) (ws : List Wr) : Prop where
  n : ss.length ≤ 140737488351232
  m : ws.length ≤ 140737488351232
  s : ∀ s ∈ ss, s.length ≤ 140737488351232
  w : ∀ x ∈ ws, x.2.length ≤ 140737488351232 ∧ atFit x
theorem disk_of_sized {H : Type} {enc : TypeId × Value → H} {W : World} {base : Nat} {v : Value} {d : DataW H} {p : List MemPlace} (hval : Value.okWide Try.prog W .any base 25 v) (h : DataW.Trod enc Try.prog W 0 (fun _ => true) true 25 v d p) (hK : ∀ k ∈ d.weights Try.prog 25, k ≤ reachBytes) :
    ∃ ss ws, DiskIn W W.heap.size v ss ws ∧ Reach47 ss ws := by
  obtain ⟨v0, v1, y0, y1, n, rfl, rfl, _, h0, h1⟩ := open_agg2 Try.underlying25 (by kernel_rfl) (by kernel_rfl) hval h
  have hk : ∀ k, k ∈ y0.1.weights Try.prog 22 ∨ k ∈ y1.1.weights Try.prog 23 → k ≤ 140737488351232 := fun k hk => hK k (by
    simp only [DataW.weights, Try.underlying25, List.map_cons, List.map_nil, DataW.weightsEach, List.mem_append]
    rcases hk with h | h
    · exact .inl h
    · exact .inr (.inl h))
  obtain ⟨ss, hs, hs1, hs2⟩ := secs_of_sized h0 (fun k h => hk k (.inl h))
  obtain ⟨ws, hw, hw1, hw2⟩ := wts_of_sized h1 (fun k h => hk k (.inr h))
  exact ⟨ss, ws, ⟨v0, v1, rfl, hs, hw⟩, ⟨hs1, hw1, hs2, hw2⟩⟩
end Go.Proofs.Ytdpjdobmnkadjaa
