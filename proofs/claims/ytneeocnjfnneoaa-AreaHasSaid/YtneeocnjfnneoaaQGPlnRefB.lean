/-
 Lists, routes and plans of the call's own.
 Conditions: none.
-/
import Derived.Test.YtneeocnjfnneoaaQGPlnRefA
import Derived.Test.YtneeocnjfnneoaaQGBase
import Derived.Test.YtneeocnjfnneoaaQGTrkRef
set_option linter.unusedVariables false
set_option linter.unusedSimpArgs false
set_option maxRecDepth 100000
namespace Go.Proofs.Ytneeocnjfnneoaa
open Go.RowKit

/-- Elements that hold no memory. -/
def FlatR {α : Type} (R : El α) : Prop := ∀ {W W' : World} {B B' : Nat} {c : Nat → Option Value} {x : α}, R W B c x → R W' B' c x
theorem intF : FlatR IntR := fun h => h
section
variable {α : Type} {T : TypeId} {sz : Nat} {R : El α} {W W' : World} {lo : Nat} {v : Value} {l : List α}
theorem own_kept (hf : FlatR R) {g : Nat} (h : ListOwn T sz R W lo v l) (hg : W.grownBy W' (some g)) (hc : ∀ k, v.ownBlock = some k → k ≠ g) : ListOwn T sz R W' lo v l := by
 obtain ⟨yss, ho, hl, hm, hs, ht⟩ := h
 refine ⟨yss, ho.kept hg ?_, hl, hm, hs, fun j ys x h1 h2 => hf (ht j ys x h1 h2)⟩
 cases hv : v.ownBlock with
 | none => exact .inl rfl
 | some k => refine .inr (fun e => ?_); injection e with e; exact hc k hv e
theorem own_block (h : ListOwn T sz R W lo v l) {k : Nat} (hk : v.ownBlock = some k) : ∃ cur, W.heap[k]? = some (.cells cur T (0, 0)) ∧ lo ≤ k := by
 obtain ⟨yss, ho, _⟩ := h
 exact owns_block ho hk
end
abbrev IntsOwn (W : World) (lo : Nat) (v : Value) (l : List Int) : Prop := ListOwn 3 1 IntR W lo v l
end Go.Proofs.Ytneeocnjfnneoaa
