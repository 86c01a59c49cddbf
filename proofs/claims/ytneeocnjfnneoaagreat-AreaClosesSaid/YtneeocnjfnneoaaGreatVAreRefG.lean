/-
 The document's own package area: Uses.
 Conditions: none.
-/
import Derived.Test.YtneeocnjfnneoaaGreatVGAreRefA
import Derived.Test.YtneeocnjfnneoaaGreatVGAreM
set_option linter.unusedVariables false
set_option linter.unusedSimpArgs false
set_option maxRecDepth 100000
namespace Go.Proofs.YtneeocnjfnneoaaGreat
open Go.RowKit

def RtAt (W : World) (b a : Nat) (r : Rt) (y3 y4 y5 : Value) : Prop := W.cell? ⟨b, a, none⟩ = some (.int .i64 r.id) ∧ W.cell? ⟨b, a + 1, none⟩ = some (.int .i64 r.entry) ∧ W.cell? ⟨b, a + 2, none⟩ = some (.int .i64 r.exit) ∧ W.cell? ⟨b, a + 3, none⟩ = some y3 ∧ W.cell? ⟨b, a + 4, none⟩ = some y4 ∧ W.cell? ⟨b, a + 5, none⟩ = some y5 ∧ W.cell? ⟨b, a + 6, none⟩ = some (.int .i64 r.timer)
theorem RtAt.cells {W : World} {b a : Nat} {r : Rt} {y3 y4 y5 : Value} (h : RtAt W b a r y3 y4 y5) : W.cell? ⟨b, a, none⟩ = some (.int .i64 r.id) ∧ W.cell? ⟨b, a + 1, none⟩ = some (.int .i64 r.entry) ∧ W.cell? ⟨b, a + 2, none⟩ = some (.int .i64 r.exit) ∧ W.cell? ⟨b, a + 3, none⟩ = some y3 ∧ W.cell? ⟨b, a + 4, none⟩ = some y4 ∧ W.cell? ⟨b, a + 5, none⟩ = some y5 ∧ W.cell? ⟨b, a + 6, none⟩ = some (.int .i64 r.timer) := h
theorem RtAt.below {W W' : World} {b a : Nat} {r : Rt} {y3 y4 y5 : Value} {B : Nat} (h : RtAt W b a r y3 y4 y5) (hb : Below B W W') (hlt : b < B) : RtAt W' b a r y3 y4 y5 := by
 obtain ⟨h0, h1, h2, h3, h4, h5, h6⟩ := h
 exact ⟨(hb.cell (p := ⟨b, a, none⟩) hlt).trans h0, (hb.cell (p := ⟨b, a + 1, none⟩) hlt).trans h1, (hb.cell (p := ⟨b, a + 2, none⟩) hlt).trans h2, (hb.cell (p := ⟨b, a + 3, none⟩) hlt).trans h3, (hb.cell (p := ⟨b, a + 4, none⟩) hlt).trans h4, (hb.cell (p := ⟨b, a + 5, none⟩) hlt).trans h5, (hb.cell (p := ⟨b, a + 6, none⟩) hlt).trans h6⟩
end Go.Proofs.YtneeocnjfnneoaaGreat
