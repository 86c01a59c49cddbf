/-
 The program's package state: what it keeps, in one.
 Conditions: none.
-/
import Derived.Test.YtemmgmjhomgbbaaQStaPH
import Derived.Test.YtemmgmjhomgbbaaQGStaPI
import Derived.Test.YtemmgmjhomgbbaaQGStaPC
import Derived.Test.YtemmgmjhomgbbaaQStaMix
import Derived.Test.YtemmgmjhomgbbaaQGStaMem
import Derived.Test.YtemmgmjhomgbbaaQGSndPA
set_option linter.unusedVariables false
set_option linter.unusedSimpArgs false
set_option maxRecDepth 100000
namespace Go.Proofs.Ytemmgmjhomgbbaa
open Go.RowKit

theorem staSaid (hs : SndSaid) : StaSaid where
 at_ := at15_any hs
 check := check15_any hs
 holder := holder15_any hs
 asked := asked15_any hs
 kept := kept15_any
 same := same15_any
 twin := twin15_any
end Go.Proofs.Ytemmgmjhomgbbaa
