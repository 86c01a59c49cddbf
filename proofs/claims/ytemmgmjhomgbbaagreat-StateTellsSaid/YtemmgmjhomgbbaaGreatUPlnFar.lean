/-
 What is of the call's own from a mark on stays, whatever is written below the mark.
 Conditions: none.
-/
import Derived.Test.YtemmgmjhomgbbaaGreatUGPlnRefB
set_option linter.unusedVariables false
set_option linter.unusedSimpArgs false
set_option maxRecDepth 100000
namespace Go.Proofs.YtemmgmjhomgbbaaGreat
open Go.RowKit
theorem owns_afar {w w':World} {base e size n:Nat} {v:Value} {ys:List Value} (h:w.ownsRow base e size v n ys) (hb:∀i,base≤i→w'.heap[i]? = w.heap[i]?):w'.ownsRow base e size v n ys:=by
 refine⟨h.1,?_⟩
 rcases h.2 with h|⟨g,cap,cur,h1,h2,h3,h4⟩
 ·exact .inl h
 ·exact .inr ⟨g,cap,cur,h1,h2,(hb g h2).trans h3,h4⟩
theorem zA3 {α:Type} {T:TypeId} {sz:Nat} {R:El α} {W W':World} {lo:Nat} {v:Value} {l:List α} (hR:∀(c:Nat→Option Value) (x:α),R W W.heap.size c x→R W' W'.heap.size c x) (h:zJ T sz R W lo v l) (hb:∀i,lo≤i→W'.heap[i]? = W.heap[i]?):zJ T sz R W' lo v l:=by
 obtain⟨yss,ho,h1,hm,hs,ht⟩:=h
 exact⟨yss,owns_afar ho hb,h1,hm,hs,fun j ys x a b=>hR _ _ (ht j ys x a b)⟩
theorem zBz.far {W W':World} {lo:Nat} {u3 u4 u5:Value} {r:Rt} (h:zBz W lo u3 u4 u5 r) (hb:∀i,lo≤i→W'.heap[i]? = W.heap[i]?):zBz W' lo u3 u4 u5 r:=
 ⟨zA3 (fun _ _ h=>jW h) h.path hb,zA3 (fun _ _ h=>jW h) h.over hb,zA3 (fun _ _ h=>zAn h) h.flanks hb⟩
theorem PlOwn.far {W W':World} {lo:Nat} {u2 u3 u4 u5:Value} {p:Pl} (h:PlOwn W lo u2 u3 u4 u5 p) (hb:∀i,lo≤i→W'.heap[i]? = W.heap[i]?) (hs:W'.heap.size=W.heap.size):PlOwn W' lo u2 u3 u4 u5 p:=by
 refine⟨zA3 (fun c x h=>?_) h.secs hb,zA3 (fun _ _ h=>zAn h) h.pts hb,zA3 (fun _ _ h=>zAc h) h.sigs hb,zA3 (fun c x h=>?_) h.routes hb⟩
 ·obtain⟨h0,h1,u,h2,h3,h4⟩:=h
  exact⟨h0,h1,u,h2,zA3 (fun _ _ h=>zAn h) h3 hb,fun k hk=>by rw[hs];exact h4 k hk⟩
 ·obtain⟨h0,h1,h2,h6,u3,u4,u5,h3,h4,h5,h,b3,b4,b5⟩:=h
  exact⟨h0,h1,h2,h6,u3,u4,u5,h3,h4,h5,h.far hb,fun k hk=>by rw[hs];exact b3 k hk,fun k hk=>by rw[hs];exact b4 k hk,fun k hk=>by rw[hs];exact b5 k hk⟩
theorem PlOwn.set {W:World} {lo:Nat} {u2 u3 u4 u5:Value} {p:Pl} (h:PlOwn W lo u2 u3 u4 u5 p) {g:Nat} (hg:g<lo) (k:Nat) (x:Value):PlOwn (W.setCell ⟨g,k,none⟩ x) lo u2 u3 u4 u5 p:=
 h.far (fun i hi=>xE W g k i x (by omega)) (by simp[World.setCell])
end Go.Proofs.YtemmgmjhomgbbaaGreat
