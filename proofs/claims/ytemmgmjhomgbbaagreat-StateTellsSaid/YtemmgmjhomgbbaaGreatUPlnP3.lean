/-
 The program's package plan: copies, Twin, found, Point, Signal, Route, Stands.
 Conditions: none.
-/
import Derived.Test.YtemmgmjhomgbbaaGreatUPlnP1
import Derived.Test.YtemmgmjhomgbbaaGreatUGTrkPH
import Derived.Test.YtemmgmjhomgbbaaGreatUGPlnRefD
import Derived.Test.YtemmgmjhomgbbaaGreatUPlnP2
set_option linter.unusedVariables false
set_option linter.unusedSimpArgs false
set_option maxRecDepth 100000
namespace Go.Proofs.YtemmgmjhomgbbaaGreat
open Go.RowKit
theorem clone_int (v:Value) (l:List Int) (w:World) (h:xB w w.heap.size v l) (hl:l.length≤1000):
  Calls Tryz.prog 114 #[v] w fun e w'=>∃u,e = .returned u∧qV w' w.heap.size u l∧Below w.heap.size w w':=by
 have H:=zD0 h
 have HLEN:=zD0 hl
 obtain⟨A,cap,rfl,-,-,hn,-⟩:=h
 cases A with
 | none=>
  obtain rfl:=hn rfl
  have hx:l=[]:=by obtain⟨A',c',e,h1,_⟩:=H.out;cases e;exact List.eq_nil_of_length_eq_zero (by omega)
  subst hx
  have he:∀w:World,(binOp .eql 61 (.slice none 0 0) (.slice none 0 0)).run Tryz.prog w = .ok (.bool true) w:=fun _=>rfl
  go_enter Tryz.func114,Tryz.ntmps114
  go_wp2_with fail
  go_ret
  exact⟨_,rfl,zJ.nil_,Below.refl _ _⟩
 | some a=>
  obtain⟨i0,hi,hz0,hz1,hz2⟩:=info_parts zAz
  have I0:=zD0 hi
  have I1:=zD0 hz0
  have I2:=zD0 hz1
  have I3:=zD0 hz2
  obtain⟨n,hn2⟩:=zD1 (l.length)
  have HN:=zD0 hn2
  have HA:Hid (xB w w.heap.size (.slice (some a) n cap) l):=zD0 (by rw[hn2];exact H.out)
  rw[←hn2]
  have he:∀w:World,(binOp .eql 61 (.slice (some a) n cap) (.slice none 0 0)).run Tryz.prog w = .ok (.bool false) w:=fun _=>rfl
  have hq0:=zB w (.cells #[] 3)
  have hqb:=zD w (.cells #[] 3)
  obtain⟨yss,hy1,hy2,hy3,hy4,hy5,hy6,hy7⟩:=((HA.out.below qI hqb).more qI hqb.size).cells (by omega) kS zZ
  have Y1:=zD0 hy1
  have Y2:=zD0 hy2
  have Y3:=zD0 hy3
  have Y4:=zD0 hy4
  have Y6:=zD0 hy6
  have Y7:=zD0 hy7
  have YL:Hid (yss.flatten.length=n*1):=zD0 (by rw[xA _ hy2,hy1,HN.out])
  have Q0:=zD0 hq0
  have QB:=zD0 hqb
  have NL:Hid (n≤1000):=zD0 (by rw[HN.out];exact HLEN.out)
  clear hi hz0 hz1 hz2 hn hl hn2 H hy1 hy2 hy3 hy4 hy5 hy6 hy7 hq0 hqb
  go_enter Tryz.func114,Tryz.ntmps114
  go_wp2_with ((with_reducible show wpList _ _ _ (⟨some 7,_,_,_,_,_⟩::_) _ _);refine zQ rfl (.tmp 5) (.tmp 6) _ rfl Tryz.underlying61 I0.out I1.out rfl I2.out (by decide) I3.out (by decide) rfl (base:=w.heap.size) (n:=0) (ys:=[]) ⟨rfl,.inr ⟨_,_,_,rfl,Nat.le_refl _,Q0.out,Nat.zero_le _,Nat.zero_le _,rfl,rfl⟩⟩ rfl YL.out Y4.out Y7.out Y6.out (by have:=NL.out;omega) QB.out.size ?_;intro v1 w1 hown1 hgrow1)
  go_ret
  rw[Nat.zero_add,List.nil_append] at hown1
  have hb1:Below w.heap.size w w1:=QB.out.grown hgrow1 (by simp) (fun k hk=>by cases hk;exact Nat.le_refl _)
  exact⟨_,rfl,⟨yss,by rw[←HN.out];exact hown1,Y1.out,by rw[←HN.out];have:=NL.out;unfold maxLen;omega,Y2.out,fun j ys x h1 h2=>Y3.out j ys x h1 h2⟩,hb1⟩
end Go.Proofs.YtemmgmjhomgbbaaGreat
