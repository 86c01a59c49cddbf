/-
 The document's own package state: phase, Section, Point, Way.
 Conditions: none.
-/
import Derived.Test.YtemmgmjhomgbbaaGreatUGStaMem
import Derived.Test.YtemmgmjhomgbbaaGreatUGStaG
import Derived.Test.YtemmgmjhomgbbaaGreatUGWayRefF
import Derived.Test.YtemmgmjhomgbbaaGreatUGPlnRefA
import Derived.Test.YtemmgmjhomgbbaaGreatUGPlnRefC
import Derived.Test.YtemmgmjhomgbbaaGreatUGTrkRef
set_option linter.unusedVariables false
set_option linter.unusedSimpArgs false
set_option maxRecDepth 100000
namespace Go.Proofs.YtemmgmjhomgbbaaGreat
open Go.RowKit
set_option maxHeartbeats 4000000 in
theorem rphase15_any (a b c d:Int) (n:Nat) (tm:Int) (hm:n≤9223372036854775807) (w:World):
  Calls Tryz.prog 82 #[.agg #[.int .i64 a,.int .u8 b,.int .i64 c,.int .i64 d],.int .i64 n,.int .i64 tm] w fun e w'=>e = .returned (.bool (zO (a,b,c,d) n tm))∧Below w.heap.size w w':=by
 have x0:=zB w (.cells #[.int .i64 a,.int .u8 b,.int .i64 c,.int .i64 d] 53)
 have b0:=zD w (.cells #[.int .i64 a,.int .u8 b,.int .i64 c,.int .i64 d] 53)
 go_enter Tryz.func82,Tryz.ntmps82
 go_upto_region 1 with fail
 generalize w.alloc (.cells #[.int .i64 a,.int .u8 b,.int .i64 c,.int .i64 d] 53)=q at x0 b0⊢
 have QB:=zD0 b0
 obtain⟨k0,k1,k2,k3⟩:=qC x0
 clear x0 b0
 obtain⟨L,hL⟩:∃L:Int,L=(n:Int)-1:=⟨_,rfl⟩
 have hw:IntKind.i64.wrap ((n:Int)-1)=L:=by rw[kA (by omega) (by omega),hL]
 have HL:=zD0 hL
 clear hL hm
 by_cases hr1:d≥1
 rotate_left
 ·have hr1':decide (d≥1)=false:=decide_eq_false hr1
  go_upto_region 2 with fail
  by_cases hb0:b=0
  ·subst hb0
   by_cases hc:c=0
   ·have hc':(c==0)=true:=by simpa using hc
    by_cases hd:d=0
    ·have hd':(d==0)=true:=by simpa using hd
     have HD:Hid (zO (a,0,c,d) n tm=true):=zD0 (decide_eq_true (by have:=HL.out;show zH _ _ _;unfold zH;dsimp only;omega))
     clear hc hd
     go_wp2_with fail
     go_ret
     exact⟨by rw[HD.out];rfl,QB.out⟩
    ·have hd':(d==0)=false:=by simpa using hd
     have HD:Hid (zO (a,0,c,d) n tm=false):=zD0 (decide_eq_false (by have:=HL.out;show¬zH _ _ _;unfold zH;dsimp only;omega))
     clear hc hd
     go_wp2_with fail
     go_ret
     exact⟨by rw[HD.out];rfl,QB.out⟩
   ·have hc':(c==0)=false:=by simpa using hc
    have HD:Hid (zO (a,0,c,d) n tm=false):=zD0 (decide_eq_false (by have:=HL.out;show¬zH _ _ _;unfold zH;dsimp only;omega))
    clear hc
    go_wp2_with fail
    go_ret
    exact⟨by rw[HD.out];rfl,QB.out⟩
  have hb0':(b==0)=false:=by simpa using hb0
  by_cases hb1:b=1
  ·subst hb1
   by_cases hc:c=0
   ·have hc':(c==0)=true:=by simpa using hc
    by_cases hd:d=0
    ·have hd':(d==0)=true:=by simpa using hd
     have HD:Hid (zO (a,1,c,d) n tm=true):=zD0 (decide_eq_true (by have:=HL.out;show zH _ _ _;unfold zH;dsimp only;omega))
     clear hc hd
     go_wp2_with fail
     go_ret
     exact⟨by rw[HD.out];rfl,QB.out⟩
    ·have hd':(d==0)=false:=by simpa using hd
     have HD:Hid (zO (a,1,c,d) n tm=false):=zD0 (decide_eq_false (by have:=HL.out;show¬zH _ _ _;unfold zH;dsimp only;omega))
     clear hc hd
     go_wp2_with fail
     go_ret
     exact⟨by rw[HD.out];rfl,QB.out⟩
   ·have hc':(c==0)=false:=by simpa using hc
    have HD:Hid (zO (a,1,c,d) n tm=false):=zD0 (decide_eq_false (by have:=HL.out;show¬zH _ _ _;unfold zH;dsimp only;omega))
    clear hc
    go_wp2_with fail
    go_ret
    exact⟨by rw[HD.out];rfl,QB.out⟩
  have hb1':(b==1)=false:=by simpa using hb1
  by_cases hb2:b=2
  ·subst hb2
   by_cases hc1:c≥0
   ·have hc1':decide (c≥0)=true:=decide_eq_true hc1
    by_cases hc2:c<(n:Int)
    ·have hc2':decide (c<(n:Int))=true:=decide_eq_true hc2
     by_cases hd:d=0
     ·have hd':(d==0)=true:=by simpa using hd
      have HD:Hid (zO (a,2,c,d) n tm=true):=zD0 (decide_eq_true (by have:=HL.out;show zH _ _ _;unfold zH;dsimp only;omega))
      clear hd
      go_wp2_with fail
      go_ret
      exact⟨by rw[HD.out];rfl,QB.out⟩
     ·have hd':(d==0)=false:=by simpa using hd
      have HD:Hid (zO (a,2,c,d) n tm=false):=zD0 (decide_eq_false (by have:=HL.out;show¬zH _ _ _;unfold zH;dsimp only;omega))
      clear hd
      go_wp2_with fail
      go_ret
      exact⟨by rw[HD.out];rfl,QB.out⟩
    ·have hc2':decide (c<(n:Int))=false:=decide_eq_false hc2
     have HD:Hid (zO (a,2,c,d) n tm=false):=zD0 (decide_eq_false (by have:=HL.out;show¬zH _ _ _;unfold zH;dsimp only;omega))
     go_wp2_with fail
     go_ret
     exact⟨by rw[HD.out];rfl,QB.out⟩
   ·have hc1':decide (c≥0)=false:=decide_eq_false hc1
    have HD:Hid (zO (a,2,c,d) n tm=false):=zD0 (decide_eq_false (by have:=HL.out;show¬zH _ _ _;unfold zH;dsimp only;omega))
    go_wp2_with fail
    go_ret
    exact⟨by rw[HD.out];rfl,QB.out⟩
  have hb2':(b==2)=false:=by simpa using hb2
  by_cases hb3:b=3
  ·subst hb3
   by_cases hc:c=L
   ·have hc':(c==L)=true:=by simpa using hc
    have HD:Hid (zO (a,3,c,d) n tm=false):=zD0 (decide_eq_false (by have:=HL.out;show¬zH _ _ _;unfold zH;dsimp only;omega))
    clear hc
    go_wp2_with fail
    go_ret
    exact⟨by rw[HD.out];rfl,QB.out⟩
   ·have hc':(c==L)=false:=by simpa using hc
    have HD:Hid (zO (a,3,c,d) n tm=false):=zD0 (decide_eq_false (by have:=HL.out;show¬zH _ _ _;unfold zH;dsimp only;omega))
    clear hc
    go_wp2_with fail
    go_ret
    exact⟨by rw[HD.out];rfl,QB.out⟩
  have hb3':(b==3)=false:=by simpa using hb3
  by_cases hb4:b=4
  ·subst hb4
   by_cases hc:c=0
   ·have hc':(c==0)=true:=by simpa using hc
    have HD:Hid (zO (a,4,c,d) n tm=false):=zD0 (decide_eq_false (by have:=HL.out;show¬zH _ _ _;unfold zH;dsimp only;omega))
    clear hc
    go_wp2_with fail
    go_ret
    exact⟨by rw[HD.out];rfl,QB.out⟩
   ·have hc':(c==0)=false:=by simpa using hc
    have HD:Hid (zO (a,4,c,d) n tm=false):=zD0 (decide_eq_false (by have:=HL.out;show¬zH _ _ _;unfold zH;dsimp only;omega))
    clear hc
    go_wp2_with fail
    go_ret
    exact⟨by rw[HD.out];rfl,QB.out⟩
  have hb4':(b==4)=false:=by simpa using hb4
  have HD:Hid (zO (a,b,c,d) n tm=false):=zD0 (decide_eq_false (by have:=HL.out;show¬zH _ _ _;unfold zH;dsimp only;omega))
  clear hb0 hb1 hb2 hb3 hb4
  go_wp2_with fail
  go_ret
  exact⟨by rw[HD.out];rfl,QB.out⟩
 have hr1':decide (d≥1)=true:=decide_eq_true hr1
 by_cases hr2:d≤tm
 rotate_left
 ·have hr2':decide (d≤tm)=false:=decide_eq_false hr2
  go_upto_region 2 with fail
  by_cases hb0:b=0
  ·subst hb0
   by_cases hc:c=0
   ·have hc':(c==0)=true:=by simpa using hc
    by_cases hd:d=0
    ·have hd':(d==0)=true:=by simpa using hd
     have HD:Hid (zO (a,0,c,d) n tm=true):=zD0 (decide_eq_true (by have:=HL.out;show zH _ _ _;unfold zH;dsimp only;omega))
     clear hc hd
     go_wp2_with fail
     go_ret
     exact⟨by rw[HD.out];rfl,QB.out⟩
    ·have hd':(d==0)=false:=by simpa using hd
     have HD:Hid (zO (a,0,c,d) n tm=false):=zD0 (decide_eq_false (by have:=HL.out;show¬zH _ _ _;unfold zH;dsimp only;omega))
     clear hc hd
     go_wp2_with fail
     go_ret
     exact⟨by rw[HD.out];rfl,QB.out⟩
   ·have hc':(c==0)=false:=by simpa using hc
    have HD:Hid (zO (a,0,c,d) n tm=false):=zD0 (decide_eq_false (by have:=HL.out;show¬zH _ _ _;unfold zH;dsimp only;omega))
    clear hc
    go_wp2_with fail
    go_ret
    exact⟨by rw[HD.out];rfl,QB.out⟩
  have hb0':(b==0)=false:=by simpa using hb0
  by_cases hb1:b=1
  ·subst hb1
   by_cases hc:c=0
   ·have hc':(c==0)=true:=by simpa using hc
    by_cases hd:d=0
    ·have hd':(d==0)=true:=by simpa using hd
     have HD:Hid (zO (a,1,c,d) n tm=true):=zD0 (decide_eq_true (by have:=HL.out;show zH _ _ _;unfold zH;dsimp only;omega))
     clear hc hd
     go_wp2_with fail
     go_ret
     exact⟨by rw[HD.out];rfl,QB.out⟩
    ·have hd':(d==0)=false:=by simpa using hd
     have HD:Hid (zO (a,1,c,d) n tm=false):=zD0 (decide_eq_false (by have:=HL.out;show¬zH _ _ _;unfold zH;dsimp only;omega))
     clear hc hd
     go_wp2_with fail
     go_ret
     exact⟨by rw[HD.out];rfl,QB.out⟩
   ·have hc':(c==0)=false:=by simpa using hc
    have HD:Hid (zO (a,1,c,d) n tm=false):=zD0 (decide_eq_false (by have:=HL.out;show¬zH _ _ _;unfold zH;dsimp only;omega))
    clear hc
    go_wp2_with fail
    go_ret
    exact⟨by rw[HD.out];rfl,QB.out⟩
  have hb1':(b==1)=false:=by simpa using hb1
  by_cases hb2:b=2
  ·subst hb2
   by_cases hc1:c≥0
   ·have hc1':decide (c≥0)=true:=decide_eq_true hc1
    by_cases hc2:c<(n:Int)
    ·have hc2':decide (c<(n:Int))=true:=decide_eq_true hc2
     by_cases hd:d=0
     ·have hd':(d==0)=true:=by simpa using hd
      have HD:Hid (zO (a,2,c,d) n tm=true):=zD0 (decide_eq_true (by have:=HL.out;show zH _ _ _;unfold zH;dsimp only;omega))
      clear hd
      go_wp2_with fail
      go_ret
      exact⟨by rw[HD.out];rfl,QB.out⟩
     ·have hd':(d==0)=false:=by simpa using hd
      have HD:Hid (zO (a,2,c,d) n tm=false):=zD0 (decide_eq_false (by have:=HL.out;show¬zH _ _ _;unfold zH;dsimp only;omega))
      clear hd
      go_wp2_with fail
      go_ret
      exact⟨by rw[HD.out];rfl,QB.out⟩
    ·have hc2':decide (c<(n:Int))=false:=decide_eq_false hc2
     have HD:Hid (zO (a,2,c,d) n tm=false):=zD0 (decide_eq_false (by have:=HL.out;show¬zH _ _ _;unfold zH;dsimp only;omega))
     go_wp2_with fail
     go_ret
     exact⟨by rw[HD.out];rfl,QB.out⟩
   ·have hc1':decide (c≥0)=false:=decide_eq_false hc1
    have HD:Hid (zO (a,2,c,d) n tm=false):=zD0 (decide_eq_false (by have:=HL.out;show¬zH _ _ _;unfold zH;dsimp only;omega))
    go_wp2_with fail
    go_ret
    exact⟨by rw[HD.out];rfl,QB.out⟩
  have hb2':(b==2)=false:=by simpa using hb2
  by_cases hb3:b=3
  ·subst hb3
   by_cases hc:c=L
   ·have hc':(c==L)=true:=by simpa using hc
    have HD:Hid (zO (a,3,c,d) n tm=false):=zD0 (decide_eq_false (by have:=HL.out;show¬zH _ _ _;unfold zH;dsimp only;omega))
    clear hc
    go_wp2_with fail
    go_ret
    exact⟨by rw[HD.out];rfl,QB.out⟩
   ·have hc':(c==L)=false:=by simpa using hc
    have HD:Hid (zO (a,3,c,d) n tm=false):=zD0 (decide_eq_false (by have:=HL.out;show¬zH _ _ _;unfold zH;dsimp only;omega))
    clear hc
    go_wp2_with fail
    go_ret
    exact⟨by rw[HD.out];rfl,QB.out⟩
  have hb3':(b==3)=false:=by simpa using hb3
  by_cases hb4:b=4
  ·subst hb4
   by_cases hc:c=0
   ·have hc':(c==0)=true:=by simpa using hc
    have HD:Hid (zO (a,4,c,d) n tm=false):=zD0 (decide_eq_false (by have:=HL.out;show¬zH _ _ _;unfold zH;dsimp only;omega))
    clear hc
    go_wp2_with fail
    go_ret
    exact⟨by rw[HD.out];rfl,QB.out⟩
   ·have hc':(c==0)=false:=by simpa using hc
    have HD:Hid (zO (a,4,c,d) n tm=false):=zD0 (decide_eq_false (by have:=HL.out;show¬zH _ _ _;unfold zH;dsimp only;omega))
    clear hc
    go_wp2_with fail
    go_ret
    exact⟨by rw[HD.out];rfl,QB.out⟩
  have hb4':(b==4)=false:=by simpa using hb4
  have HD:Hid (zO (a,b,c,d) n tm=false):=zD0 (decide_eq_false (by have:=HL.out;show¬zH _ _ _;unfold zH;dsimp only;omega))
  clear hb0 hb1 hb2 hb3 hb4
  go_wp2_with fail
  go_ret
  exact⟨by rw[HD.out];rfl,QB.out⟩
 have hr2':decide (d≤tm)=true:=decide_eq_true hr2
 go_upto_region 2 with fail
 by_cases hb0:b=0
 ·subst hb0
  by_cases hc:c=0
  ·have hc':(c==0)=true:=by simpa using hc
   by_cases hd:d=0
   ·have hd':(d==0)=true:=by simpa using hd
    have HD:Hid (zO (a,0,c,d) n tm=true):=zD0 (decide_eq_true (by have:=HL.out;show zH _ _ _;unfold zH;dsimp only;omega))
    clear hc hd
    go_wp2_with fail
    go_ret
    exact⟨by rw[HD.out];rfl,QB.out⟩
   ·have hd':(d==0)=false:=by simpa using hd
    have HD:Hid (zO (a,0,c,d) n tm=false):=zD0 (decide_eq_false (by have:=HL.out;show¬zH _ _ _;unfold zH;dsimp only;omega))
    clear hc hd
    go_wp2_with fail
    go_ret
    exact⟨by rw[HD.out];rfl,QB.out⟩
  ·have hc':(c==0)=false:=by simpa using hc
   have HD:Hid (zO (a,0,c,d) n tm=false):=zD0 (decide_eq_false (by have:=HL.out;show¬zH _ _ _;unfold zH;dsimp only;omega))
   clear hc
   go_wp2_with fail
   go_ret
   exact⟨by rw[HD.out];rfl,QB.out⟩
 have hb0':(b==0)=false:=by simpa using hb0
 by_cases hb1:b=1
 ·subst hb1
  by_cases hc:c=0
  ·have hc':(c==0)=true:=by simpa using hc
   by_cases hd:d=0
   ·have hd':(d==0)=true:=by simpa using hd
    have HD:Hid (zO (a,1,c,d) n tm=true):=zD0 (decide_eq_true (by have:=HL.out;show zH _ _ _;unfold zH;dsimp only;omega))
    clear hc hd
    go_wp2_with fail
    go_ret
    exact⟨by rw[HD.out];rfl,QB.out⟩
   ·have hd':(d==0)=false:=by simpa using hd
    have HD:Hid (zO (a,1,c,d) n tm=false):=zD0 (decide_eq_false (by have:=HL.out;show¬zH _ _ _;unfold zH;dsimp only;omega))
    clear hc hd
    go_wp2_with fail
    go_ret
    exact⟨by rw[HD.out];rfl,QB.out⟩
  ·have hc':(c==0)=false:=by simpa using hc
   have HD:Hid (zO (a,1,c,d) n tm=false):=zD0 (decide_eq_false (by have:=HL.out;show¬zH _ _ _;unfold zH;dsimp only;omega))
   clear hc
   go_wp2_with fail
   go_ret
   exact⟨by rw[HD.out];rfl,QB.out⟩
 have hb1':(b==1)=false:=by simpa using hb1
 by_cases hb2:b=2
 ·subst hb2
  by_cases hc1:c≥0
  ·have hc1':decide (c≥0)=true:=decide_eq_true hc1
   by_cases hc2:c<(n:Int)
   ·have hc2':decide (c<(n:Int))=true:=decide_eq_true hc2
    by_cases hd:d=0
    ·have hd':(d==0)=true:=by simpa using hd
     have HD:Hid (zO (a,2,c,d) n tm=true):=zD0 (decide_eq_true (by have:=HL.out;show zH _ _ _;unfold zH;dsimp only;omega))
     clear hd
     go_wp2_with fail
     go_ret
     exact⟨by rw[HD.out];rfl,QB.out⟩
    ·have hd':(d==0)=false:=by simpa using hd
     have HD:Hid (zO (a,2,c,d) n tm=false):=zD0 (decide_eq_false (by have:=HL.out;show¬zH _ _ _;unfold zH;dsimp only;omega))
     clear hd
     go_wp2_with fail
     go_ret
     exact⟨by rw[HD.out];rfl,QB.out⟩
   ·have hc2':decide (c<(n:Int))=false:=decide_eq_false hc2
    have HD:Hid (zO (a,2,c,d) n tm=false):=zD0 (decide_eq_false (by have:=HL.out;show¬zH _ _ _;unfold zH;dsimp only;omega))
    go_wp2_with fail
    go_ret
    exact⟨by rw[HD.out];rfl,QB.out⟩
  ·have hc1':decide (c≥0)=false:=decide_eq_false hc1
   have HD:Hid (zO (a,2,c,d) n tm=false):=zD0 (decide_eq_false (by have:=HL.out;show¬zH _ _ _;unfold zH;dsimp only;omega))
   go_wp2_with fail
   go_ret
   exact⟨by rw[HD.out];rfl,QB.out⟩
 have hb2':(b==2)=false:=by simpa using hb2
 by_cases hb3:b=3
 ·subst hb3
  by_cases hc:c=L
  ·have hc':(c==L)=true:=by simpa using hc
   have HD:Hid (zO (a,3,c,d) n tm=true):=zD0 (decide_eq_true (by have:=HL.out;show zH _ _ _;unfold zH;dsimp only;omega))
   clear hc
   go_wp2_with fail
   go_ret
   exact⟨by rw[HD.out];rfl,QB.out⟩
  ·have hc':(c==L)=false:=by simpa using hc
   have HD:Hid (zO (a,3,c,d) n tm=false):=zD0 (decide_eq_false (by have:=HL.out;show¬zH _ _ _;unfold zH;dsimp only;omega))
   clear hc
   go_wp2_with fail
   go_ret
   exact⟨by rw[HD.out];rfl,QB.out⟩
 have hb3':(b==3)=false:=by simpa using hb3
 by_cases hb4:b=4
 ·subst hb4
  by_cases hc:c=0
  ·have hc':(c==0)=true:=by simpa using hc
   have HD:Hid (zO (a,4,c,d) n tm=true):=zD0 (decide_eq_true (by have:=HL.out;show zH _ _ _;unfold zH;dsimp only;omega))
   clear hc
   go_wp2_with fail
   go_ret
   exact⟨by rw[HD.out];rfl,QB.out⟩
  ·have hc':(c==0)=false:=by simpa using hc
   have HD:Hid (zO (a,4,c,d) n tm=false):=zD0 (decide_eq_false (by have:=HL.out;show¬zH _ _ _;unfold zH;dsimp only;omega))
   clear hc
   go_wp2_with fail
   go_ret
   exact⟨by rw[HD.out];rfl,QB.out⟩
 have hb4':(b==4)=false:=by simpa using hb4
 have HD:Hid (zO (a,b,c,d) n tm=false):=zD0 (decide_eq_false (by have:=HL.out;show¬zH _ _ _;unfold zH;dsimp only;omega))
 clear hb0 hb1 hb2 hb3 hb4
 go_wp2_with fail
 go_ret
 exact⟨by rw[HD.out];rfl,QB.out⟩
set_option maxHeartbeats 8000000 in
theorem rsection15_any (v:Value) (p:Pl) (id:Int) (w:World) (h:qF w w.heap.size v p):
  Calls Tryz.prog 27 #[v,.int .i64 id] w fun e w'=>e = .returned (.int .i64 (at1 (fun x:Sec=>x.1) p.secs id))∧Below w.heap.size w w':=by
 obtain⟨p2,p3,p4,p5,rfl,h⟩:=h
 obtain⟨A2,a2,rfl,hcl,hcm⟩:=h.secs.slice
 obtain⟨b2,hb2⟩:=zD1 (p.secs.length)
 have P2:Hid (zX w w.heap.size (.slice A2 b2 a2) p.secs):=zD0 (by rw[hb2];exact h.secs)
 have hbb2:b2≤9223372036854775807:=by unfold maxLen at hcm;omega
 rw[←hb2]
 clear hcl hcm
 obtain⟨A3,a3,rfl,hcl,hcm⟩:=h.pts.slice
 obtain⟨b3,hb3⟩:=zD1 (p.pts.length)
 have P3:Hid (zT w w.heap.size (.slice A3 b3 a3) p.pts):=zD0 (by rw[hb3];exact h.pts)
 have hbb3:b3≤9223372036854775807:=by unfold maxLen at hcm;omega
 rw[←hb3]
 clear hcl hcm
 obtain⟨A4,a4,rfl,hcl,hcm⟩:=h.sigs.slice
 obtain⟨b4,hb4⟩:=zD1 (p.sigs.length)
 have P4:Hid (xI w w.heap.size (.slice A4 b4 a4) p.sigs):=zD0 (by rw[hb4];exact h.sigs)
 have hbb4:b4≤9223372036854775807:=by unfold maxLen at hcm;omega
 rw[←hb4]
 clear hcl hcm
 obtain⟨A5,a5,rfl,hcl,hcm⟩:=h.routes.slice
 obtain⟨b5,hb5⟩:=zD1 (p.routes.length)
 have P5:Hid (qX w w.heap.size (.slice A5 b5 a5) p.routes):=zD0 (by rw[hb5];exact h.routes)
 have hbb5:b5≤9223372036854775807:=by unfold maxLen at hcm;omega
 rw[←hb5]
 clear hcl hcm
 have HBL:Hid (b2=p.secs.length∧b3=p.pts.length∧b4=p.sigs.length∧b5=p.routes.length):=zD0 ⟨hb2,hb3,hb4,hb5⟩
 clear h hb2 hb3 hb4 hb5
 obtain⟨RR,hR⟩:=zD1 (at1 (fun x:Sec=>x.1) p.secs id)
 have HR:=zD0 hR
 rw[←hR]
 clear hR
 have x0:=zB w (.cells #[.int .i64 p.ver,.int .i64 p.par,.slice A2 b2 a2,.slice A3 b3 a3,.slice A4 b4 a4,.slice A5 b5 a5] 27)
 have b0:=zD w (.cells #[.int .i64 p.ver,.int .i64 p.par,.slice A2 b2 a2,.slice A3 b3 a3,.slice A4 b4 a4,.slice A5 b5 a5] 27)
 go_enter Tryz.func27,Tryz.ntmps27
 go_upto_region 1 with fail
 generalize w.alloc (.cells #[.int .i64 p.ver,.int .i64 p.par,.slice A2 b2 a2,.slice A3 b3 a3,.slice A4 b4 a4,.slice A5 b5 a5] 27)=q at x0 b0⊢
 have X:=zD0 x0
 have QB:=zD0 b0
 obtain⟨k0,k1,k2,k3,k4,k5⟩:=zE x0
 clear x0 b0
 go_upto_region 2 with fail
 clear k0 k1 k2 k3 k4 k5
 go_loopw [5] (fun s5 wr=>∃i:Nat,i≤b2∧s5 = .int .i64 i∧(∀j (hj:j<i) (hl:j<p.secs.length),p.secs[j].1≠id)∧Below q.heap.size q wr) (fun s5 _=>b2-(intOf s5).toNat)
 case atStart=>exact⟨0,by omega,by go_num,fun j hj=>absurd hj (by omega),Below.refl _ _⟩
 case round=>
  obtain⟨i,hi,rfl,hall,hb⟩:=hrel
  have HALL:=zD0 hall
  have BW:=zD0 hb
  clear hall hb
  have BF:=zD0 (QB.out.trans (BW.out.mono QB.out.size))
  obtain⟨k0,k1,k2,k3,k4,k5⟩:=zE ((BW.out.block _ (zA X.out)).trans X.out)
  by_cases hlt:i<b2
  ·have hlt':(i:Int)<b2:=by omega
   have hir:i<p.secs.length:=by have:=HBL.out;omega
   obtain⟨bs,os,rfl,hbs,hs0,-⟩:=(P2.out.below zN BF.out).at hir
   obtain⟨a1,ha1⟩:=zD1 (p.secs[i].1)
   rw[←ha1] at hs0
   have HA:=zD0 ha1
   have g0:wr.cell? ⟨bs,os+i*3,none⟩=some (.int .i64 a1):=by simpa using hs0
   clear hs0 ha1 hbs
   by_cases he:a1=id
   ·have he':(a1==id)=true:=by simpa using he
    have HQ:Hid (RR=(i:Int)):=zD0 (HR.out.trans (vT hir (by rw[←HA.out];exact he) (fun j hj=>HALL.out j hj (by omega))))
    clear he
    go_wp2_with fail
    go_ret
    exact⟨by rw[HQ.out];rfl,BF.out⟩
   ·have he':(a1==id)=false:=by simpa using he
    have NX:Hid (∀j (hj:j<i+1) (hl:j<p.secs.length),p.secs[j].1≠id):=zD0 (fun j hj hl=>by
     rcases Nat.lt_or_ge j i with h|h
     ·exact HALL.out j h hl
     ·obtain rfl:j=i:=by omega
      rw[←HA.out];exact he)
    clear he
    go_wp2_with fail
    go_roundw
    case measure=>simp[intOf];omega
    case rel=>exact⟨i+1,by omega,by go_num,NX.out,BW.out⟩
  ·obtain rfl:b2=i:=by omega
   have hlt':¬(b2:Int)<b2:=by omega
   have HQ:Hid (RR = -1):=zD0 (HR.out.trans (yM fun j hj=>HALL.out j (by have:=HBL.out;omega) hj))
   go_wp2_with fail
   go_ret
   exact⟨by rw[HQ.out];rfl,BF.out⟩
set_option maxHeartbeats 8000000 in
theorem zCr (v:Value) (p:Pl) (id:Int) (w:World) (h:qF w w.heap.size v p):
  Calls Tryz.prog 31 #[v,.int .i64 id] w fun e w'=>e = .returned (.int .i64 (at1 (fun x:Jn=>x.1) p.pts id))∧Below w.heap.size w w':=by
 obtain⟨p2,p3,p4,p5,rfl,h⟩:=h
 obtain⟨A2,a2,rfl,hcl,hcm⟩:=h.secs.slice
 obtain⟨b2,hb2⟩:=zD1 (p.secs.length)
 have P2:Hid (zX w w.heap.size (.slice A2 b2 a2) p.secs):=zD0 (by rw[hb2];exact h.secs)
 have hbb2:b2≤9223372036854775807:=by unfold maxLen at hcm;omega
 rw[←hb2]
 clear hcl hcm
 obtain⟨A3,a3,rfl,hcl,hcm⟩:=h.pts.slice
 obtain⟨b3,hb3⟩:=zD1 (p.pts.length)
 have P3:Hid (zT w w.heap.size (.slice A3 b3 a3) p.pts):=zD0 (by rw[hb3];exact h.pts)
 have hbb3:b3≤9223372036854775807:=by unfold maxLen at hcm;omega
 rw[←hb3]
 clear hcl hcm
 obtain⟨A4,a4,rfl,hcl,hcm⟩:=h.sigs.slice
 obtain⟨b4,hb4⟩:=zD1 (p.sigs.length)
 have P4:Hid (xI w w.heap.size (.slice A4 b4 a4) p.sigs):=zD0 (by rw[hb4];exact h.sigs)
 have hbb4:b4≤9223372036854775807:=by unfold maxLen at hcm;omega
 rw[←hb4]
 clear hcl hcm
 obtain⟨A5,a5,rfl,hcl,hcm⟩:=h.routes.slice
 obtain⟨b5,hb5⟩:=zD1 (p.routes.length)
 have P5:Hid (qX w w.heap.size (.slice A5 b5 a5) p.routes):=zD0 (by rw[hb5];exact h.routes)
 have hbb5:b5≤9223372036854775807:=by unfold maxLen at hcm;omega
 rw[←hb5]
 clear hcl hcm
 have HBL:Hid (b2=p.secs.length∧b3=p.pts.length∧b4=p.sigs.length∧b5=p.routes.length):=zD0 ⟨hb2,hb3,hb4,hb5⟩
 clear h hb2 hb3 hb4 hb5
 obtain⟨RR,hR⟩:=zD1 (at1 (fun x:Jn=>x.1) p.pts id)
 have HR:=zD0 hR
 rw[←hR]
 clear hR
 have x0:=zB w (.cells #[.int .i64 p.ver,.int .i64 p.par,.slice A2 b2 a2,.slice A3 b3 a3,.slice A4 b4 a4,.slice A5 b5 a5] 27)
 have b0:=zD w (.cells #[.int .i64 p.ver,.int .i64 p.par,.slice A2 b2 a2,.slice A3 b3 a3,.slice A4 b4 a4,.slice A5 b5 a5] 27)
 go_enter Tryz.func31,Tryz.ntmps31
 go_upto_region 1 with fail
 generalize w.alloc (.cells #[.int .i64 p.ver,.int .i64 p.par,.slice A2 b2 a2,.slice A3 b3 a3,.slice A4 b4 a4,.slice A5 b5 a5] 27)=q at x0 b0⊢
 have X:=zD0 x0
 have QB:=zD0 b0
 obtain⟨k0,k1,k2,k3,k4,k5⟩:=zE x0
 clear x0 b0
 go_upto_region 2 with fail
 clear k0 k1 k2 k3 k4 k5
 go_loopw [5] (fun s5 wr=>∃i:Nat,i≤b3∧s5 = .int .i64 i∧(∀j (hj:j<i) (hl:j<p.pts.length),p.pts[j].1≠id)∧Below q.heap.size q wr) (fun s5 _=>b3-(intOf s5).toNat)
 case atStart=>exact⟨0,by omega,by go_num,fun j hj=>absurd hj (by omega),Below.refl _ _⟩
 case round=>
  obtain⟨i,hi,rfl,hall,hb⟩:=hrel
  have HALL:=zD0 hall
  have BW:=zD0 hb
  clear hall hb
  have BF:=zD0 (QB.out.trans (BW.out.mono QB.out.size))
  obtain⟨k0,k1,k2,k3,k4,k5⟩:=zE ((BW.out.block _ (zA X.out)).trans X.out)
  by_cases hlt:i<b3
  ·have hlt':(i:Int)<b3:=by omega
   have hir:i<p.pts.length:=by have:=HBL.out;omega
   obtain⟨bs,os,rfl,hbs,hs0,-⟩:=(P3.out.below zM BF.out).at hir
   obtain⟨a1,ha1⟩:=zD1 (p.pts[i].1)
   rw[←ha1] at hs0
   have HA:=zD0 ha1
   have g0:wr.cell? ⟨bs,os+i*2,none⟩=some (.int .i64 a1):=by simpa using hs0
   clear hs0 ha1 hbs
   by_cases he:a1=id
   ·have he':(a1==id)=true:=by simpa using he
    have HQ:Hid (RR=(i:Int)):=zD0 (HR.out.trans (vT hir (by rw[←HA.out];exact he) (fun j hj=>HALL.out j hj (by omega))))
    clear he
    go_wp2_with fail
    go_ret
    exact⟨by rw[HQ.out];rfl,BF.out⟩
   ·have he':(a1==id)=false:=by simpa using he
    have NX:Hid (∀j (hj:j<i+1) (hl:j<p.pts.length),p.pts[j].1≠id):=zD0 (fun j hj hl=>by
     rcases Nat.lt_or_ge j i with h|h
     ·exact HALL.out j h hl
     ·obtain rfl:j=i:=by omega
      rw[←HA.out];exact he)
    clear he
    go_wp2_with fail
    go_roundw
    case measure=>simp[intOf];omega
    case rel=>exact⟨i+1,by omega,by go_num,NX.out,BW.out⟩
  ·obtain rfl:b3=i:=by omega
   have hlt':¬(b3:Int)<b3:=by omega
   have HQ:Hid (RR = -1):=zD0 (HR.out.trans (yM fun j hj=>HALL.out j (by have:=HBL.out;omega) hj))
   go_wp2_with fail
   go_ret
   exact⟨by rw[HQ.out];rfl,BF.out⟩
theorem way_row15 {W W':World} {lo g:Nat} {u0 u1 u2:Value} {x:Wy} {cur:Array Value} (h:kG W lo u0 u1 u2 x) (hg:W.grownBy W' (some g)) (hc:W.heap[g]? = some (.cells cur 96 (0,0))):kG W' lo u0 u1 u2 x:=
 ⟨qK jW h.path hg (fun j hj e=>by subst e;obtain⟨yss,ho,-⟩:=h.path;obtain⟨cur',h2,-⟩:=jR ho hj;rw[hc] at h2;cases h2),
  qK jW h.over hg (fun j hj e=>by subst e;obtain⟨yss,ho,-⟩:=h.over;obtain⟨cur',h2,-⟩:=jR ho hj;rw[hc] at h2;cases h2),
  qK zAc h.asks hg (fun j hj e=>by subst e;obtain⟨yss,ho,-⟩:=h.asks;obtain⟨cur',h2,-⟩:=jR ho hj;rw[hc] at h2;cases h2)⟩
theorem zDq:(Tryz.prog.info? 96).map (·.size)=some 4:=by kernel_rfl
set_option maxHeartbeats 8000000 in
theorem rway15_any (v:Value) (p:Pl) (r:Rt) (i:Nat) (hi:i<p.routes.length) (hr:p.routes[i]=r) (hs:jB p) (w:World) (h:qF w w.heap.size v p):
  Calls Tryz.prog 81 #[v,.int .i64 i] w fun e w'=>∃u0 u1 u2,e = .returned (.agg #[u0,u1,u2,.int .i64 (kH p r).near])∧kG w' w.heap.size u0 u1 u2 (kH p r)∧Below w.heap.size w w':=by
 obtain⟨p2,p3,p4,p5,rfl,h⟩:=h
 obtain⟨A2,a2,rfl,hcl,hcm⟩:=h.secs.slice
 obtain⟨b2,hb2⟩:=zD1 (p.secs.length)
 have P2:Hid (zX w w.heap.size (.slice A2 b2 a2) p.secs):=zD0 (by rw[hb2];exact h.secs)
 have hbb2:b2≤9223372036854775807:=by unfold maxLen at hcm;omega
 rw[←hb2]
 clear hcl hcm
 obtain⟨A3,a3,rfl,hcl,hcm⟩:=h.pts.slice
 obtain⟨b3,hb3⟩:=zD1 (p.pts.length)
 have P3:Hid (zT w w.heap.size (.slice A3 b3 a3) p.pts):=zD0 (by rw[hb3];exact h.pts)
 have hbb3:b3≤9223372036854775807:=by unfold maxLen at hcm;omega
 rw[←hb3]
 clear hcl hcm
 obtain⟨A4,a4,rfl,hcl,hcm⟩:=h.sigs.slice
 obtain⟨b4,hb4⟩:=zD1 (p.sigs.length)
 have P4:Hid (xI w w.heap.size (.slice A4 b4 a4) p.sigs):=zD0 (by rw[hb4];exact h.sigs)
 have hbb4:b4≤9223372036854775807:=by unfold maxLen at hcm;omega
 rw[←hb4]
 clear hcl hcm
 obtain⟨A5,a5,rfl,hcl,hcm⟩:=h.routes.slice
 obtain⟨b5,hb5⟩:=zD1 (p.routes.length)
 have P5:Hid (qX w w.heap.size (.slice A5 b5 a5) p.routes):=zD0 (by rw[hb5];exact h.routes)
 have hbb5:b5≤9223372036854775807:=by unfold maxLen at hcm;omega
 rw[←hb5]
 clear hcl hcm
 have HBL:Hid (b2=p.secs.length∧b3=p.pts.length∧b4=p.sigs.length∧b5=p.routes.length):=zD0 ⟨hb2,hb3,hb4,hb5⟩
 clear h hb2 hb3 hb4 hb5
 have PV:Hid (∀W,Below w.heap.size w W→qF W W.heap.size (.agg #[.int .i64 p.ver,.int .i64 p.par,.slice A2 b2 a2,.slice A3 b3 a3,.slice A4 b4 a4,.slice A5 b5 a5]) p):=zD0 (fun W b=>⟨_,_,_,_,rfl,⟨(P2.out.below zN b).more zN b.size,(P3.out.below zM b).more zM b.size,(P4.out.below zP b).more zP b.size,(P5.out.below qM b).more qM b.size⟩⟩)
 have HS:=zD0 hs
 have HG:Hid (zA8 p r=true):=zD0 (yY (by rw[←hr];exact(hs.each i hi).hangs))
 have HRR:=zD0 hr
 have HI:=zD0 hi
 clear hs hr P2 P3 P4 P5 HBL hbb2 hbb3 hbb4 hbb5
 obtain⟨x,hx⟩:=zD1 (kH p r)
 have HX:=zD0 hx
 have hq:=zV w (.cells #[.int .i64 p.ver,.int .i64 p.par,.slice A2 b2 a2,.slice A3 b3 a3,.slice A4 b4 a4,.slice A5 b5 a5] 27) (.cells #[.slice none 0 0,.slice none 0 0,.slice none 0 0,.int .i64 0] 96)
 rw[←hx]
 clear hx
 go_enter Tryz.func81,Tryz.ntmps81
 go_upto_region 1 with fail
 generalize (w.alloc (.cells #[.int .i64 p.ver,.int .i64 p.par,.slice A2 b2 a2,.slice A3 b3 a3,.slice A4 b4 a4,.slice A5 b5 a5] 27)).alloc (.cells #[.slice none 0 0,.slice none 0 0,.slice none 0 0,.int .i64 0] 96)=q at hq⊢
 obtain⟨q0,q1,qb⟩:=hq
 have X0:=zD0 q0
 have X1:=zD0 q1
 have BQ:=zD0 qb
 obtain⟨k0,k1,k2,k3,k4,k5⟩:=zE q0
 clear q0 q1 qb
 go_wp2_with ((with_reducible show wpList _ _ _ (⟨none,.store _ _ _,_,_,_,_⟩::_) _ _);fail)
 refine(zDn _ p r i HI.out HRR.out q (PV.out q BQ.out) HS.out.may HG.out).mono ?_
 rintro e w1 ⟨u0,u1,u2,rfl,hu,b⟩
 rw[←HX.out] at hu⊢
 obtain⟨E0,f0,rfl⟩:=hu.path.slice
 obtain⟨E1,f1,rfl⟩:=hu.over.slice
 obtain⟨E2,f2,rfl⟩:=hu.asks.slice
 obtain⟨e0,he0⟩:=zD1 (x.path.length)
 obtain⟨e1,he1⟩:=zD1 (x.over.length)
 obtain⟨e2,he2⟩:=zD1 (x.asks.length)
 obtain⟨nr,hnr⟩:=zD1 (x.near)
 have HNR:=zD0 hnr
 rw[←he0,←he1,←he2] at hu
 rw[←he0,←he1,←he2,←hnr]
 clear he0 he1 he2 hnr k0 k1 k2 k3 k4 k5
 have X2:=zD0 ((b.block _ (zA X1.out)).trans X1.out)
 have PQ:Hid (w.heap.size+1<q.heap.size):=zD0 (zA X1.out)
 have BL:=zD0 (BQ.out.trans (b.mono BQ.out.size))
 have HU:=zD0 hu
 clear b hu
 go_wp2_with ((with_reducible show wpList _ _ _ (⟨none,.store _ _ _,_,_,_,_⟩::_) _ _);refine zK rfl _ (.tmp 4) (.tmp 7) rfl (w.heap.size+1) rfl (c':=#[.slice E0 e0 f0,.slice E1 e1 f1,.slice E2 e2 f2,.int .i64 nr]) rfl X2.out zDq rfl (by simp[Value.oneCell']) ?_)
 have hg:=qB w1 (w.heap.size+1) #[.slice E0 e0 f0,.slice E1 e1 f1,.slice E2 e2 f2,.int .i64 nr]
 have hO:kG (w1.setRow (w.heap.size+1) #[.slice E0 e0 f0,.slice E1 e1 f1,.slice E2 e2 f2,.int .i64 nr]) w.heap.size (.slice E0 e0 f0) (.slice E1 e1 f1) (.slice E2 e2 f2) x:=way_row15 (HU.out.mono BQ.out.size) hg X2.out
 refine bodyPost_ret (results_cell_row rfl _ _ (w.heap.size+1) 96 #[.slice E0 e0 f0,.slice E1 e1 f1,.slice E2 e2 f2,.int .i64 nr] (0,0) _ rfl (setRow_heap _ _ _ _ _ _ X2.out) Tryz.underlying96 rfl zDq) rfl ⟨_,_,_,by rw[HNR.out],hO,below_setRow BL.out (Nat.le_succ _) _⟩
theorem way_asks15 {p:Pl} {r:Rt} (h:qW p r):(kH p r).asks.length≤50:=by
 have h1:(jA p r (zS r).length).length≤(zS r).length:=Nat.le_trans (List.length_filterMap_le _ _) (by simp)
 have h2:=h.len
 have h3:=h.route.flank
 have h4:(kH p r).asks.length=(jA p r (zS r).length).length+r.flanks.length:=by simp[kH]
 omega
theorem own_join15 {α:Type} {T:TypeId} {sz n m:Nat} {R:El α} {W V:World} {lo:Nat} {v:Value} {l k:List α} {yss zss:List (List Value)} (hf:zAo R) (ho:V.ownsRow lo T sz v (n+m) (yss.flatten++zss.flatten)) (h1:yss.length=l.length) (hn:l.length=n) (h2:∀ys∈yss,ys.length=sz) (h3:∀(j:Nat) (ys:List Value) (x:α),yss[j]? = some ys→l[j]? = some x→R W W.heap.size (fun k=>ys[k]?) x)
  (g1:zss.length=k.length) (hm:m=k.length) (g2:∀ys∈zss,ys.length=sz) (g3:∀(j:Nat) (ys:List Value) (x:α),zss[j]? = some ys→k[j]? = some x→R W W.heap.size (fun k=>ys[k]?) x) (hb:n+m≤maxLen):zJ T sz R V lo v (l++k):=by
 refine⟨yss++zss,by rw[List.flatten_append,List.length_append,hn,←hm];exact ho,by rw[List.length_append,List.length_append,h1,g1],by rw[List.length_append,hn,←hm];exact hb,fun ys hy=>?_,fun j ys x a b=>?_⟩
 ·rcases List.mem_append.1 hy with h|h
  ·exact h2 ys h
  ·exact g2 ys h
 ·rcases Nat.lt_or_ge j l.length with h|h
  ·rw[List.getElem?_append_left (by omega)] at a b
   exact hf (h3 j ys x a b)
  ·rw[List.getElem?_append_right (by omega)] at a b
   rw[h1] at a
   exact hf (g3 _ ys x a b)
set_option maxHeartbeats 16000000 in
theorem rheld15_any (v:Value) (p:Pl) (r:Rt) (i:Nat) (hi:i<p.routes.length) (hr:p.routes[i]=r) (hs:jB p) (a b c d:Int) (hc0:b≠0→0≤c) (w:World) (h:qF w w.heap.size v p):
  Calls Tryz.prog 52 #[v,.agg #[.int .i64 a,.int .u8 b,.int .i64 c,.int .i64 d],.int .i64 i] w fun e w'=>∃u,e = .returned u∧qV w' w.heap.size u (heldL r (a,b,c,d))∧Below w.heap.size w w':=by
 obtain⟨p2,p3,p4,p5,rfl,h⟩:=h
 obtain⟨A2,a2,rfl,hcl,hcm⟩:=h.secs.slice
 obtain⟨b2,hb2⟩:=zD1 (p.secs.length)
 have P2:Hid (zX w w.heap.size (.slice A2 b2 a2) p.secs):=zD0 (by rw[hb2];exact h.secs)
 have hbb2:b2≤9223372036854775807:=by unfold maxLen at hcm;omega
 rw[←hb2]
 clear hcl hcm
 obtain⟨A3,a3,rfl,hcl,hcm⟩:=h.pts.slice
 obtain⟨b3,hb3⟩:=zD1 (p.pts.length)
 have P3:Hid (zT w w.heap.size (.slice A3 b3 a3) p.pts):=zD0 (by rw[hb3];exact h.pts)
 have hbb3:b3≤9223372036854775807:=by unfold maxLen at hcm;omega
 rw[←hb3]
 clear hcl hcm
 obtain⟨A4,a4,rfl,hcl,hcm⟩:=h.sigs.slice
 obtain⟨b4,hb4⟩:=zD1 (p.sigs.length)
 have P4:Hid (xI w w.heap.size (.slice A4 b4 a4) p.sigs):=zD0 (by rw[hb4];exact h.sigs)
 have hbb4:b4≤9223372036854775807:=by unfold maxLen at hcm;omega
 rw[←hb4]
 clear hcl hcm
 obtain⟨A5,a5,rfl,hcl,hcm⟩:=h.routes.slice
 obtain⟨b5,hb5⟩:=zD1 (p.routes.length)
 have P5:Hid (qX w w.heap.size (.slice A5 b5 a5) p.routes):=zD0 (by rw[hb5];exact h.routes)
 have hbb5:b5≤9223372036854775807:=by unfold maxLen at hcm;omega
 rw[←hb5]
 clear hcl hcm
 have HBL:Hid (b2=p.secs.length∧b3=p.pts.length∧b4=p.sigs.length∧b5=p.routes.length):=zD0 ⟨hb2,hb3,hb4,hb5⟩
 clear h hb2 hb3 hb4 hb5
 have PV:Hid (∀W,Below w.heap.size w W→qF W W.heap.size (.agg #[.int .i64 p.ver,.int .i64 p.par,.slice A2 b2 a2,.slice A3 b3 a3,.slice A4 b4 a4,.slice A5 b5 a5]) p):=zD0 (fun W b=>⟨_,_,_,_,rfl,⟨(P2.out.below zN b).more zN b.size,(P3.out.below zM b).more zM b.size,(P4.out.below zP b).more zP b.size,(P5.out.below qM b).more qM b.size⟩⟩)
 have HS:=zD0 hs
 have HRR:=zD0 hr
 have HI:=zD0 hi
 have H8:Hid (r.path.length≤8∧r.over.length≤8):=zD0 (by have h:=(jO hs.may hi hr).route;have h1:=h.path;have h2:=h.over;omega)
 have HK_:Hid ((kH p r).asks.length≤50):=zD0 (way_asks15 (jO hs.may hi hr))
 clear hs hr P2 P3 P4 P5 HBL hbb2 hbb3 hbb4 hbb5
 have hq:=zV w (.cells #[.int .i64 p.ver,.int .i64 p.par,.slice A2 b2 a2,.slice A3 b3 a3,.slice A4 b4 a4,.slice A5 b5 a5] 27) (.cells #[.int .i64 a,.int .u8 b,.int .i64 c,.int .i64 d] 53)
 go_enter Tryz.func52,Tryz.ntmps52
 go_upto_region 1 with fail
 generalize (w.alloc (.cells #[.int .i64 p.ver,.int .i64 p.par,.slice A2 b2 a2,.slice A3 b3 a3,.slice A4 b4 a4,.slice A5 b5 a5] 27)).alloc (.cells #[.int .i64 a,.int .u8 b,.int .i64 c,.int .i64 d] 53)=q at hq⊢
 obtain⟨q0,q1,qb⟩:=hq
 have X0:=zD0 q0
 have X1:=zD0 q1
 have BQ:=zD0 qb
 obtain⟨l0,l1,l2,l3⟩:=qC q1
 clear q0 q1 qb
 by_cases hb0:b=0
 ·have HN:Hid ((heldL r (a,b,c,d))=[]):=zD0 (by unfold heldL;rw[if_pos hb0])
  have hb':(b==0)=true:=by simpa using hb0
  clear hb0
  go_wp2_with fail
  go_ret
  exact⟨_,rfl,by rw[HN.out];exact zJ.nil_,BQ.out⟩
 have hb':(b==0)=false:=by simpa using hb0
 obtain⟨k,rfl⟩:∃k:Nat,c=(k:Int):=⟨c.toNat,by have:=hc0 hb0;omega⟩
 have HB0:=zD0 hb0
 clear hb0 hc0
 obtain⟨k0,k1,k2,k3,k4,k5⟩:=zE X0.out
 go_wp2_with fail
 refine(rway15_any _ p r i HI.out HRR.out HS.out q (PV.out q BQ.out)).mono ?_
 rintro e w1 ⟨u0,u1,u2,rfl,hu,b1⟩
 obtain⟨x,hx⟩:=zD1 (kH p r)
 rw[←hx] at hu⊢
 have HX:=zD0 hx
 obtain⟨E0,f0,rfl⟩:=hu.path.slice
 obtain⟨E1,f1,rfl⟩:=hu.over.slice
 obtain⟨E2,f2,rfl⟩:=hu.asks.slice
 obtain⟨e0,he0⟩:=zD1 (x.path.length)
 obtain⟨e1,he1⟩:=zD1 (x.over.length)
 obtain⟨e2,he2⟩:=zD1 (x.asks.length)
 obtain⟨nr,hnr⟩:=zD1 (x.near)
 have HE:Hid (e0=x.path.length∧e1=x.over.length∧e2=x.asks.length):=zD0 ⟨he0,he1,he2⟩
 have hin:=hu.in_
 rw[←he0,←he1,←he2] at hin
 rw[←he0,←he1,←he2,←hnr]
 have ge2:e2≤9223372036854775807:=by
  obtain⟨A',c',e,h1,h2,-⟩:=hin.asks
  cases e
  unfold maxLen at h2
  omega
 have P88:Hid (x.path.length≤8∧x.over.length≤8):=zD0 (by rw[hx];exact H8.out)
 have HKX:Hid (x.asks.length≤50):=zD0 (by rw[hx];exact HK_.out)
 clear he0 he1 he2 hnr hx hu k0 k1 k2 k3 k4 k5 l0 l1 l2 l3
 replace X1:=zD0 ((b1.block _ (zA X1.out)).trans X1.out)
 replace BQ:=zD0 (BQ.out.trans (b1.mono BQ.out.size))
 clear X0 b1
 go_upto_region 4 with((with_reducible show wpList _ _ _ (⟨none,.store _ _ _,_,_,_,_⟩::_) _ _);refine zK rfl _ (.tmp 7) (.tmp 15) rfl w1.heap.size rfl (c':=#[.slice E0 e0 f0,.slice E1 e1 f1,.slice E2 e2 f2,.int .i64 nr]) rfl (zB w1 (.cells #[.slice none 0 0,.slice none 0 0,.slice none 0 0,.int .i64 0] 96)) zDq rfl (by simp[Value.oneCell']) ?_)
 rw[World.setRow_alloc_new]
 have hx1:=zB w1 (.cells #[.slice E0 e0 f0,.slice E1 e1 f1,.slice E2 e2 f2,.int .i64 nr] 96)
 have b1:=zD w1 (.cells #[.slice E0 e0 f0,.slice E1 e1 f1,.slice E2 e2 f2,.int .i64 nr] 96)
 have hin2:=(hin.below b1).more b1.size
 have tX1:=(b1.block _ (zA X1.out)).trans X1.out
 have tBQ:=BQ.out.trans (b1.mono BQ.out.size)
 generalize w1.alloc (.cells #[.slice E0 e0 f0,.slice E1 e1 f1,.slice E2 e2 f2,.int .i64 nr] 96)=w2 at b1 hx1 hin2 tX1 tBQ⊢
 obtain⟨p7,hp7⟩:=zD1 (w1.heap.size)
 rw[←hp7] at hx1⊢
 clear X1 BQ b1 hp7 hin
 have X1:=zD0 tX1
 have BQ:=zD0 tBQ
 have X7:=zD0 hx1
 have WI:=zD0 hin2
 clear tX1 tBQ hx1 hin2
 obtain⟨l0,l1,l2,l3⟩:=qC X1.out
 have hk0:¬((k:Int)<0):=by omega
 have hk1:(0:Int)≤k:=by omega
 go_upto_region 6 with fail
 clear hk0 hk1 l0 l1 l2 l3
 obtain⟨xs,hxs⟩:=zD1 (x.path.drop k)
 have HXS:Hid (xs.length=e0-k∧e0≤8∧∀m (h:m<xs.length) j (hj:j=k+m) (h2:j<x.path.length),xs[m]=x.path[j]):=zD0 (by
  subst hxs
  have:=HE.out
  have:=P88.out
  refine⟨by rw[List.length_drop];omega,by omega,fun m h j hj h2=>by subst hj;simp⟩)
 have HXE:=zD0 hxs
 clear hxs
 go_loopw [8,9] (fun s8 s9 wr=>∃j m:Nat,Hid (j=k+m)∧m≤xs.length∧s9 = .int .i64 j∧(∃A9 c9,s8 = .slice A9 m c9∧qV wr w2.heap.size (.slice A9 m c9) (xs.take m))∧Below w2.heap.size w2 wr) (fun _ s9 _=>e0-(intOf s9).toNat)
 case atStart=>exact⟨k,0,zD0 rfl,by omega,by go_num,⟨none,0,rfl,zJ.nil_⟩,Below.refl _ _⟩
 case round=>
  obtain⟨j,m,HJ,hm,rfl,⟨A9,c9,rfl,how⟩,hbw⟩:=hrel
  have OW:=zD0 how
  have BW:=zD0 hbw
  clear how hbw
  obtain⟨j0,j1,j2,j3⟩:=qC ((BW.out.block _ (zA X7.out)).trans X7.out)
  by_cases hlt:j<e0
  ·have hlt':(j:Int)<(e0:Int):=by omega
   have hmr:m<xs.length:=by have:=HXS.out;have:=HJ.out;omega
   have hpr:j<x.path.length:=by have:=HE.out;omega
   obtain⟨bs,os,ebs,hbs,hs0⟩:=((WI.out.path.below qI BW.out).more qI BW.out.size).at hpr
   obtain⟨z,hz⟩:=zD1 (xs[m])
   have HZ:=zD0 hz
   have g0:wr.cell? ⟨bs,os+j,none⟩=some (.int .i64 z):=by rw[hz,HXS.out.2.2 m hmr j HJ.out hpr];simpa [jU] using hs0
   have HT:Hid (xs.take (m+1)=xs.take m++[z]):=zD0 (by rw[hz,List.take_succ_eq_append_getElem hmr])
   have HLN:Hid ((xs.take m).length=m):=zD0 (by rw[List.length_take];omega)
   have PQ:Hid (w2.heap.size≤wr.heap.size):=zD0 BW.out.size
   have hm8:m<8:=by have:=HXS.out;have:=HJ.out;omega
   have hj8:j<8:=by have:=HXS.out.2.1;omega
   subst ebs
   clear hs0 hz hbs
   obtain⟨i0_,hii,hz0,hz1,hz2⟩:=info_parts zAz
   have I0:=zD0 hii
   have I1:=zD0 hz0
   have I2:=zD0 hz1
   have I3:=zD0 hz2
   obtain⟨yss,hown,hyl,hm_,hys,hyr⟩:=OW.out
   have O:Hid (wr.ownsRow w2.heap.size 3 1 (.slice A9 m c9) m yss.flatten):=zD0 (by have h:=hown;rw[HLN.out] at h;exact h)
   have YL:=zD0 hyl
   have YS:=zD0 hys
   have YR:=zD0 hyr
   clear hii hz0 hz1 hz2 hown hyl hm_ hys hyr
   go_wp2_with ((with_reducible show wpList _ _ _ (⟨some 33,_,_,_,_,_⟩::_) _ _);refine zQ rfl (.tmp 26) (.tmp 32) _ rfl Tryz.underlying61 I0.out I1.out rfl I2.out (by decide) I3.out (by decide) rfl (O.out.alloc _) rfl (m:=1) (news:=[.int .i64 z]) rfl (fun h=>by cases h) (fun a ha j u hj=>by cases ha;rw[Addr.add_lit,Nat.zero_add,World.cell?_alloc_new];simpa using hj) (by simp[Value.oneCell']) (by omega) (by have:=PQ.out;simp;omega) ?_;intro v4 w9 hown4 hgrow4;have S4:=zJ.snoc (w1:=wr) (x:=z) (ys:=[.int .i64 z]) qI (fun _ h _ _=>h) (show wr.ownsRow w2.heap.size 3 1 (.slice A9 m c9) (xs.take m).length yss.flatten by rw[HLN.out];exact O.out) YL.out YS.out rfl (by have:=HLN.out;unfold maxLen;omega) YR.out (Below.refl _ _) (by simp[jU]) (by rw[HLN.out];exact hown4) hgrow4)
   obtain⟨A8,c8,e8⟩:=S4.slice
   have hlen:(xs.take m++[z]).length=m+1:=by rw[List.length_append,HLN.out];rfl
   rw[hlen] at e8
   subst e8
   have ON:Hid (qV w9 w2.heap.size (.slice A8 (m+1) c8) (xs.take (m+1))):=zD0 (by rw[HT.out];exact S4)
   have BN:Hid (Below w2.heap.size w2 w9):=zD0 ((BW.out.alloc BW.out.size _).grown hgrow4 (by have:=PQ.out;simp;omega) (jE O.out))
   clear S4 hown4 hgrow4 hlen O OW YL YS YR j0 j1 j2 j3 g0
   go_wp2_with fail
   go_roundw
   case measure=>simp[intOf];omega
   case rel=>exact⟨j+1,m+1,zD0 (by rw[HJ.out];rfl),by omega,by go_num,⟨A8,c8,rfl,ON.out⟩,BN.out⟩
  ·have hlt':¬(j:Int)<(e0:Int):=by omega
   have hme:m=xs.length:=by have:=HXS.out;have:=HJ.out;omega
   have OF:Hid (qV wr w2.heap.size (.slice A9 m c9) xs):=zD0 (by have h:=OW.out;rw[List.take_of_length_le (by omega)] at h;exact h)
   have HRES:Hid (heldL r (a,b,(k:Int),d)=xs++x.over):=zD0 (by
    unfold heldL
    rw[if_neg HB0.out,HXE.out,HX.out]
    rfl)
   have hme8:m≤8:=by have:=HXS.out;omega
   have HLN:Hid (xs.length=m):=zD0 hme.symm
   have PQ:Hid (w2.heap.size≤wr.heap.size):=zD0 BW.out.size
   have OW:=OF
   clear hme OF
   obtain⟨i0_,hii,hz0,hz1,hz2⟩:=info_parts zAz
   have I0:=zD0 hii
   have I1:=zD0 hz0
   have I2:=zD0 hz1
   have I3:=zD0 hz2
   obtain⟨yss,hown,hyl,hm_,hys,hyr⟩:=OW.out
   have O:Hid (wr.ownsRow w2.heap.size 3 1 (.slice A9 m c9) m yss.flatten):=zD0 (by have h:=hown;rw[HLN.out] at h;exact h)
   have YL:=zD0 hyl
   have YS:=zD0 hys
   have YR:=zD0 hyr
   clear hii hz0 hz1 hz2 hown hyl hm_ hys hyr
   obtain⟨zss,hy1,hy2,hy3,hy4,hy5,hy6,hy7⟩:=((WI.out.over.below qI BW.out).more qI BW.out.size).cells (by have:=P88.out;omega) kS zZ
   have ZL:zss.flatten.length=e1*1:=by rw[xA _ hy2,hy1,HE.out.2.1]
   have he18:e1≤8:=by have:=HE.out;have:=P88.out;omega
   clear hy5
   go_wp2_with ((with_reducible show wpList _ _ _ (⟨some 37,_,_,_,_,_⟩::_) _ _);refine zQ rfl (.tmp 34) (.tmp 36) _ rfl Tryz.underlying61 I0.out I1.out rfl I2.out (by decide) I3.out (by decide) rfl O.out rfl (m:=e1) (news:=zss.flatten) ZL hy4 hy7 hy6 (by omega) PQ.out ?_;intro v4 w9 hown4 hgrow4)
   have OR:Hid (qV w9 w2.heap.size v4 (xs++x.over)):=zD0 (own_join15 jW hown4 YL.out HLN.out YS.out YR.out (by rw[hy1]) HE.out.2.1 hy2 hy3 (by unfold maxLen;omega))
   have BR:Hid (Below w.heap.size w w9):=zD0 (BQ.out.trans (((Below.refl w2.heap.size w2).trans (BW.out.grown hgrow4 PQ.out (jE O.out))).mono BQ.out.size))
   clear hy1 hy2 hy3 hy4 hy6 hy7 hown4 hgrow4
   go_ret
   exact⟨v4,rfl,by rw[HRES.out];exact OR.out.mono BQ.out.size,BR.out⟩
set_option maxHeartbeats 16000000 in
theorem rasks15_any (v:Value) (p:Pl) (r:Rt) (i:Nat) (hi:i<p.routes.length) (hr:p.routes[i]=r) (hs:jB p) (a b c d:Int) (hc0:b≠0→0≤c) (w:World) (h:qF w w.heap.size v p):
  Calls Tryz.prog 54 #[v,.agg #[.int .i64 a,.int .u8 b,.int .i64 c,.int .i64 d],.int .i64 i] w fun e w'=>∃u,e = .returned u∧jV w' w.heap.size u (zBs p r (a,b,c,d))∧Below w.heap.size w w':=by
 obtain⟨p2,p3,p4,p5,rfl,h⟩:=h
 obtain⟨A2,a2,rfl,hcl,hcm⟩:=h.secs.slice
 obtain⟨b2,hb2⟩:=zD1 (p.secs.length)
 have P2:Hid (zX w w.heap.size (.slice A2 b2 a2) p.secs):=zD0 (by rw[hb2];exact h.secs)
 have hbb2:b2≤9223372036854775807:=by unfold maxLen at hcm;omega
 rw[←hb2]
 clear hcl hcm
 obtain⟨A3,a3,rfl,hcl,hcm⟩:=h.pts.slice
 obtain⟨b3,hb3⟩:=zD1 (p.pts.length)
 have P3:Hid (zT w w.heap.size (.slice A3 b3 a3) p.pts):=zD0 (by rw[hb3];exact h.pts)
 have hbb3:b3≤9223372036854775807:=by unfold maxLen at hcm;omega
 rw[←hb3]
 clear hcl hcm
 obtain⟨A4,a4,rfl,hcl,hcm⟩:=h.sigs.slice
 obtain⟨b4,hb4⟩:=zD1 (p.sigs.length)
 have P4:Hid (xI w w.heap.size (.slice A4 b4 a4) p.sigs):=zD0 (by rw[hb4];exact h.sigs)
 have hbb4:b4≤9223372036854775807:=by unfold maxLen at hcm;omega
 rw[←hb4]
 clear hcl hcm
 obtain⟨A5,a5,rfl,hcl,hcm⟩:=h.routes.slice
 obtain⟨b5,hb5⟩:=zD1 (p.routes.length)
 have P5:Hid (qX w w.heap.size (.slice A5 b5 a5) p.routes):=zD0 (by rw[hb5];exact h.routes)
 have hbb5:b5≤9223372036854775807:=by unfold maxLen at hcm;omega
 rw[←hb5]
 clear hcl hcm
 have HBL:Hid (b2=p.secs.length∧b3=p.pts.length∧b4=p.sigs.length∧b5=p.routes.length):=zD0 ⟨hb2,hb3,hb4,hb5⟩
 clear h hb2 hb3 hb4 hb5
 have PV:Hid (∀W,Below w.heap.size w W→qF W W.heap.size (.agg #[.int .i64 p.ver,.int .i64 p.par,.slice A2 b2 a2,.slice A3 b3 a3,.slice A4 b4 a4,.slice A5 b5 a5]) p):=zD0 (fun W b=>⟨_,_,_,_,rfl,⟨(P2.out.below zN b).more zN b.size,(P3.out.below zM b).more zM b.size,(P4.out.below zP b).more zP b.size,(P5.out.below qM b).more qM b.size⟩⟩)
 have HS:=zD0 hs
 have HRR:=zD0 hr
 have HI:=zD0 hi
 have H8:Hid (r.path.length≤8∧r.over.length≤8):=zD0 (by have h:=(jO hs.may hi hr).route;have h1:=h.path;have h2:=h.over;omega)
 have HK_:Hid ((kH p r).asks.length≤50):=zD0 (way_asks15 (jO hs.may hi hr))
 clear hs hr P2 P3 P4 P5 HBL hbb2 hbb3 hbb4 hbb5
 have hq:=zV w (.cells #[.int .i64 p.ver,.int .i64 p.par,.slice A2 b2 a2,.slice A3 b3 a3,.slice A4 b4 a4,.slice A5 b5 a5] 27) (.cells #[.int .i64 a,.int .u8 b,.int .i64 c,.int .i64 d] 53)
 go_enter Tryz.func54,Tryz.ntmps54
 go_upto_region 1 with fail
 generalize (w.alloc (.cells #[.int .i64 p.ver,.int .i64 p.par,.slice A2 b2 a2,.slice A3 b3 a3,.slice A4 b4 a4,.slice A5 b5 a5] 27)).alloc (.cells #[.int .i64 a,.int .u8 b,.int .i64 c,.int .i64 d] 53)=q at hq⊢
 obtain⟨q0,q1,qb⟩:=hq
 have X0:=zD0 q0
 have X1:=zD0 q1
 have BQ:=zD0 qb
 obtain⟨l0,l1,l2,l3⟩:=qC q1
 clear q0 q1 qb
 by_cases hb0:b=0
 ·have HN:Hid ((zBs p r (a,b,c,d))=[]):=zD0 (by unfold zBs;rw[if_pos hb0])
  have hb':(b==0)=true:=by simpa using hb0
  clear hb0
  go_wp2_with fail
  go_ret
  exact⟨_,rfl,by rw[HN.out];exact zJ.nil_,BQ.out⟩
 have hb':(b==0)=false:=by simpa using hb0
 obtain⟨k,rfl⟩:∃k:Nat,c=(k:Int):=⟨c.toNat,by have:=hc0 hb0;omega⟩
 have HB0:=zD0 hb0
 clear hb0 hc0
 obtain⟨k0,k1,k2,k3,k4,k5⟩:=zE X0.out
 go_wp2_with fail
 refine(rway15_any _ p r i HI.out HRR.out HS.out q (PV.out q BQ.out)).mono ?_
 rintro e w1 ⟨u0,u1,u2,rfl,hu,b1⟩
 obtain⟨x,hx⟩:=zD1 (kH p r)
 rw[←hx] at hu⊢
 have HX:=zD0 hx
 obtain⟨E0,f0,rfl⟩:=hu.path.slice
 obtain⟨E1,f1,rfl⟩:=hu.over.slice
 obtain⟨E2,f2,rfl⟩:=hu.asks.slice
 obtain⟨e0,he0⟩:=zD1 (x.path.length)
 obtain⟨e1,he1⟩:=zD1 (x.over.length)
 obtain⟨e2,he2⟩:=zD1 (x.asks.length)
 obtain⟨nr,hnr⟩:=zD1 (x.near)
 have HE:Hid (e0=x.path.length∧e1=x.over.length∧e2=x.asks.length):=zD0 ⟨he0,he1,he2⟩
 have hin:=hu.in_
 rw[←he0,←he1,←he2] at hin
 rw[←he0,←he1,←he2,←hnr]
 have ge2:e2≤9223372036854775807:=by
  obtain⟨A',c',e,h1,h2,-⟩:=hin.asks
  cases e
  unfold maxLen at h2
  omega
 have P88:Hid (x.path.length≤8∧x.over.length≤8):=zD0 (by rw[hx];exact H8.out)
 have HKX:Hid (x.asks.length≤50):=zD0 (by rw[hx];exact HK_.out)
 clear he0 he1 he2 hnr hx hu k0 k1 k2 k3 k4 k5 l0 l1 l2 l3
 replace X1:=zD0 ((b1.block _ (zA X1.out)).trans X1.out)
 replace BQ:=zD0 (BQ.out.trans (b1.mono BQ.out.size))
 clear X0 b1
 go_upto_region 4 with((with_reducible show wpList _ _ _ (⟨none,.store _ _ _,_,_,_,_⟩::_) _ _);refine zK rfl _ (.tmp 7) (.tmp 15) rfl w1.heap.size rfl (c':=#[.slice E0 e0 f0,.slice E1 e1 f1,.slice E2 e2 f2,.int .i64 nr]) rfl (zB w1 (.cells #[.slice none 0 0,.slice none 0 0,.slice none 0 0,.int .i64 0] 96)) zDq rfl (by simp[Value.oneCell']) ?_)
 rw[World.setRow_alloc_new]
 have hx1:=zB w1 (.cells #[.slice E0 e0 f0,.slice E1 e1 f1,.slice E2 e2 f2,.int .i64 nr] 96)
 have b1:=zD w1 (.cells #[.slice E0 e0 f0,.slice E1 e1 f1,.slice E2 e2 f2,.int .i64 nr] 96)
 have hin2:=(hin.below b1).more b1.size
 have tX1:=(b1.block _ (zA X1.out)).trans X1.out
 have tBQ:=BQ.out.trans (b1.mono BQ.out.size)
 generalize w1.alloc (.cells #[.slice E0 e0 f0,.slice E1 e1 f1,.slice E2 e2 f2,.int .i64 nr] 96)=w2 at b1 hx1 hin2 tX1 tBQ⊢
 obtain⟨p7,hp7⟩:=zD1 (w1.heap.size)
 rw[←hp7] at hx1⊢
 clear X1 BQ b1 hp7 hin
 have X1:=zD0 tX1
 have BQ:=zD0 tBQ
 have X7:=zD0 hx1
 have WI:=zD0 hin2
 clear tX1 tBQ hx1 hin2
 obtain⟨l0,l1,l2,l3⟩:=qC X1.out
 have he50:e2≤50:=by have:=HE.out;have:=HKX.out;omega
 go_upto_region 6 with fail
 clear l0 l1 l2 l3
 go_loopw [8,9] (fun s8 s9 wr=>∃j m:Nat,j≤e2∧m≤j∧s9 = .int .i64 j∧Hid (((x.asks.take j).filter (zW k)).length=m)∧(∃A9 c9,s8 = .slice A9 m c9∧jV wr w2.heap.size (.slice A9 m c9) ((x.asks.take j).filter (zW k)))∧Below w2.heap.size w2 wr) (fun _ s9 _=>e2-(intOf s9).toNat)
 case atStart=>exact⟨0,0,by omega,by omega,by go_num,zD0 rfl,⟨none,0,rfl,zJ.nil_⟩,Below.refl _ _⟩
 case round=>
  obtain⟨j,m,hj,hm,rfl,HLN,⟨A9,c9,rfl,how⟩,hbw⟩:=hrel
  have OW:=zD0 how
  have BW:=zD0 hbw
  clear how hbw
  have X7w:=zD0 ((BW.out.block _ (zA X7.out)).trans X7.out)
  have X1w:=zD0 ((BW.out.block _ (zA X1.out)).trans X1.out)
  obtain⟨j0,j1,j2,j3⟩:=qC X7w.out
  by_cases hlt:j<e2
  ·have hlt':(j:Int)<(e2:Int):=by omega
   have hpr:j<x.asks.length:=by have:=HE.out;omega
   obtain⟨bs,os,ebs,hbs,hc0,hc1,hc2⟩:=((WI.out.asks.below zP BW.out).more zP BW.out.size).at hpr
   obtain⟨z0_,hz0⟩:=zD1 (x.asks[j].1)
   obtain⟨z1_,hz1⟩:=zD1 (x.asks[j].2.1)
   obtain⟨z2_,hz2⟩:=zD1 (x.asks[j].2.2)
   have HZ:Hid ((z0_,z1_,z2_)=x.asks[j]):=zD0 (by rw[hz0,hz1,hz2])
   rw[←hz0] at hc0
   rw[←hz1] at hc1
   rw[←hz2] at hc2
   have G0:Hid (wr.cell? ⟨bs,os+j*3,none⟩=some (.int .i64 z0_)):=zD0 hc0
   have G1:Hid (wr.cell? ⟨bs,os+j*3+1,none⟩=some (.int .i64 z1_)):=zD0 hc1
   have G2:Hid (wr.cell? ⟨bs,os+j*3+2,none⟩=some (.int .i64 z2_)):=zD0 hc2
   subst ebs
   clear hc0 hc1 hc2 hz0 hz1 hz2 hbs
   go_upto_region 8 with fail
   clear j0 j1 j2 j3
   by_cases ht:z2_<0
   ·have ht_:decide (z2_<0)=true:=decide_eq_true ht
    have SD:=(Below.refl wr.heap.size wr).drew
    refine wp_region_held_drew (S:=fun v=>Below wr.heap.size wr v) (by kernel_rfl) SD (fun zD2=>?_)
    refine tk 0 zD2 ?_;refine tkc 1 zD2 (fun w' hSw=>qC ((hSw.block _ (zA X7w.out)).trans X7w.out)) ?_;refine tk 2 zD2 ?_;refine tk 3 zD2 ?_;refine tk 4 zD2 ?_;refine tkc 5 zD2 (fun w' hSw=>(hSw.cell (zG G2.out)).trans G2.out) ?_;refine tk 6 zD2 ?_;refine tk 7 zD2 ?_;refine tks 8 zD2 ?_;refine tks 9 zD2 ?_;refine tks 10 zD2 ?_;refine tks 11 zD2 ?_;refine tks 12 zD2 ?_;refine tks 13 zD2 ?_;refine tks 14 zD2 ?_;refine tks 15 zD2 ?_;refine tks 16 zD2 ?_;refine tk 17 zD2 ?_
    refine wpAnyH_done (by kernel_rfl) ?_ _
    have O7:=zD0 (OW.out.below zP SD)
    have X7v:=zD0 ((SD.block _ (zA X7w.out)).trans X7w.out)
    have G0':=zD0 ((SD.cell (zG G0.out)).trans G0.out)
    have G1':=zD0 ((SD.cell (zG G1.out)).trans G1.out)
    have G2':=zD0 ((SD.cell (zG G2.out)).trans G2.out)
    have B7:=zD0 (BW.out.trans (SD.mono BW.out.size))
    clear SD OW X7w X1w G0 G1 G2 BW
    generalize wr.drew=q7 at B7 O7 X7v G0' G1' G2'⊢
    have HT:Hid ((x.asks.take (j+1)).filter (zW k)=(x.asks.take j).filter (zW k)++[(z0_,z1_,z2_)]):=zD0 (by rw[List.take_succ_eq_append_getElem hpr,List.filter_append,←HZ.out,List.filter_cons_of_pos (by simp[zW];omega)];rfl)
    have PQ:Hid (w2.heap.size≤q7.heap.size):=zD0 B7.out.size
    have OW:=O7
    obtain⟨j0,j1,j2,j3⟩:=qC X7v.out
    have g0:=G0'.out
    have g1:=G1'.out
    have g2:=G2'.out
    clear O7 X7v G0' G1' G2'
    obtain⟨i0_,hii,hz0,hz1,hz2⟩:=info_parts zBj
    have I0:=zD0 hii
    have I1:=zD0 hz0
    have I2:=zD0 hz1
    have I3:=zD0 hz2
    obtain⟨yss,hown,hyl,hm_,hys,hyr⟩:=OW.out
    have O:Hid (q7.ownsRow w2.heap.size 108 3 (.slice A9 m c9) m yss.flatten):=zD0 (by have h:=hown;rw[HLN.out] at h;exact h)
    have YL:=zD0 hyl
    have YS:=zD0 hys
    have YR:=zD0 hyr
    clear hii hz0 hz1 hz2 hown hyl hm_ hys hyr
    go_wp2_with ((with_reducible show wpList _ _ _ (⟨some 48,_,_,_,_,_⟩::_) _ _);refine zQ rfl (.tmp 41) (.tmp 47) _ rfl Tryz.underlying94 I0.out I1.out rfl I2.out (by decide) I3.out (by decide) rfl (O.out.alloc _) rfl (m:=1) (news:=[.int .i64 z0_,.int .i64 z1_,.int .i64 z2_]) rfl (fun h=>by cases h) (fun a ha j u hj=>by cases ha;rw[Addr.add_lit,Nat.zero_add,World.cell?_alloc_new];simpa using hj) (by simp[Value.oneCell']) (by omega) (by have:=PQ.out;simp;omega) ?_;intro v4 w9 hown4 hgrow4;have S4:=zJ.snoc (w1:=q7) (x:=(z0_,z1_,z2_)) (ys:=[.int .i64 z0_,.int .i64 z1_,.int .i64 z2_]) zP (fun _ h _ _=>h) (show q7.ownsRow w2.heap.size 108 3 (.slice A9 m c9) ((x.asks.take j).filter (zW k)).length yss.flatten by rw[HLN.out];exact O.out) YL.out YS.out rfl (by have:=HLN.out;unfold maxLen;omega) YR.out (Below.refl _ _) ⟨rfl,rfl,rfl⟩ (by rw[HLN.out];exact hown4) hgrow4)
    obtain⟨A8,c8,e8⟩:=S4.slice
    have hlen:((x.asks.take j).filter (zW k)++[(z0_,z1_,z2_)]).length=m+1:=by rw[List.length_append,HLN.out];rfl
    rw[hlen] at e8
    subst e8
    have ON:Hid (jV w9 w2.heap.size (.slice A8 (m+1) c8) ((x.asks.take (j+1)).filter (zW k))):=zD0 (by rw[HT.out];exact S4)
    have HLN':Hid (((x.asks.take (j+1)).filter (zW k)).length=m+1):=zD0 (by rw[HT.out];exact hlen)
    have BN:Hid (Below w2.heap.size w2 w9):=zD0 ((B7.out.alloc B7.out.size _).grown hgrow4 (by have:=PQ.out;simp;omega) (jE O.out))
    clear S4 hown4 hgrow4 hlen O OW YL YS YR j0 j1 j2 j3 g0 g1 g2
    go_wp2_with fail
    go_roundw
    case measure=>simp[intOf];omega
    case rel=>exact⟨j+1,m+1,by omega,by omega,by go_num,HLN'.out,⟨A8,c8,rfl,ON.out⟩,BN.out⟩
   have ht_:decide (z2_<0)=false:=decide_eq_false ht
   by_cases hg:z2_≥(k:Int)
   ·have hg_:decide (z2_≥(k:Int))=true:=decide_eq_true hg
    have SD:=(Below.refl wr.heap.size wr).drew
    refine wp_region_held_drew (S:=fun v=>Below wr.heap.size wr v) (by kernel_rfl) SD (fun zD2=>?_)
    refine tk 0 zD2 ?_;refine tkc 1 zD2 (fun w' hSw=>qC ((hSw.block _ (zA X7w.out)).trans X7w.out)) ?_;refine tk 2 zD2 ?_;refine tk 3 zD2 ?_;refine tk 4 zD2 ?_;refine tkc 5 zD2 (fun w' hSw=>(hSw.cell (zG G2.out)).trans G2.out) ?_;refine tk 6 zD2 ?_;refine tk 7 zD2 ?_;refine tk 8 zD2 ?_;refine tkc 9 zD2 (fun w' hSw=>qC ((hSw.block _ (zA X7w.out)).trans X7w.out)) ?_;refine tk 10 zD2 ?_;refine tk 11 zD2 ?_;refine tk 12 zD2 ?_;refine tkc 13 zD2 (fun w' hSw=>(hSw.cell (zG G2.out)).trans G2.out) ?_;refine tk 14 zD2 ?_;refine tkc 15 zD2 (fun w' hSw=>qC ((hSw.block _ (zA X1w.out)).trans X1w.out)) ?_;refine tk 16 zD2 ?_;refine tk 17 zD2 ?_
    refine wpAnyH_done (by kernel_rfl) ?_ _
    have O7:=zD0 (OW.out.below zP SD)
    have X7v:=zD0 ((SD.block _ (zA X7w.out)).trans X7w.out)
    have G0':=zD0 ((SD.cell (zG G0.out)).trans G0.out)
    have G1':=zD0 ((SD.cell (zG G1.out)).trans G1.out)
    have G2':=zD0 ((SD.cell (zG G2.out)).trans G2.out)
    have B7:=zD0 (BW.out.trans (SD.mono BW.out.size))
    clear SD OW X7w X1w G0 G1 G2 BW
    generalize wr.drew=q7 at B7 O7 X7v G0' G1' G2'⊢
    have HT:Hid ((x.asks.take (j+1)).filter (zW k)=(x.asks.take j).filter (zW k)++[(z0_,z1_,z2_)]):=zD0 (by rw[List.take_succ_eq_append_getElem hpr,List.filter_append,←HZ.out,List.filter_cons_of_pos (by simp[zW];omega)];rfl)
    have PQ:Hid (w2.heap.size≤q7.heap.size):=zD0 B7.out.size
    have OW:=O7
    obtain⟨j0,j1,j2,j3⟩:=qC X7v.out
    have g0:=G0'.out
    have g1:=G1'.out
    have g2:=G2'.out
    clear O7 X7v G0' G1' G2'
    obtain⟨i0_,hii,hz0,hz1,hz2⟩:=info_parts zBj
    have I0:=zD0 hii
    have I1:=zD0 hz0
    have I2:=zD0 hz1
    have I3:=zD0 hz2
    obtain⟨yss,hown,hyl,hm_,hys,hyr⟩:=OW.out
    have O:Hid (q7.ownsRow w2.heap.size 108 3 (.slice A9 m c9) m yss.flatten):=zD0 (by have h:=hown;rw[HLN.out] at h;exact h)
    have YL:=zD0 hyl
    have YS:=zD0 hys
    have YR:=zD0 hyr
    clear hii hz0 hz1 hz2 hown hyl hm_ hys hyr
    go_wp2_with ((with_reducible show wpList _ _ _ (⟨some 48,_,_,_,_,_⟩::_) _ _);refine zQ rfl (.tmp 41) (.tmp 47) _ rfl Tryz.underlying94 I0.out I1.out rfl I2.out (by decide) I3.out (by decide) rfl (O.out.alloc _) rfl (m:=1) (news:=[.int .i64 z0_,.int .i64 z1_,.int .i64 z2_]) rfl (fun h=>by cases h) (fun a ha j u hj=>by cases ha;rw[Addr.add_lit,Nat.zero_add,World.cell?_alloc_new];simpa using hj) (by simp[Value.oneCell']) (by omega) (by have:=PQ.out;simp;omega) ?_;intro v4 w9 hown4 hgrow4;have S4:=zJ.snoc (w1:=q7) (x:=(z0_,z1_,z2_)) (ys:=[.int .i64 z0_,.int .i64 z1_,.int .i64 z2_]) zP (fun _ h _ _=>h) (show q7.ownsRow w2.heap.size 108 3 (.slice A9 m c9) ((x.asks.take j).filter (zW k)).length yss.flatten by rw[HLN.out];exact O.out) YL.out YS.out rfl (by have:=HLN.out;unfold maxLen;omega) YR.out (Below.refl _ _) ⟨rfl,rfl,rfl⟩ (by rw[HLN.out];exact hown4) hgrow4)
    obtain⟨A8,c8,e8⟩:=S4.slice
    have hlen:((x.asks.take j).filter (zW k)++[(z0_,z1_,z2_)]).length=m+1:=by rw[List.length_append,HLN.out];rfl
    rw[hlen] at e8
    subst e8
    have ON:Hid (jV w9 w2.heap.size (.slice A8 (m+1) c8) ((x.asks.take (j+1)).filter (zW k))):=zD0 (by rw[HT.out];exact S4)
    have HLN':Hid (((x.asks.take (j+1)).filter (zW k)).length=m+1):=zD0 (by rw[HT.out];exact hlen)
    have BN:Hid (Below w2.heap.size w2 w9):=zD0 ((B7.out.alloc B7.out.size _).grown hgrow4 (by have:=PQ.out;simp;omega) (jE O.out))
    clear S4 hown4 hgrow4 hlen O OW YL YS YR j0 j1 j2 j3 g0 g1 g2
    go_wp2_with fail
    go_roundw
    case measure=>simp[intOf];omega
    case rel=>exact⟨j+1,m+1,by omega,by omega,by go_num,HLN'.out,⟨A8,c8,rfl,ON.out⟩,BN.out⟩
   have hg_:decide (z2_≥(k:Int))=false:=decide_eq_false hg
   have SD:=(Below.refl wr.heap.size wr).drew
   refine wp_region_held_drew (S:=fun v=>Below wr.heap.size wr v) (by kernel_rfl) SD (fun zD2=>?_)
   refine tk 0 zD2 ?_;refine tkc 1 zD2 (fun w' hSw=>qC ((hSw.block _ (zA X7w.out)).trans X7w.out)) ?_;refine tk 2 zD2 ?_;refine tk 3 zD2 ?_;refine tk 4 zD2 ?_;refine tkc 5 zD2 (fun w' hSw=>(hSw.cell (zG G2.out)).trans G2.out) ?_;refine tk 6 zD2 ?_;refine tk 7 zD2 ?_;refine tk 8 zD2 ?_;refine tkc 9 zD2 (fun w' hSw=>qC ((hSw.block _ (zA X7w.out)).trans X7w.out)) ?_;refine tk 10 zD2 ?_;refine tk 11 zD2 ?_;refine tk 12 zD2 ?_;refine tkc 13 zD2 (fun w' hSw=>(hSw.cell (zG G2.out)).trans G2.out) ?_;refine tk 14 zD2 ?_;refine tkc 15 zD2 (fun w' hSw=>qC ((hSw.block _ (zA X1w.out)).trans X1w.out)) ?_;refine tk 16 zD2 ?_;refine tk 17 zD2 ?_
   refine wpAnyH_done (by kernel_rfl) ?_ _
   have O7:=zD0 (OW.out.below zP SD)
   have X7v:=zD0 ((SD.block _ (zA X7w.out)).trans X7w.out)
   have G0':=zD0 ((SD.cell (zG G0.out)).trans G0.out)
   have G1':=zD0 ((SD.cell (zG G1.out)).trans G1.out)
   have G2':=zD0 ((SD.cell (zG G2.out)).trans G2.out)
   have B7:=zD0 (BW.out.trans (SD.mono BW.out.size))
   clear SD OW X7w X1w G0 G1 G2 BW
   generalize wr.drew=q7 at B7 O7 X7v G0' G1' G2'⊢
   have HT:Hid ((x.asks.take (j+1)).filter (zW k)=(x.asks.take j).filter (zW k)):=zD0 (by rw[List.take_succ_eq_append_getElem hpr,List.filter_append,←HZ.out,List.filter_cons_of_neg (by simp[zW];omega)];simp)
   have ON:Hid (jV q7 w2.heap.size (.slice A9 m c9) ((x.asks.take (j+1)).filter (zW k))):=zD0 (by rw[HT.out];exact O7.out)
   have HLN':Hid (((x.asks.take (j+1)).filter (zW k)).length=m):=zD0 (by rw[HT.out];exact HLN.out)
   clear O7 X7v G0' G1' G2'
   go_wp2_with fail
   go_roundw
   case measure=>simp[intOf];omega
   case rel=>exact⟨j+1,m,by omega,by omega,by go_num,HLN'.out,⟨A9,c9,rfl,ON.out⟩,B7.out⟩
  ·have hlt':¬(j:Int)<(e2:Int):=by omega
   have hje:j=x.asks.length:=by have:=HE.out;omega
   have HRES:Hid (zBs p r (a,b,(k:Int),d)=(x.asks.take j).filter (zW k)):=zD0 (by
    unfold zBs
    rw[if_neg HB0.out,←HX.out,hje,List.take_length])
   clear hje
   go_wp2_with fail
   go_ret
   exact⟨_,rfl,by rw[HRES.out];exact OW.out.mono BQ.out.size,BQ.out.trans (BW.out.mono BQ.out.size)⟩
end Go.Proofs.YtemmgmjhomgbbaaGreat
