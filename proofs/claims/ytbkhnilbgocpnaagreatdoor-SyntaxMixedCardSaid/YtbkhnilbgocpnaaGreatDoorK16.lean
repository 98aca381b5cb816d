import Derived.Test.YtbkhnilbgocpnaaGreatDoorK0
import Derived.Test.YtbkhnilbgocpnaaGreatDoorK15
set_option linter.unusedVariables false
set_option linter.unusedSimpArgs false
set_option maxRecDepth 100000
set_option maxHeartbeats 2000000
open Go.Lib (hid)
namespace Go.Proofs.YtbkhnilbgocpnaaGreatDoor.SynC
open Go.Proofs.YtbkhnilbgocpnaaGreatDoor.LexC
open Go Go.ChangeShapes Go.WideShapes Go.ChangeAt Go.RowKit Go.Deep
def stsA:Array Value:=#[.bool false,.bool true,.int .i64 1,.int .i64 1,.bool false,.bool false,.bool false,.bool true,.int .i64 1,.int .i64 1,.bool false,.bool false,.bool false,.bool true,.int .i64 2,.int .i64 2,.bool false,.bool false,.bool false,.bool false,.int .i64 1,.int .i64 1,.bool true,.bool true,.bool false,.bool false,.int .i64 1,.int .i64 1,.bool true,.bool false,.bool false,.bool false,.int .i64 0,.int .i64 0,.bool false,.bool false,.bool false,.bool false,.int .i64 0,.int .i64 0,.bool false,.bool false,.bool false,.bool false,.int .i64 0,.int .i64 1,.bool false,.bool false,.bool false,.bool false,.int .i64 0,.int .i64 0,.bool false,.bool false,.bool true,.bool true,.int .i64 2,.int .i64 2,.bool false,.bool false,.bool true,.bool true,.int .i64 1,.int .i64 1,.bool false,.bool false]
def foldB (fo:Bool) (op:Int):Bool:=if fo then u7r op else op == 0
theorem foldK_none {op:Int} (h:u7r op=false):foldK op=none:=by
 simp only [u7r,Bool.or_eq_false_iff,beq_eq_false_iff_ne] at h
 obtain ⟨⟨⟨⟨⟨a,b⟩,c⟩,d⟩,e⟩,f⟩:=h
 unfold foldK foldL
 simp only [List.find?_cons,List.find?_nil]
 rw [show ((0:Int) == op)=false by simpa using Ne.symm a,show ((18:Int) == op)=false by simpa using Ne.symm b,show ((19:Int) == op)=false by simpa using Ne.symm c,show ((5:Int) == op)=false by simpa using Ne.symm d,show ((6:Int) == op)=false by simpa using Ne.symm e,show ((7:Int) == op)=false by simpa using Ne.symm f]
theorem u3c (op:Int) (fo:Bool) (w:World) (hS:Gv w 6 foldA) (b:Bool) (h:foldB fo op=b):Calls Tryz.prog 201 #[.int .i64 op,.bool fo] w fun e w'=>e=.returned (.bool b)∧Below w.heap.size w w':=by
 subst h
 have HS:=hid hS
 clear hS
 cases fo
 ·go_enter Tryz.func201,Tryz.ntmps201
  go_wp2_with fail
  go_ret
  exact ⟨rfl,Below.refl _ _⟩
 ·cases hf:u7r op
  ·have hw:=u6a op w HS.out
   rw [foldK_none hf] at hw
   have HW:=hid hw
   have he:foldB true op=false:=by simp [foldB,hf]
   rw [he]
   clear hw hf he
   go_enter Tryz.func201,Tryz.ntmps201
   go_wp2_with fail
   refine HW.out.mono ?_
   rintro e w1 ⟨rfl,hb⟩
   have HB:=hid hb
   clear hb
   unfold foldR
   go_wp2_with fail
   go_ret
   exact ⟨rfl,HB.out⟩
  ·have hw:=u6a op w HS.out
   rw [foldK_ok hf] at hw
   have HW:=hid hw
   have he:foldB true op=true:=by simp [foldB,hf]
   rw [he]
   clear hw hf he
   go_enter Tryz.func201,Tryz.ntmps201
   go_wp2_with fail
   refine HW.out.mono ?_
   rintro e w1 ⟨rfl,hb⟩
   have HB:=hid hb
   clear hb
   unfold foldR
   go_wp2_with fail
   go_ret
   exact ⟨rfl,HB.out⟩
theorem fitsStmt_in (k:Nat) (hk:k<11) (fo nd:Bool) (le mo:Int) (bd ot:Bool) (op:Int) (x:List UInt8) (A:Option Addr) (m c:Nat) (B:Option Addr) (mb cb:Nat) (C:Option Addr) (mc cc:Nat) (w:World) (h5:10≤w.heap.size) (hS:Gv w 6 foldA) (hx:x.length≤maxLen)
  (r0:w.cell? ⟨5,k * 6,none⟩=some (.bool fo)) (r1:w.cell? ⟨5,k * 6+1,none⟩=some (.bool nd)) (r2:w.cell? ⟨5,k * 6+2,none⟩=some (.int .i64 le)) (r3:w.cell? ⟨5,k * 6+3,none⟩=some (.int .i64 mo)) (r4:w.cell? ⟨5,k * 6+4,none⟩=some (.bool bd)) (r5:w.cell? ⟨5,k * 6+5,none⟩=some (.bool ot)) :
  Calls Tryz.prog 185 #[.agg #[.int .i64 k,.int .i64 op,.string (bs x),.slice A m c,.slice B mb cb,.slice C mc cc]] w fun e w'=>e=.returned (.bool (foldB fo op&&nameB nd x&&decide (le≤m)&&decide (m≤mo)&&(bd || decide (mb=0))&&(ot || decide (mc=0))))∧Below w.heap.size w w':=by
 have hin:(0:Int)≤k∧(k:Int)<11:=⟨by omega,by omega⟩
 have h55:5<w.heap.size:=by omega
 obtain ⟨bi,hi⟩:∃ b,foldB fo op=b:=⟨_,rfl⟩
 obtain ⟨bn,hnm⟩:∃ b,nameB nd x=b:=⟨_,rfl⟩
 rw [hi,hnm]
 have HI:=hid hi
 have HN:=hid hnm
 have HS:=hid hS
 clear hi hnm hS
 cases bi
 ·go_enter Tryz.func185,Tryz.ntmps185
  go_wp2_with fail
  refine (u3c _ _ _ ?_ _ HI.out).mono ?_
  ·obtain ⟨ty,fr,h⟩:=HS.out; exact ⟨ty,fr,u0e tSZ (u0e (Array.getElem?_eq_some_iff.1 h).1 h)⟩
  rintro e w1 ⟨rfl,hb1⟩
  have hz1:=hb1.size
  (try simp only [u0c] at hz1)
  have hg1:=u0f hb1 (some 0)
  obtain ⟨_,_,_,l1⟩:=u0a (q:=w.heap.size) hg1 tLOC (by omega)
  obtain ⟨_,_,_,m1⟩:=u0a (q:=w.heap.size+1) hg1 tLOC (by omega)
  have hB1:=hid (show Below w.heap.size w w1 from (tBEL:Below w.heap.size w _).trans (hb1.mono tSZ))
  clear hb1 hg1
  go_wp2_with fail
  go_ret
  exact ⟨by simp [] <;> (intros; omega),hB1.out⟩
 cases bn
 ·go_enter Tryz.func185,Tryz.ntmps185
  go_wp2_with fail
  refine (u3c _ _ _ ?_ _ HI.out).mono ?_
  ·obtain ⟨ty,fr,h⟩:=HS.out; exact ⟨ty,fr,u0e tSZ (u0e (Array.getElem?_eq_some_iff.1 h).1 h)⟩
  rintro e w1 ⟨rfl,hb1⟩
  have hz1:=hb1.size
  (try simp only [u0c] at hz1)
  have hg1:=u0f hb1 (some 0)
  obtain ⟨_,_,_,l1⟩:=u0a (q:=w.heap.size) hg1 tLOC (by omega)
  obtain ⟨_,_,_,m1⟩:=u0a (q:=w.heap.size+1) hg1 tLOC (by omega)
  have hB1:=hid (show Below w.heap.size w w1 from (tBEL:Below w.heap.size w _).trans (hb1.mono tSZ))
  clear hb1 hg1
  go_wp2_with fail
  refine (u2h _ _ _ hx _ HN.out).mono ?_
  rintro e w2 ⟨rfl,hb2⟩
  have hz2:=hb2.size
  have hg2:=u0f hb2 (some 0)
  obtain ⟨_,_,_,l2⟩:=u0a (q:=w.heap.size) hg2 l1 (by omega)
  obtain ⟨_,_,_,m2⟩:=u0a (q:=w.heap.size+1) hg2 m1 (by omega)
  have hB2:=hid (hB1.out.trans (hb2.mono hB1.out.size))
  clear hb2 hg2
  go_wp2_with fail
  go_ret
  exact ⟨by simp [] <;> (intros; omega),hB2.out⟩
 by_cases h2:le≤m
 rotate_left 1
 ·go_enter Tryz.func185,Tryz.ntmps185
  go_wp2_with fail
  refine (u3c _ _ _ ?_ _ HI.out).mono ?_
  ·obtain ⟨ty,fr,h⟩:=HS.out; exact ⟨ty,fr,u0e tSZ (u0e (Array.getElem?_eq_some_iff.1 h).1 h)⟩
  rintro e w1 ⟨rfl,hb1⟩
  have hz1:=hb1.size
  (try simp only [u0c] at hz1)
  have hg1:=u0f hb1 (some 0)
  obtain ⟨_,_,_,l1⟩:=u0a (q:=w.heap.size) hg1 tLOC (by omega)
  obtain ⟨_,_,_,m1⟩:=u0a (q:=w.heap.size+1) hg1 tLOC (by omega)
  have hB1:=hid (show Below w.heap.size w w1 from (tBEL:Below w.heap.size w _).trans (hb1.mono tSZ))
  clear hb1 hg1
  go_wp2_with fail
  refine (u2h _ _ _ hx _ HN.out).mono ?_
  rintro e w2 ⟨rfl,hb2⟩
  have hz2:=hb2.size
  have hg2:=u0f hb2 (some 0)
  obtain ⟨_,_,_,l2⟩:=u0a (q:=w.heap.size) hg2 l1 (by omega)
  obtain ⟨_,_,_,m2⟩:=u0a (q:=w.heap.size+1) hg2 m1 (by omega)
  have hB2:=hid (hB1.out.trans (hb2.mono hB1.out.size))
  clear hb2 hg2
  go_wp2_with fail
  go_ret
  exact ⟨by simp [h2] <;> (intros; omega),hB2.out⟩
 by_cases h3:m≤mo
 rotate_left 1
 ·go_enter Tryz.func185,Tryz.ntmps185
  go_wp2_with fail
  refine (u3c _ _ _ ?_ _ HI.out).mono ?_
  ·obtain ⟨ty,fr,h⟩:=HS.out; exact ⟨ty,fr,u0e tSZ (u0e (Array.getElem?_eq_some_iff.1 h).1 h)⟩
  rintro e w1 ⟨rfl,hb1⟩
  have hz1:=hb1.size
  (try simp only [u0c] at hz1)
  have hg1:=u0f hb1 (some 0)
  obtain ⟨_,_,_,l1⟩:=u0a (q:=w.heap.size) hg1 tLOC (by omega)
  obtain ⟨_,_,_,m1⟩:=u0a (q:=w.heap.size+1) hg1 tLOC (by omega)
  have hB1:=hid (show Below w.heap.size w w1 from (tBEL:Below w.heap.size w _).trans (hb1.mono tSZ))
  clear hb1 hg1
  go_wp2_with fail
  refine (u2h _ _ _ hx _ HN.out).mono ?_
  rintro e w2 ⟨rfl,hb2⟩
  have hz2:=hb2.size
  have hg2:=u0f hb2 (some 0)
  obtain ⟨_,_,_,l2⟩:=u0a (q:=w.heap.size) hg2 l1 (by omega)
  obtain ⟨_,_,_,m2⟩:=u0a (q:=w.heap.size+1) hg2 m1 (by omega)
  have hB2:=hid (hB1.out.trans (hb2.mono hB1.out.size))
  clear hb2 hg2
  go_wp2_with fail
  go_ret
  exact ⟨by simp [h2,h3] <;> (intros; omega),hB2.out⟩
 cases bd
 ·by_cases h4:mb=0
  rotate_left 1
  ·go_enter Tryz.func185,Tryz.ntmps185
   go_wp2_with fail
   refine (u3c _ _ _ ?_ _ HI.out).mono ?_
   ·obtain ⟨ty,fr,h⟩:=HS.out; exact ⟨ty,fr,u0e tSZ (u0e (Array.getElem?_eq_some_iff.1 h).1 h)⟩
   rintro e w1 ⟨rfl,hb1⟩
   have hz1:=hb1.size
   (try simp only [u0c] at hz1)
   have hg1:=u0f hb1 (some 0)
   obtain ⟨_,_,_,l1⟩:=u0a (q:=w.heap.size) hg1 tLOC (by omega)
   obtain ⟨_,_,_,m1⟩:=u0a (q:=w.heap.size+1) hg1 tLOC (by omega)
   have hB1:=hid (show Below w.heap.size w w1 from (tBEL:Below w.heap.size w _).trans (hb1.mono tSZ))
   clear hb1 hg1
   go_wp2_with fail
   refine (u2h _ _ _ hx _ HN.out).mono ?_
   rintro e w2 ⟨rfl,hb2⟩
   have hz2:=hb2.size
   have hg2:=u0f hb2 (some 0)
   obtain ⟨_,_,_,l2⟩:=u0a (q:=w.heap.size) hg2 l1 (by omega)
   obtain ⟨_,_,_,m2⟩:=u0a (q:=w.heap.size+1) hg2 m1 (by omega)
   have hB2:=hid (hB1.out.trans (hb2.mono hB1.out.size))
   clear hb2 hg2
   go_wp2_with fail
   go_ret
   exact ⟨by simp [h2,h3,h4] <;> (intros; omega),hB2.out⟩
  subst h4
  cases ot
  ·by_cases h6:mc=0
   ·subst h6
    go_enter Tryz.func185,Tryz.ntmps185
    go_wp2_with fail
    refine (u3c _ _ _ ?_ _ HI.out).mono ?_
    ·obtain ⟨ty,fr,h⟩:=HS.out; exact ⟨ty,fr,u0e tSZ (u0e (Array.getElem?_eq_some_iff.1 h).1 h)⟩
    rintro e w1 ⟨rfl,hb1⟩
    have hz1:=hb1.size
    (try simp only [u0c] at hz1)
    have hg1:=u0f hb1 (some 0)
    obtain ⟨_,_,_,l1⟩:=u0a (q:=w.heap.size) hg1 tLOC (by omega)
    obtain ⟨_,_,_,m1⟩:=u0a (q:=w.heap.size+1) hg1 tLOC (by omega)
    have hB1:=hid (show Below w.heap.size w w1 from (tBEL:Below w.heap.size w _).trans (hb1.mono tSZ))
    clear hb1 hg1
    go_wp2_with fail
    refine (u2h _ _ _ hx _ HN.out).mono ?_
    rintro e w2 ⟨rfl,hb2⟩
    have hz2:=hb2.size
    have hg2:=u0f hb2 (some 0)
    obtain ⟨_,_,_,l2⟩:=u0a (q:=w.heap.size) hg2 l1 (by omega)
    obtain ⟨_,_,_,m2⟩:=u0a (q:=w.heap.size+1) hg2 m1 (by omega)
    have hB2:=hid (hB1.out.trans (hb2.mono hB1.out.size))
    clear hb2 hg2
    go_wp2_with fail
    go_ret
    exact ⟨by simp [h2,h3] <;> (intros; omega),hB2.out⟩
   ·go_enter Tryz.func185,Tryz.ntmps185
    go_wp2_with fail
    refine (u3c _ _ _ ?_ _ HI.out).mono ?_
    ·obtain ⟨ty,fr,h⟩:=HS.out; exact ⟨ty,fr,u0e tSZ (u0e (Array.getElem?_eq_some_iff.1 h).1 h)⟩
    rintro e w1 ⟨rfl,hb1⟩
    have hz1:=hb1.size
    (try simp only [u0c] at hz1)
    have hg1:=u0f hb1 (some 0)
    obtain ⟨_,_,_,l1⟩:=u0a (q:=w.heap.size) hg1 tLOC (by omega)
    obtain ⟨_,_,_,m1⟩:=u0a (q:=w.heap.size+1) hg1 tLOC (by omega)
    have hB1:=hid (show Below w.heap.size w w1 from (tBEL:Below w.heap.size w _).trans (hb1.mono tSZ))
    clear hb1 hg1
    go_wp2_with fail
    refine (u2h _ _ _ hx _ HN.out).mono ?_
    rintro e w2 ⟨rfl,hb2⟩
    have hz2:=hb2.size
    have hg2:=u0f hb2 (some 0)
    obtain ⟨_,_,_,l2⟩:=u0a (q:=w.heap.size) hg2 l1 (by omega)
    obtain ⟨_,_,_,m2⟩:=u0a (q:=w.heap.size+1) hg2 m1 (by omega)
    have hB2:=hid (hB1.out.trans (hb2.mono hB1.out.size))
    clear hb2 hg2
    go_wp2_with fail
    go_ret
    exact ⟨by simp [h2,h3,h6] <;> (intros; omega),hB2.out⟩
  ·go_enter Tryz.func185,Tryz.ntmps185
   go_wp2_with fail
   refine (u3c _ _ _ ?_ _ HI.out).mono ?_
   ·obtain ⟨ty,fr,h⟩:=HS.out; exact ⟨ty,fr,u0e tSZ (u0e (Array.getElem?_eq_some_iff.1 h).1 h)⟩
   rintro e w1 ⟨rfl,hb1⟩
   have hz1:=hb1.size
   (try simp only [u0c] at hz1)
   have hg1:=u0f hb1 (some 0)
   obtain ⟨_,_,_,l1⟩:=u0a (q:=w.heap.size) hg1 tLOC (by omega)
   obtain ⟨_,_,_,m1⟩:=u0a (q:=w.heap.size+1) hg1 tLOC (by omega)
   have hB1:=hid (show Below w.heap.size w w1 from (tBEL:Below w.heap.size w _).trans (hb1.mono tSZ))
   clear hb1 hg1
   go_wp2_with fail
   refine (u2h _ _ _ hx _ HN.out).mono ?_
   rintro e w2 ⟨rfl,hb2⟩
   have hz2:=hb2.size
   have hg2:=u0f hb2 (some 0)
   obtain ⟨_,_,_,l2⟩:=u0a (q:=w.heap.size) hg2 l1 (by omega)
   obtain ⟨_,_,_,m2⟩:=u0a (q:=w.heap.size+1) hg2 m1 (by omega)
   have hB2:=hid (hB1.out.trans (hb2.mono hB1.out.size))
   clear hb2 hg2
   go_wp2_with fail
   go_ret
   exact ⟨by simp [h2,h3] <;> (intros; omega),hB2.out⟩
 ·cases ot
  ·by_cases h6:mc=0
   ·subst h6
    go_enter Tryz.func185,Tryz.ntmps185
    go_wp2_with fail
    refine (u3c _ _ _ ?_ _ HI.out).mono ?_
    ·obtain ⟨ty,fr,h⟩:=HS.out; exact ⟨ty,fr,u0e tSZ (u0e (Array.getElem?_eq_some_iff.1 h).1 h)⟩
    rintro e w1 ⟨rfl,hb1⟩
    have hz1:=hb1.size
    (try simp only [u0c] at hz1)
    have hg1:=u0f hb1 (some 0)
    obtain ⟨_,_,_,l1⟩:=u0a (q:=w.heap.size) hg1 tLOC (by omega)
    obtain ⟨_,_,_,m1⟩:=u0a (q:=w.heap.size+1) hg1 tLOC (by omega)
    have hB1:=hid (show Below w.heap.size w w1 from (tBEL:Below w.heap.size w _).trans (hb1.mono tSZ))
    clear hb1 hg1
    go_wp2_with fail
    refine (u2h _ _ _ hx _ HN.out).mono ?_
    rintro e w2 ⟨rfl,hb2⟩
    have hz2:=hb2.size
    have hg2:=u0f hb2 (some 0)
    obtain ⟨_,_,_,l2⟩:=u0a (q:=w.heap.size) hg2 l1 (by omega)
    obtain ⟨_,_,_,m2⟩:=u0a (q:=w.heap.size+1) hg2 m1 (by omega)
    have hB2:=hid (hB1.out.trans (hb2.mono hB1.out.size))
    clear hb2 hg2
    go_wp2_with fail
    go_ret
    exact ⟨by simp [h2,h3] <;> (intros; omega),hB2.out⟩
   ·go_enter Tryz.func185,Tryz.ntmps185
    go_wp2_with fail
    refine (u3c _ _ _ ?_ _ HI.out).mono ?_
    ·obtain ⟨ty,fr,h⟩:=HS.out; exact ⟨ty,fr,u0e tSZ (u0e (Array.getElem?_eq_some_iff.1 h).1 h)⟩
    rintro e w1 ⟨rfl,hb1⟩
    have hz1:=hb1.size
    (try simp only [u0c] at hz1)
    have hg1:=u0f hb1 (some 0)
    obtain ⟨_,_,_,l1⟩:=u0a (q:=w.heap.size) hg1 tLOC (by omega)
    obtain ⟨_,_,_,m1⟩:=u0a (q:=w.heap.size+1) hg1 tLOC (by omega)
    have hB1:=hid (show Below w.heap.size w w1 from (tBEL:Below w.heap.size w _).trans (hb1.mono tSZ))
    clear hb1 hg1
    go_wp2_with fail
    refine (u2h _ _ _ hx _ HN.out).mono ?_
    rintro e w2 ⟨rfl,hb2⟩
    have hz2:=hb2.size
    have hg2:=u0f hb2 (some 0)
    obtain ⟨_,_,_,l2⟩:=u0a (q:=w.heap.size) hg2 l1 (by omega)
    obtain ⟨_,_,_,m2⟩:=u0a (q:=w.heap.size+1) hg2 m1 (by omega)
    have hB2:=hid (hB1.out.trans (hb2.mono hB1.out.size))
    clear hb2 hg2
    go_wp2_with fail
    go_ret
    exact ⟨by simp [h2,h3,h6] <;> (intros; omega),hB2.out⟩
  ·go_enter Tryz.func185,Tryz.ntmps185
   go_wp2_with fail
   refine (u3c _ _ _ ?_ _ HI.out).mono ?_
   ·obtain ⟨ty,fr,h⟩:=HS.out; exact ⟨ty,fr,u0e tSZ (u0e (Array.getElem?_eq_some_iff.1 h).1 h)⟩
   rintro e w1 ⟨rfl,hb1⟩
   have hz1:=hb1.size
   (try simp only [u0c] at hz1)
   have hg1:=u0f hb1 (some 0)
   obtain ⟨_,_,_,l1⟩:=u0a (q:=w.heap.size) hg1 tLOC (by omega)
   obtain ⟨_,_,_,m1⟩:=u0a (q:=w.heap.size+1) hg1 tLOC (by omega)
   have hB1:=hid (show Below w.heap.size w w1 from (tBEL:Below w.heap.size w _).trans (hb1.mono tSZ))
   clear hb1 hg1
   go_wp2_with fail
   refine (u2h _ _ _ hx _ HN.out).mono ?_
   rintro e w2 ⟨rfl,hb2⟩
   have hz2:=hb2.size
   have hg2:=u0f hb2 (some 0)
   obtain ⟨_,_,_,l2⟩:=u0a (q:=w.heap.size) hg2 l1 (by omega)
   obtain ⟨_,_,_,m2⟩:=u0a (q:=w.heap.size+1) hg2 m1 (by omega)
   have hB2:=hid (hB1.out.trans (hb2.mono hB1.out.size))
   clear hb2 hg2
   go_wp2_with fail
   go_ret
   exact ⟨by simp [h2,h3] <;> (intros; omega),hB2.out⟩
theorem sts_at {w:World} (h:Gv w 5 stsA) (k j:Nat) (u:Value) (hu:stsA[k * 6+j]? = some u):w.cell? ⟨5,k * 6+j,none⟩=some u:=by
 obtain ⟨ty,fr,h⟩:=h
 rw [cell_of_row _ _ (k * 6+j) _ _ _ h]; exact hu
theorem fitsStmt_any (kind op:Int) (x:List UInt8) (A:Option Addr) (m c:Nat) (B:Option Addr) (mb cb:Nat) (C:Option Addr) (mc cc:Nat) (w:World) (h5:10≤w.heap.size) (hT:Gv w 5 stsA) (hS:Gv w 6 foldA) (hx:x.length≤maxLen) :
  Calls Tryz.prog 185 #[.agg #[.int .i64 kind,.int .i64 op,.string (bs x),.slice A m c,.slice B mb cb,.slice C mc cc]] w fun e w'=>e=.returned (.bool (u3x u0o kind op x m (decide (mb=0)) (decide (mc=0))))∧Below w.heap.size w w':=by
 by_cases hk:0≤kind∧kind<11
 ·obtain ⟨k,rfl⟩:∃ k:Nat,kind=k:=⟨kind.toNat,by omega⟩
  have hk7:k<11:=by omega
  have key:∀ fo nd le mo bd ot,stsA[k * 6]? = some (.bool fo)→stsA[k * 6+1]? = some (.bool nd)→stsA[k * 6+2]? = some (.int .i64 le)→stsA[k * 6+3]? = some (.int .i64 mo)→stsA[k * 6+4]? = some (.bool bd)→stsA[k * 6+5]? = some (.bool ot) →
    (foldB fo op&&nameB nd x&&decide (le≤m)&&decide (m≤mo)&&(bd || decide (mb=0))&&(ot || decide (mc=0)))=u3x u0o k op x m (decide (mb=0)) (decide (mc=0)) →
    Calls Tryz.prog 185 #[.agg #[.int .i64 k,.int .i64 op,.string (bs x),.slice A m c,.slice B mb cb,.slice C mc cc]] w fun e w'=>e=.returned (.bool (u3x u0o k op x m (decide (mb=0)) (decide (mc=0))))∧Below w.heap.size w w':=by
   intro fo nd le mo bd ot e0 e1 e2 e3 e4 e5 he
   rw [← he]
   exact fitsStmt_in k hk7 fo nd le mo bd ot op x A m c B mb cb C mc cc w h5 hS hx (sts_at hT k 0 _ e0) (sts_at hT k 1 _ e1) (sts_at hT k 2 _ e2) (sts_at hT k 3 _ e3) (sts_at hT k 4 _ e4) (sts_at hT k 5 _ e5)
  obtain rfl | rfl | rfl | rfl | rfl | rfl | rfl | rfl | rfl | rfl | rfl:k=0∨k=1∨k=2∨k=3∨k=4∨k=5∨k=6∨k=7∨k=8∨k=9∨k=10:=by omega
  all_goals (refine key _ _ _ _ _ _ rfl rfl rfl rfl rfl rfl (bool_eq ?_); unfold foldB nameB u3x; generalize u0o x=p; generalize x.isEmpty=q; generalize u7r op=f; generalize decide (mb=0)=y; generalize decide (mc=0)=z; cases p <;> cases q <;> cases f <;> cases y <;> cases z <;> first | (simp; done) | (simp; omega))
 ·have he:u3x u0o kind op x m (decide (mb=0)) (decide (mc=0))=false:=by
   unfold u3x
   repeat (first | (rw [if_neg (by omega)]) | rfl)
  rw [he]
  by_cases h0:kind<0
  ·go_enter Tryz.func185,Tryz.ntmps185
   go_wp2_with fail
   go_ret
   exact ⟨rfl,tBEL⟩
  ·have h1:11≤kind:=by omega
   go_enter Tryz.func185,Tryz.ntmps185
   go_wp2_with fail
   go_ret
   exact ⟨rfl,tBEL⟩
mutual
def rgS:St→Prop
 | .mk _ _ name exprs body els=>name.length≤maxLen∧(exprs.length≤1125899906842624∧rgEs exprs)∧(body.length≤1125899906842624∧rgSs body)∧(els.length≤1125899906842624∧rgSs els)
def rgSs:List St→Prop
 | []=>True
 | e :: r=>rgS e∧rgSs r
end
theorem rgSs_at:∀ {l:List St},rgSs l→∀ a∈l,rgS a
 | e :: r,h,a,ha=>by
  rw [rgSs] at h
  rcases List.mem_cons.1 ha with rfl | ha
  ·exact h.1
  ·exact rgSs_at h.2 a ha
theorem partsSs_take (l:List St):∀ k a,l[k]? = some a→u0u (l.take (k+1))=u0u (l.take k)+u6e a:=by
 induction l with
 | nil=>intro k a h; simp at h
 | cons e r ih =>
  intro k a h
  cases k with
  | zero=>simp at h; subst h; simp [u0u]
  | succ k =>
   have:=ih k a (by simpa using h)
   rw [List.take_succ_cons,List.take_succ_cons,u0u,u0u,this]; omega
theorem depthSs_take (l:List St):∀ k a,l[k]? = some a→u1n (l.take (k+1))=max (u1n (l.take k)) (depthS a):=by
 induction l with
 | nil=>intro k a h; simp at h
 | cons e r ih =>
  intro k a h
  cases k with
  | zero=>simp at h; subst h; simp [u1n]; have:=depthS_pos e; omega
  | succ k =>
   have:=ih k a (by simpa using h)
   rw [List.take_succ_cons,List.take_succ_cons,u1n,u1n,this]; omega
theorem exdSs_take (l:List St):∀ k a,l[k]? = some a→u3v (l.take (k+1))=max (u3v (l.take k)) (exdS a):=by
 induction l with
 | nil=>intro k a h; simp at h
 | cons e r ih =>
  intro k a h
  cases k with
  | zero=>simp at h; subst h; simp [u3v]; have:=exdS_pos e; omega
  | succ k =>
   have:=ih k a (by simpa using h)
   rw [List.take_succ_cons,List.take_succ_cons,u3v,u3v,this]; omega
def newD (d lv dep ex:Int):Int:=max d (max (lv - 1+dep) ex)
structure Tabs (w:World):Prop where
 exs:Gv w 4 exsA
 sts:Gv w 5 stsA
 fold:Gv w 6 foldA
theorem Tabs.keep {w w':World} {b:Nat} (h:Tabs w) (k:w.grownBy w' (some b)) (hb:10≤b):Tabs w' :=
 ⟨h.exs.keep k (by simp; omega),h.sts.keep k (by simp; omega),h.fold.keep k (by simp; omega)⟩
def CS (s:St):Prop:=∀ (b base q1 q2:Nat) (lv p d:Int) (w:World) (k o:Int) (x:List UInt8) (A:Option Addr) (m c:Nat) (B:Option Addr) (mb cb:Nat) (C:Option Addr) (mc cc:Nat),Mz w b p d→base≤b→10≤base→0≤p∧p≤400→1≤lv∧lv≤13→lv - 1≤d→Tabs w →
 RS w (fun g=>g<base) [.int .i64 k,.int .i64 o,.string (bs x),.slice A m c,.slice B mb cb,.slice C mc cc] s→rgS s→q1≠b→q2≠b→w.heap[q1]? = some (.cells #[.pointer (some ⟨b,0,none⟩)] 174 (0,0))→w.heap[q2]? = some (.cells #[.int .i64 lv] 3 (0,0)) →
 Calls Tryz.prog 184 #[.agg #[.int .i64 k,.int .i64 o,.string (bs x),.slice A m c,.slice B mb cb,.slice C mc cc],.pointer (some ⟨q1,0,none⟩),.pointer (some ⟨q2,0,none⟩)] w (Meas b w (fitS u0o p lv s) (p+u6e s) (newD d lv (depthS s) (exdS s)))
def CSs (l:List St):Prop:=∀ (b base:Nat) (lv p d:Int) (w:World) (A:Option Addr) (m c:Nat),Mz w b p d→base≤b→10≤base→0≤p∧p≤400→1≤lv∧lv≤13→lv - 1≤d→Tabs w→SlS w (fun g=>g<base) (.slice A m c) l→rgSs l→l.length≤1125899906842624 →
 Calls Tryz.prog 149 #[.pointer (some ⟨b,0,none⟩),.slice A m c,.int .i64 lv] w (Meas b w (u6d u0o p lv l) (p+u0u l) (newD d lv (u1n l) (u3v l)))
theorem u7g {w:World} {P:Nat→Prop} {A:Option Addr} {m c:Nat} {l:List St} (hs:SlS w P (.slice A m c) l):m=l.length:=by
 rcases hs with ⟨h1,h2⟩ | ⟨x,c',h1,_⟩
 ·injection h1 with _ h1 _; rw [h1,h2]; rfl
 ·injection h1
theorem slE_len {w:World} {P:Nat→Prop} {A:Option Addr} {m c:Nat} {l:List Ex} (hs:SlE w P (.slice A m c) l):m=l.length:=by
 rcases hs with ⟨h1,h2⟩ | ⟨x,c',h1,_⟩
 ·injection h1 with _ h1 _; rw [h1,h2]; rfl
 ·injection h1
theorem empty_dec (l:List St):decide (l.length=0)=l.isEmpty:=by cases l <;> simp
theorem fitSs_drop (nm:List UInt8→Bool) (p lv:Int) (l:List St) (k:Nat) (a:St) (h:l[k]? = some a):u6d nm (p+u0u (l.take k)) lv (l.drop k)=(fitS nm (p+u0u (l.take k)) lv a&&u6d nm (p+u0u (l.take (k+1))) lv (l.drop (k+1))):=by
 obtain ⟨h1,h2⟩:=List.getElem?_eq_some_iff.1 h
 rw [List.drop_eq_getElem_cons h1,h2,fitSs_cons,partsSs_take l k a h]
 congr 2; omega
theorem clo_s (kind op:Int) (name:List UInt8) (exprs:List Ex) (body els:List St) (hbd:CSs body) (hel:CSs els):CS (.mk kind op name exprs body els):=by
 intro b base q1 q2 lv p d w k o x A m c B mb cb C mc cc hm hb h10 hp hlv hd hT hr hg hn1 hn2 hq1 hq2
 rw [RS_eq] at hr
 obtain ⟨E,F,G,hc,s1,s2,s3⟩:=hr
 simp only [stRow,List.cons.injEq,Value.int.injEq,Value.string.injEq,true_and,and_true] at hc
 obtain ⟨e1,e2,e3,e4,e5,e6⟩:=hc
 have e3:=bs_inj e3
 subst e1; subst e2; subst e3; subst e4; subst e5; subst e6
 have l1:=slE_len s1
 have l2:=u7g s2
 have l3:=u7g s3
 subst l1; subst l2; subst l3
 rw [rgS] at hg
 obtain ⟨hx,⟨gx1,gx2⟩,⟨gb1,gb2⟩,⟨ge1,ge2⟩⟩:=hg
 have zb:=(Array.getElem?_eq_some_iff.1 (show w.heap[b]? = _ from hm)).1
 have z1:=(Array.getElem?_eq_some_iff.1 hq1).1
 have z2:=(Array.getElem?_eq_some_iff.1 hq2).1
 have pe:=u2p exprs
 have de:=u5o exprs
 have pb:=u1t body
 have db:=u4b body
 have xb:=u7s body
 have pl:=u1t els
 have dl:=u4b els
 have xl:=u7s els
 have c1:w.cell? ⟨q1,0,none⟩=some (.pointer (some ⟨b,0,none⟩)):=by rw [cell_of_row _ _ 0 _ _ _ hq1]; rfl
 have c2:w.cell? ⟨q2,0,none⟩=some (.int .i64 lv):=by rw [cell_of_row _ _ 0 _ _ _ hq2]; rfl
 have HM:=hid hm
 have HT:=hid hT
 have HQ1:=hid hq1
 have HQ2:=hid hq2
 rw [fitS_mk]
 obtain ⟨rb,hrb⟩:∃ cb,(decide (p+1≤400)&&decide (lv≤12))=cb:=⟨_,rfl⟩
 obtain ⟨sb,hsb⟩:∃ sb,u3x u0o k o x exprs.length body.isEmpty els.isEmpty=sb:=⟨_,rfl⟩
 obtain ⟨eb,heb⟩:∃ eb,fitEs u0o (p+1) 1 exprs=eb:=⟨_,rfl⟩
 obtain ⟨bb,hbb⟩:∃ bb,u6d u0o (p+1+u0x exprs) (lv+1) body=bb:=⟨_,rfl⟩
 obtain ⟨lb,hlb⟩:∃ lb,u6d u0o (p+1+u0x exprs+u0u body) (lv+1) els=lb:=⟨_,rfl⟩
 rw [hrb,hsb,heb,hbb,hlb]
 have hcnt:∀ w0,Mz w0 b p d→Calls Tryz.prog 144 #[.pointer (some ⟨b,0,none⟩),.int .i64 lv] w0 fun e w'=>e=.returned (.bool rb)∧Mz w' b (p+1) (max d lv)∧w0.grownBy w' (some b):=by
  intro w0 h0; have:=count_any b p d lv w0 h0 (by omega) hlv.2; rw [hrb] at this; exact this
 have HCN:=hid hcnt
 have hfx:∀ w0,w.grownBy w0 (some b)→Calls Tryz.prog 185 #[.agg #[.int .i64 k,.int .i64 o,.string (bs x),.slice A exprs.length c,.slice B body.length cb,.slice C els.length cc]] w0 fun e w'=>e=.returned (.bool sb)∧Below w0.heap.size w0 w':=by
  intro w0 h0
  have hT0:=hT.keep h0 (by omega)
  have:=fitsStmt_any k o x A exprs.length c B body.length cb C els.length cc w0 (by have:=h0.size; omega) hT0.sts hT0.fold hx
  rw [empty_dec,empty_dec,hsb] at this; exact this
 have HFX:=hid hfx
 have hex:rb=true→∀ w0,Mz w0 b (p+1) (max d lv)→w.grownBy w0 (some b)→Calls Tryz.prog 146 #[.pointer (some ⟨b,0,none⟩),.slice A exprs.length c,.int .i64 1] w0 (Meas b w0 eb (p+1+u0x exprs) (max (max d lv) (u1w exprs))):=by
  intro hr w0 hm0 h0
  rw [hr] at hrb
  simp only [Bool.and_eq_true,decide_eq_true_eq] at hrb
  have:=exprs_e exprs (ces_all exprs) b base 1 (p+1) (max d lv) w0 A exprs.length c hm0 hb (by omega) (by omega) (by omega) (by omega) (hT.keep h0 (by omega)).exs (u5b (u1z h0 hb zb) s1) gx2 gx1
  rw [heb,show (1:Int) - 1+u1w exprs=u1w exprs by omega] at this; exact this
 have hbo:rb=true→eb=true→∀ w0 p3 d3,p3=p+1+u0x exprs→d3=max (max d lv) (u1w exprs)→Mz w0 b p3 d3→w.grownBy w0 (some b)→Calls Tryz.prog 149 #[.pointer (some ⟨b,0,none⟩),.slice B body.length cb,.int .i64 (lv+1)] w0 (Meas b w0 bb (p+1+u0x exprs+u0u body) (newD (max (max d lv) (u1w exprs)) (lv+1) (u1n body) (u3v body))):=by
  rintro hr he w0 p3 d3 rfl rfl hm0 h0
  rw [hr] at hrb
  simp only [Bool.and_eq_true,decide_eq_true_eq] at hrb
  rw [he] at heb
  have hle:=fitEs_le heb
  have:=hbd b base (lv+1) _ _ w0 B body.length cb hm0 hb h10 (by omega) (by omega) (by omega) (hT.keep h0 (by omega)) (u1v (u1z h0 hb zb) s2) gb2 gb1
  rw [hbb] at this; exact this
 have hbe:rb=true→bb=true→∀ w0 p4 d4,p4=p+1+u0x exprs+u0u body→d4=newD (max (max d lv) (u1w exprs)) (lv+1) (u1n body) (u3v body)→Mz w0 b p4 d4→w.grownBy w0 (some b)→Calls Tryz.prog 149 #[.pointer (some ⟨b,0,none⟩),.slice C els.length cc,.int .i64 (lv+1)] w0 (Meas b w0 lb (p+1+u0x exprs+u0u body+u0u els) (newD (newD (max (max d lv) (u1w exprs)) (lv+1) (u1n body) (u3v body)) (lv+1) (u1n els) (u3v els))):=by
  rintro hr he w0 p4 d4 rfl rfl hm0 h0
  rw [hr] at hrb
  simp only [Bool.and_eq_true,decide_eq_true_eq] at hrb
  rw [he] at hbb
  have hle:=fitSs_le hbb
  have:=hel b base (lv+1) _ _ w0 C els.length cc hm0 hb h10 (by omega) (by omega) (by unfold newD; omega) (hT.keep h0 (by omega)) (u1v (u1z h0 hb zb) s3) ge2 ge1
  rw [hlb] at this; exact this
 have hlv12:rb=true→lv≤12:=by
  intro hr
  rw [hr] at hrb
  simp only [Bool.and_eq_true,decide_eq_true_eq] at hrb
  exact hrb.2
 have HLV:=hid hlv12
 have hns:w.heap.size≠b:=by omega
 have HEX0:=hid hex
 have HBD0:=hid hbo
 have HEL0:=hid hbe
 clear hm hT hq1 hq2 s1 s2 s3 gx2 gb2 ge2 hbd hel hcnt hfx hex hbo hbe hrb hsb heb hbb hlb hlv12
 cases rb
 ·go_enter Tryz.func184,Tryz.ntmps184
  go_wp2_with fail
  refine (HCN.out _ (u0e zb HM.out)).mono ?_
  rintro e w1 ⟨rfl,hm1,hg1⟩
  have HA1:=hid hg1
  have HM1:=hid hm1
  clear hm1 hg1
  obtain ⟨_,_,_,_⟩:=u0a (q:=q1) HA1.out (u0e z1 HQ1.out) hn1
  obtain ⟨_,_,_,_⟩:=u0a (q:=q2) HA1.out (u0e z2 HQ2.out) hn2
  obtain ⟨_,_,_,_⟩:=u0a (q:=w.heap.size) HA1.out (u0h rfl) hns
  have HG1:=hid (u0j (u0n (u0r w (some b)) _) HA1.out)
  have zb1:b<w1.heap.size:=(Array.getElem?_eq_some_iff.1 (show w1.heap[b]? = _ from HM1.out)).1
  go_wp2_with fail
  go_ret
  exact ⟨rfl,HG1.out,_,_,HM1.out,fun h=>by cases h⟩
 have HEX:=hid (HEX0.out rfl)
 have hl12:=HLV.out rfl
 cases sb
 ·go_enter Tryz.func184,Tryz.ntmps184
  go_wp2_with fail
  refine (HCN.out _ (u0e zb HM.out)).mono ?_
  rintro e w1 ⟨rfl,hm1,hg1⟩
  have HA1:=hid hg1
  have HM1:=hid hm1
  clear hm1 hg1
  obtain ⟨_,_,_,_⟩:=u0a (q:=q1) HA1.out (u0e z1 HQ1.out) hn1
  obtain ⟨_,_,_,_⟩:=u0a (q:=q2) HA1.out (u0e z2 HQ2.out) hn2
  obtain ⟨_,_,_,_⟩:=u0a (q:=w.heap.size) HA1.out (u0h rfl) hns
  have HG1:=hid (u0j (u0n (u0r w (some b)) _) HA1.out)
  have zb1:b<w1.heap.size:=(Array.getElem?_eq_some_iff.1 (show w1.heap[b]? = _ from HM1.out)).1
  go_wp2_with fail
  refine (HFX.out _ HG1.out).mono ?_
  rintro e w2 ⟨rfl,hb2⟩
  have HA2:=hid (u0j HA1.out (u0f hb2 (some b)))
  have HM2:=hid (show Mz w2 b (p+1) (max d lv) from (hb2.block b zb1).trans HM1.out)
  clear hb2
  obtain ⟨_,_,_,_⟩:=u0a (q:=q1) HA2.out (u0e z1 HQ1.out) hn1
  obtain ⟨_,_,_,_⟩:=u0a (q:=q2) HA2.out (u0e z2 HQ2.out) hn2
  obtain ⟨_,_,_,_⟩:=u0a (q:=w.heap.size) HA2.out (u0h rfl) hns
  have HG2:=hid (u0j (u0n (u0r w (some b)) _) HA2.out)
  have zb2:b<w2.heap.size:=(Array.getElem?_eq_some_iff.1 (show w2.heap[b]? = _ from HM2.out)).1
  go_wp2_with fail
  go_ret
  exact ⟨rfl,HG2.out,_,_,HM2.out,fun h=>by cases h⟩
 cases eb
 ·go_enter Tryz.func184,Tryz.ntmps184
  go_wp2_with fail
  refine (HCN.out _ (u0e zb HM.out)).mono ?_
  rintro e w1 ⟨rfl,hm1,hg1⟩
  have HA1:=hid hg1
  have HM1:=hid hm1
  clear hm1 hg1
  obtain ⟨_,_,_,_⟩:=u0a (q:=q1) HA1.out (u0e z1 HQ1.out) hn1
  obtain ⟨_,_,_,_⟩:=u0a (q:=q2) HA1.out (u0e z2 HQ2.out) hn2
  obtain ⟨_,_,_,_⟩:=u0a (q:=w.heap.size) HA1.out (u0h rfl) hns
  have HG1:=hid (u0j (u0n (u0r w (some b)) _) HA1.out)
  have zb1:b<w1.heap.size:=(Array.getElem?_eq_some_iff.1 (show w1.heap[b]? = _ from HM1.out)).1
  go_wp2_with fail
  refine (HFX.out _ HG1.out).mono ?_
  rintro e w2 ⟨rfl,hb2⟩
  have HA2:=hid (u0j HA1.out (u0f hb2 (some b)))
  have HM2:=hid (show Mz w2 b (p+1) (max d lv) from (hb2.block b zb1).trans HM1.out)
  clear hb2
  obtain ⟨_,_,_,_⟩:=u0a (q:=q1) HA2.out (u0e z1 HQ1.out) hn1
  obtain ⟨_,_,_,_⟩:=u0a (q:=q2) HA2.out (u0e z2 HQ2.out) hn2
  obtain ⟨_,_,_,_⟩:=u0a (q:=w.heap.size) HA2.out (u0h rfl) hns
  have HG2:=hid (u0j (u0n (u0r w (some b)) _) HA2.out)
  have zb2:b<w2.heap.size:=(Array.getElem?_eq_some_iff.1 (show w2.heap[b]? = _ from HM2.out)).1
  go_wp2_with fail
  refine (HEX.out _ HM2.out HG2.out).mono ?_
  rintro e w3 ⟨rfl,hg3,p3,d3,hm3,hpd⟩
  have HA3:=hid (u0j HA2.out hg3)
  have HPD3:=hid hpd
  have HM3:=hid hm3
  clear hg3 hm3 hpd
  obtain ⟨_,_,_,_⟩:=u0a (q:=q1) HA3.out (u0e z1 HQ1.out) hn1
  obtain ⟨_,_,_,_⟩:=u0a (q:=q2) HA3.out (u0e z2 HQ2.out) hn2
  obtain ⟨_,_,_,_⟩:=u0a (q:=w.heap.size) HA3.out (u0h rfl) hns
  have HG3:=hid (u0j (u0n (u0r w (some b)) _) HA3.out)
  have zb3:b<w3.heap.size:=(Array.getElem?_eq_some_iff.1 (show w3.heap[b]? = _ from HM3.out)).1
  go_wp2_with fail
  go_ret
  exact ⟨rfl,HG3.out,_,_,HM3.out,fun h=>by cases h⟩
 have HBD:=hid (HBD0.out rfl rfl)
 cases bb
 ·go_enter Tryz.func184,Tryz.ntmps184
  go_wp2_with fail
  refine (HCN.out _ (u0e zb HM.out)).mono ?_
  rintro e w1 ⟨rfl,hm1,hg1⟩
  have HA1:=hid hg1
  have HM1:=hid hm1
  clear hm1 hg1
  obtain ⟨_,_,_,_⟩:=u0a (q:=q1) HA1.out (u0e z1 HQ1.out) hn1
  obtain ⟨_,_,_,_⟩:=u0a (q:=q2) HA1.out (u0e z2 HQ2.out) hn2
  obtain ⟨_,_,_,_⟩:=u0a (q:=w.heap.size) HA1.out (u0h rfl) hns
  have HG1:=hid (u0j (u0n (u0r w (some b)) _) HA1.out)
  have zb1:b<w1.heap.size:=(Array.getElem?_eq_some_iff.1 (show w1.heap[b]? = _ from HM1.out)).1
  go_wp2_with fail
  refine (HFX.out _ HG1.out).mono ?_
  rintro e w2 ⟨rfl,hb2⟩
  have HA2:=hid (u0j HA1.out (u0f hb2 (some b)))
  have HM2:=hid (show Mz w2 b (p+1) (max d lv) from (hb2.block b zb1).trans HM1.out)
  clear hb2
  obtain ⟨_,_,_,_⟩:=u0a (q:=q1) HA2.out (u0e z1 HQ1.out) hn1
  obtain ⟨_,_,_,_⟩:=u0a (q:=q2) HA2.out (u0e z2 HQ2.out) hn2
  obtain ⟨_,_,_,_⟩:=u0a (q:=w.heap.size) HA2.out (u0h rfl) hns
  have HG2:=hid (u0j (u0n (u0r w (some b)) _) HA2.out)
  have zb2:b<w2.heap.size:=(Array.getElem?_eq_some_iff.1 (show w2.heap[b]? = _ from HM2.out)).1
  go_wp2_with fail
  refine (HEX.out _ HM2.out HG2.out).mono ?_
  rintro e w3 ⟨rfl,hg3,p3,d3,hm3,hpd⟩
  have HA3:=hid (u0j HA2.out hg3)
  have HPD3:=hid hpd
  have HM3:=hid hm3
  clear hg3 hm3 hpd
  obtain ⟨_,_,_,_⟩:=u0a (q:=q1) HA3.out (u0e z1 HQ1.out) hn1
  obtain ⟨_,_,_,_⟩:=u0a (q:=q2) HA3.out (u0e z2 HQ2.out) hn2
  obtain ⟨_,_,_,_⟩:=u0a (q:=w.heap.size) HA3.out (u0h rfl) hns
  have HG3:=hid (u0j (u0n (u0r w (some b)) _) HA3.out)
  have zb3:b<w3.heap.size:=(Array.getElem?_eq_some_iff.1 (show w3.heap[b]? = _ from HM3.out)).1
  obtain ⟨e31,e32⟩:=HPD3.out rfl
  go_wp2_with fail
  refine (HBD.out _ p3 d3 e31 e32 HM3.out HG3.out).mono ?_
  rintro e w4 ⟨rfl,hg4,p4,d4,hm4,hpd⟩
  have HA4:=hid (u0j HA3.out hg4)
  have HPD4:=hid hpd
  have HM4:=hid hm4
  clear hg4 hm4 hpd
  obtain ⟨_,_,_,_⟩:=u0a (q:=q1) HA4.out (u0e z1 HQ1.out) hn1
  obtain ⟨_,_,_,_⟩:=u0a (q:=q2) HA4.out (u0e z2 HQ2.out) hn2
  obtain ⟨_,_,_,_⟩:=u0a (q:=w.heap.size) HA4.out (u0h rfl) hns
  have HG4:=hid (u0j (u0n (u0r w (some b)) _) HA4.out)
  have zb4:b<w4.heap.size:=(Array.getElem?_eq_some_iff.1 (show w4.heap[b]? = _ from HM4.out)).1
  go_wp2_with fail
  go_ret
  exact ⟨rfl,HG4.out,_,_,HM4.out,fun h=>by cases h⟩
 have HEL:=hid (HEL0.out rfl rfl)
 go_enter Tryz.func184,Tryz.ntmps184
 go_wp2_with fail
 refine (HCN.out _ (u0e zb HM.out)).mono ?_
 rintro e w1 ⟨rfl,hm1,hg1⟩
 have HA1:=hid hg1
 have HM1:=hid hm1
 clear hm1 hg1
 obtain ⟨_,_,_,_⟩:=u0a (q:=q1) HA1.out (u0e z1 HQ1.out) hn1
 obtain ⟨_,_,_,_⟩:=u0a (q:=q2) HA1.out (u0e z2 HQ2.out) hn2
 obtain ⟨_,_,_,_⟩:=u0a (q:=w.heap.size) HA1.out (u0h rfl) hns
 have HG1:=hid (u0j (u0n (u0r w (some b)) _) HA1.out)
 have zb1:b<w1.heap.size:=(Array.getElem?_eq_some_iff.1 (show w1.heap[b]? = _ from HM1.out)).1
 go_wp2_with fail
 refine (HFX.out _ HG1.out).mono ?_
 rintro e w2 ⟨rfl,hb2⟩
 have HA2:=hid (u0j HA1.out (u0f hb2 (some b)))
 have HM2:=hid (show Mz w2 b (p+1) (max d lv) from (hb2.block b zb1).trans HM1.out)
 clear hb2
 obtain ⟨_,_,_,_⟩:=u0a (q:=q1) HA2.out (u0e z1 HQ1.out) hn1
 obtain ⟨_,_,_,_⟩:=u0a (q:=q2) HA2.out (u0e z2 HQ2.out) hn2
 obtain ⟨_,_,_,_⟩:=u0a (q:=w.heap.size) HA2.out (u0h rfl) hns
 have HG2:=hid (u0j (u0n (u0r w (some b)) _) HA2.out)
 have zb2:b<w2.heap.size:=(Array.getElem?_eq_some_iff.1 (show w2.heap[b]? = _ from HM2.out)).1
 go_wp2_with fail
 refine (HEX.out _ HM2.out HG2.out).mono ?_
 rintro e w3 ⟨rfl,hg3,p3,d3,hm3,hpd⟩
 have HA3:=hid (u0j HA2.out hg3)
 have HPD3:=hid hpd
 have HM3:=hid hm3
 clear hg3 hm3 hpd
 obtain ⟨_,_,_,_⟩:=u0a (q:=q1) HA3.out (u0e z1 HQ1.out) hn1
 obtain ⟨_,_,_,_⟩:=u0a (q:=q2) HA3.out (u0e z2 HQ2.out) hn2
 obtain ⟨_,_,_,_⟩:=u0a (q:=w.heap.size) HA3.out (u0h rfl) hns
 have HG3:=hid (u0j (u0n (u0r w (some b)) _) HA3.out)
 have zb3:b<w3.heap.size:=(Array.getElem?_eq_some_iff.1 (show w3.heap[b]? = _ from HM3.out)).1
 obtain ⟨e31,e32⟩:=HPD3.out rfl
 go_wp2_with fail
 refine (HBD.out _ p3 d3 e31 e32 HM3.out HG3.out).mono ?_
 rintro e w4 ⟨rfl,hg4,p4,d4,hm4,hpd⟩
 have HA4:=hid (u0j HA3.out hg4)
 have HPD4:=hid hpd
 have HM4:=hid hm4
 clear hg4 hm4 hpd
 obtain ⟨_,_,_,_⟩:=u0a (q:=q1) HA4.out (u0e z1 HQ1.out) hn1
 obtain ⟨_,_,_,_⟩:=u0a (q:=q2) HA4.out (u0e z2 HQ2.out) hn2
 obtain ⟨_,_,_,_⟩:=u0a (q:=w.heap.size) HA4.out (u0h rfl) hns
 have HG4:=hid (u0j (u0n (u0r w (some b)) _) HA4.out)
 have zb4:b<w4.heap.size:=(Array.getElem?_eq_some_iff.1 (show w4.heap[b]? = _ from HM4.out)).1
 obtain ⟨e41,e42⟩:=HPD4.out rfl
 go_wp2_with fail
 refine (HEL.out _ p4 d4 e41 e42 HM4.out HG4.out).mono ?_
 rintro e w5 ⟨rfl,hg5,p5,d5,hm5,hpd⟩
 have HA5:=hid (u0j HA4.out hg5)
 have HPD5:=hid hpd
 have HM5:=hid hm5
 clear hg5 hm5 hpd
 obtain ⟨_,_,_,_⟩:=u0a (q:=q1) HA5.out (u0e z1 HQ1.out) hn1
 obtain ⟨_,_,_,_⟩:=u0a (q:=q2) HA5.out (u0e z2 HQ2.out) hn2
 obtain ⟨_,_,_,_⟩:=u0a (q:=w.heap.size) HA5.out (u0h rfl) hns
 have HG5:=hid (u0j (u0n (u0r w (some b)) _) HA5.out)
 have zb5:b<w5.heap.size:=(Array.getElem?_eq_some_iff.1 (show w5.heap[b]? = _ from HM5.out)).1
 go_wp2_with fail
 go_ret
 refine ⟨rfl,HG5.out,_,_,HM5.out,fun h=>?_⟩
 obtain ⟨f1,f2⟩:=HPD5.out (by simpa using h)
 refine ⟨by rw [f1,u6e]; omega,?_⟩
 rw [f2,depthS,exdS]
 unfold newD
 omega
end Go.Proofs.YtbkhnilbgocpnaaGreatDoor.SynC
