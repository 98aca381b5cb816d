import Derived.Test.YtbkhnilbgocpnaaGreatDoorK0
import Derived.Test.YtbkhnilbgocpnaaGreatDoorK14
import Derived.Test.YtbkhnilbgocpnaaGreatDoorK1
import Derived.Test.YtbkhnilbgocpnaaGreatDoorK3
set_option linter.unusedVariables false
set_option linter.unusedSimpArgs false
set_option maxRecDepth 100000
set_option maxHeartbeats 2000000
open Go.Lib (hid)
namespace Go.Proofs.YtbkhnilbgocpnaaGreatDoor.SynC
open Go.Proofs.YtbkhnilbgocpnaaGreatDoor.LexC
open Go Go.ChangeShapes Go.WideShapes Go.ChangeAt Go.RowKit Go.Deep
def Mz (w:World) (b:Nat) (p d:Int):Prop:=w.heap[b]? = some (.cells #[.int .i64 p,.int .i64 d] 96 (0,0))
theorem count_any (b:Nat) (p d lv:Int) (w:World) (h:Mz w b p d) (hp:0≤p∧p≤1000) (hlv:lv≤13) :
  Calls Tryz.prog 144 #[.pointer (some ⟨b,0,none⟩),.int .i64 lv] w fun e w'=>e=.returned (.bool (decide (p+1≤400)&&decide (lv≤12)))∧Mz w' b (p+1) (max d lv)∧w.grownBy w' (some b):=by
 have c0:w.cell? ⟨b,0,none⟩=some (.int .i64 p):=by rw [cell_of_row _ _ 0 _ _ _ h]; rfl
 have c1:w.cell? ⟨b,1,none⟩=some (.int .i64 d):=by rw [cell_of_row _ _ 1 _ _ _ h]; rfl
 have f0:w.frozen? ⟨b,0,none⟩=false:=by simp [World.frozen?,show w.heap[b]? = _ from h]
 have f1:w.frozen? ⟨b,1,none⟩=false:=by simp [World.frozen?,show w.heap[b]? = _ from h]
 have H:=hid h
 clear h
 by_cases h1:p+1≤400
 ·have d1:decide (p+1≤400)=true:=by simp [h1]
  rw [d1]
  go_enter Tryz.func144,Tryz.ntmps144
  go_wp2
  go_ret
  refine ⟨rfl,?_,?_⟩
  ·have h:=H.out
   unfold Mz at h ⊢
   exact tRES
  ·exact tGB
 ·have d1:decide (p+1≤400)=false:=by simp [h1]
  rw [d1]
  go_enter Tryz.func144,Tryz.ntmps144
  go_wp2
  go_ret
  refine ⟨rfl,?_,?_⟩
  ·have h:=H.out
   unfold Mz at h ⊢
   exact tRES
  ·exact tGB
theorem fitsInt_any (kind op num:Int) (name:List UInt8) (K:Value) (w:World) (hn:-2147483648≤num∧num<2147483648) :
  Calls Tryz.prog 178 #[.agg #[.int .i64 kind,.int .i64 op,.int .i32 num,.string (bs name),K]] w fun e w'=>e=.returned (.bool (if kind=0 then (decide (0≤num∧num<2147483648) || num == -2147483648) else num == 0))∧Below w.heap.size w w':=by
 by_cases hk:kind=0
 ·subst hk
  by_cases h0:0≤num
  ·go_enter Tryz.func178,Tryz.ntmps178
   go_wp2
   go_ret
   exact ⟨by simp [h0]; try omega,(Below.refl _ _).alloc (Nat.le_refl _) _⟩
  ·go_enter Tryz.func178,Tryz.ntmps178
   go_wp2
   go_ret
   exact ⟨by simp [h0]; try omega,(Below.refl _ _).alloc (Nat.le_refl _) _⟩
 ·go_enter Tryz.func178,Tryz.ntmps178
  go_wp2
  go_ret
  exact ⟨by simp [hk],(Below.refl _ _).alloc (Nat.le_refl _) _⟩
theorem bs_empty (x:List UInt8):(bs x).toList.isEmpty=x.isEmpty:=by rw [ByteArray.toList_eq,u4d]
theorem fitsName_any (x:List UInt8) (b:Bool) (w:World) (hx:x.length≤maxLen) :
  Calls Tryz.prog 179 #[.string (bs x),.bool b] w fun e w'=>e=.returned (.bool (if b then u0o x else x.isEmpty))∧Below w.heap.size w w':=by
 cases b
 ·have he:=bs_empty x
  go_enter Tryz.func179,Tryz.ntmps179
  go_wp2
  go_ret
  exact ⟨by rw [← he]; rfl,Below.refl _ _⟩
 ·go_enter Tryz.func179,Tryz.ntmps179
  go_wp2_with fail
  refine (Go.Proofs.YtbkhnilbgocpnaaGreatDoor.LexC.name_any (bs x) (by rw [u4t]; exact hx) w).mono ?_
  rintro e w1 ⟨rfl,hb⟩
  have HB:=hid hb
  rw [u4d]
  clear hb
  go_wp2
  go_ret
  exact ⟨rfl,HB.out⟩
def exsA:Array Value:=#[.int .i64 1,.bool false,.int .i64 0,.int .i64 0,.int .i64 1,.bool true,.int .i64 0,.int .i64 0,.int .i64 4,.bool false,.int .i64 0,.int .i64 0,.int .i64 3,.bool false,.int .i64 1,.int .i64 1,.int .i64 20,.bool false,.int .i64 2,.int .i64 2,.int .i64 1,.bool true,.int .i64 1,.int .i64 1,.int .i64 1,.bool true,.int .i64 0,.int .i64 6]
def intB (kind num:Int):Bool:=if kind=0 then (decide (0≤num∧num<2147483648) || num == -2147483648) else num == 0
def nameB (nd:Bool) (x:List UInt8):Bool:=if nd then u0o x else x.isEmpty
theorem fitsInt_b (kind op num:Int) (name:List UInt8) (K:Value) (w:World) (hn:-2147483648≤num∧num<2147483648) (b:Bool) (h:intB kind num=b) :
  Calls Tryz.prog 178 #[.agg #[.int .i64 kind,.int .i64 op,.int .i32 num,.string (bs name),K]] w fun e w'=>e=.returned (.bool b)∧Below w.heap.size w w':=by
 subst h; exact fitsInt_any kind op num name K w hn
theorem u2h (x:List UInt8) (nd:Bool) (w:World) (hx:x.length≤maxLen) (b:Bool) (h:nameB nd x=b) :
  Calls Tryz.prog 179 #[.string (bs x),.bool nd] w fun e w'=>e=.returned (.bool b)∧Below w.heap.size w w':=by
 subst h; exact fitsName_any x nd w hx
theorem fitsExpr_in (k:Nat) (hk:k<7) (ops:Int) (nd:Bool) (le mo:Int) (op num:Int) (x:List UInt8) (A:Option Addr) (m c:Nat) (w:World) (h4:4<w.heap.size) (hn:-2147483648≤num∧num<2147483648) (hx:x.length≤maxLen)
  (r0:w.cell? ⟨4,k * 4,none⟩=some (.int .i64 ops)) (r1:w.cell? ⟨4,k * 4+1,none⟩=some (.bool nd)) (r2:w.cell? ⟨4,k * 4+2,none⟩=some (.int .i64 le)) (r3:w.cell? ⟨4,k * 4+3,none⟩=some (.int .i64 mo)) :
  Calls Tryz.prog 145 #[.agg #[.int .i64 k,.int .i64 op,.int .i32 num,.string (bs x),.slice A m c]] w fun e w'=>e=.returned (.bool (decide (0≤op)&&decide (op<ops)&&intB k num&&nameB nd x&&decide (le≤m)&&decide (m≤mo)))∧Below w.heap.size w w':=by
 have hin:(0:Int)≤k∧(k:Int)<7:=⟨by omega,by omega⟩
 obtain ⟨bi,hi⟩:∃ b,intB k num=b:=⟨_,rfl⟩
 obtain ⟨bn,hnm⟩:∃ b,nameB nd x=b:=⟨_,rfl⟩
 rw [hi,hnm]
 have HI:=hid hi
 have HN:=hid hnm
 clear hi hnm
 by_cases h0:0≤op
 ·by_cases h1:op<ops
  ·cases bi
   ·go_enter Tryz.func145,Tryz.ntmps145
    go_wp2_with fail
    refine (fitsInt_b _ _ _ _ _ _ hn _ HI.out).mono ?_
    rintro e w1 ⟨rfl,hb1⟩
    have hz1:=hb1.size
    (try simp only [u0c] at hz1)
    have hg1:=u0f hb1 (some 0)
    obtain ⟨_,_,_,l1⟩:=u0a (q:=w.heap.size) hg1 tLOC (by omega)
    obtain ⟨_,_,_,m1⟩:=u0a (q:=w.heap.size+1) hg1 tLOC (by omega)
    have hB1:=hid (show Below w.heap.size w w1 from (tBEL:Below w.heap.size w _).trans (hb1.mono tSZ))
    clear hb1 hg1
    go_wp2_with fail
    go_ret
    exact ⟨by simp [h0,h1] <;> (intros; omega),hB1.out⟩
   ·cases bn
    ·go_enter Tryz.func145,Tryz.ntmps145
     go_wp2_with fail
     refine (fitsInt_b _ _ _ _ _ _ hn _ HI.out).mono ?_
     rintro e w1 ⟨rfl,hb1⟩
     have hz1:=hb1.size
     (try simp only [u0c] at hz1)
     have hg1:=u0f hb1 (some 0)
     obtain ⟨_,_,_,l1⟩:=u0a (q:=w.heap.size) hg1 tLOC (by omega)
     obtain ⟨_,_,_,m1⟩:=u0a (q:=w.heap.size+1) hg1 tLOC (by omega)
     have hB1:=hid (show Below w.heap.size w w1 from (tBEL:Below w.heap.size w _).trans (hb1.mono tSZ))
     clear hb1 hg1
     go_wp2_with fail
     refine (u2h _ _ _ hx _ HN.out).mono ?_
     rintro e w2 ⟨rfl,hb2⟩
     have hz2:=hb2.size
     have hg2:=u0f hb2 (some 0)
     obtain ⟨_,_,_,l2⟩:=u0a (q:=w.heap.size) hg2 l1 (by omega)
     obtain ⟨_,_,_,m2⟩:=u0a (q:=w.heap.size+1) hg2 m1 (by omega)
     have hB2:=hid (hB1.out.trans (hb2.mono hB1.out.size))
     clear hb2 hg2
     go_wp2_with fail
     go_ret
     exact ⟨by simp [h0,h1] <;> (intros; omega),hB2.out⟩
    ·by_cases h2:le≤m
     ·by_cases h3:m≤mo
      ·go_enter Tryz.func145,Tryz.ntmps145
       go_wp2_with fail
       refine (fitsInt_b _ _ _ _ _ _ hn _ HI.out).mono ?_
       rintro e w1 ⟨rfl,hb1⟩
       have hz1:=hb1.size
       (try simp only [u0c] at hz1)
       have hg1:=u0f hb1 (some 0)
       obtain ⟨_,_,_,l1⟩:=u0a (q:=w.heap.size) hg1 tLOC (by omega)
       obtain ⟨_,_,_,m1⟩:=u0a (q:=w.heap.size+1) hg1 tLOC (by omega)
       have hB1:=hid (show Below w.heap.size w w1 from (tBEL:Below w.heap.size w _).trans (hb1.mono tSZ))
       clear hb1 hg1
       go_wp2_with fail
       refine (u2h _ _ _ hx _ HN.out).mono ?_
       rintro e w2 ⟨rfl,hb2⟩
       have hz2:=hb2.size
       have hg2:=u0f hb2 (some 0)
       obtain ⟨_,_,_,l2⟩:=u0a (q:=w.heap.size) hg2 l1 (by omega)
       obtain ⟨_,_,_,m2⟩:=u0a (q:=w.heap.size+1) hg2 m1 (by omega)
       have hB2:=hid (hB1.out.trans (hb2.mono hB1.out.size))
       clear hb2 hg2
       go_wp2_with fail
       go_ret
       exact ⟨by simp [h0,h1,h2,h3] <;> (intros; omega),hB2.out⟩
      ·go_enter Tryz.func145,Tryz.ntmps145
       go_wp2_with fail
       refine (fitsInt_b _ _ _ _ _ _ hn _ HI.out).mono ?_
       rintro e w1 ⟨rfl,hb1⟩
       have hz1:=hb1.size
       (try simp only [u0c] at hz1)
       have hg1:=u0f hb1 (some 0)
       obtain ⟨_,_,_,l1⟩:=u0a (q:=w.heap.size) hg1 tLOC (by omega)
       obtain ⟨_,_,_,m1⟩:=u0a (q:=w.heap.size+1) hg1 tLOC (by omega)
       have hB1:=hid (show Below w.heap.size w w1 from (tBEL:Below w.heap.size w _).trans (hb1.mono tSZ))
       clear hb1 hg1
       go_wp2_with fail
       refine (u2h _ _ _ hx _ HN.out).mono ?_
       rintro e w2 ⟨rfl,hb2⟩
       have hz2:=hb2.size
       have hg2:=u0f hb2 (some 0)
       obtain ⟨_,_,_,l2⟩:=u0a (q:=w.heap.size) hg2 l1 (by omega)
       obtain ⟨_,_,_,m2⟩:=u0a (q:=w.heap.size+1) hg2 m1 (by omega)
       have hB2:=hid (hB1.out.trans (hb2.mono hB1.out.size))
       clear hb2 hg2
       go_wp2_with fail
       go_ret
       exact ⟨by simp [h0,h1,h2,h3] <;> (intros; omega),hB2.out⟩
     ·go_enter Tryz.func145,Tryz.ntmps145
      go_wp2_with fail
      refine (fitsInt_b _ _ _ _ _ _ hn _ HI.out).mono ?_
      rintro e w1 ⟨rfl,hb1⟩
      have hz1:=hb1.size
      (try simp only [u0c] at hz1)
      have hg1:=u0f hb1 (some 0)
      obtain ⟨_,_,_,l1⟩:=u0a (q:=w.heap.size) hg1 tLOC (by omega)
      obtain ⟨_,_,_,m1⟩:=u0a (q:=w.heap.size+1) hg1 tLOC (by omega)
      have hB1:=hid (show Below w.heap.size w w1 from (tBEL:Below w.heap.size w _).trans (hb1.mono tSZ))
      clear hb1 hg1
      go_wp2_with fail
      refine (u2h _ _ _ hx _ HN.out).mono ?_
      rintro e w2 ⟨rfl,hb2⟩
      have hz2:=hb2.size
      have hg2:=u0f hb2 (some 0)
      obtain ⟨_,_,_,l2⟩:=u0a (q:=w.heap.size) hg2 l1 (by omega)
      obtain ⟨_,_,_,m2⟩:=u0a (q:=w.heap.size+1) hg2 m1 (by omega)
      have hB2:=hid (hB1.out.trans (hb2.mono hB1.out.size))
      clear hb2 hg2
      go_wp2_with fail
      go_ret
      exact ⟨by simp [h0,h1,h2] <;> (intros; omega),hB2.out⟩
  ·go_enter Tryz.func145,Tryz.ntmps145
   go_wp2_with fail
   go_ret
   exact ⟨by simp [h0,h1] <;> (intros; omega),tBEL⟩
 ·go_enter Tryz.func145,Tryz.ntmps145
  go_wp2_with fail
  go_ret
  exact ⟨by simp [h0] <;> (intros; omega),tBEL⟩
theorem exs_at {w:World} (h:Gv w 4 exsA) (k j:Nat) (u:Value) (hu:exsA[k * 4+j]? = some u):w.cell? ⟨4,k * 4+j,none⟩=some u:=by
 obtain ⟨ty,fr,h⟩:=h
 rw [cell_of_row _ _ (k * 4+j) _ _ _ h]; exact hu
theorem fitsExpr_any (kind op num:Int) (x:List UInt8) (A:Option Addr) (m c:Nat) (w:World) (h4:Gv w 4 exsA) (hn:-2147483648≤num∧num<2147483648) (hx:x.length≤maxLen) :
  Calls Tryz.prog 145 #[.agg #[.int .i64 kind,.int .i64 op,.int .i32 num,.string (bs x),.slice A m c]] w fun e w'=>e=.returned (.bool (u3y u0o kind op num x m))∧Below w.heap.size w w':=by
 have hsz:4<w.heap.size:=by obtain ⟨_,_,h⟩:=h4; exact (Array.getElem?_eq_some_iff.1 h).1
 by_cases hk:0≤kind∧kind<7
 ·obtain ⟨k,rfl⟩:∃ k:Nat,kind=k:=⟨kind.toNat,by omega⟩
  have hk7:k<7:=by omega
  have key:∀ ops nd le mo,exsA[k * 4]? = some (.int .i64 ops)→exsA[k * 4+1]? = some (.bool nd)→exsA[k * 4+2]? = some (.int .i64 le)→exsA[k * 4+3]? = some (.int .i64 mo) →
    (decide (0≤op)&&decide (op<ops)&&intB k num&&nameB nd x&&decide (le≤m)&&decide (m≤mo))=u3y u0o k op num x m →
    Calls Tryz.prog 145 #[.agg #[.int .i64 k,.int .i64 op,.int .i32 num,.string (bs x),.slice A m c]] w fun e w'=>e=.returned (.bool (u3y u0o k op num x m))∧Below w.heap.size w w':=by
   intro ops nd le mo e0 e1 e2 e3 he
   rw [← he]
   exact fitsExpr_in k hk7 ops nd le mo op num x A m c w hsz hn hx (exs_at h4 k 0 _ e0) (exs_at h4 k 1 _ e1) (exs_at h4 k 2 _ e2) (exs_at h4 k 3 _ e3)
  have hm:(0:Int)≤(m:Int):=by omega
  obtain rfl | rfl | rfl | rfl | rfl | rfl | rfl:k=0∨k=1∨k=2∨k=3∨k=4∨k=5∨k=6:=by omega
  all_goals (refine key _ _ _ _ rfl rfl rfl rfl (bool_eq ?_); unfold intB nameB u3y; generalize u0o x=p; generalize x.isEmpty=q; cases p <;> cases q <;> first | (simp; done) | (simp; omega))
 ·have he:u3y u0o kind op num x m=false:=by
   unfold u3y
   repeat (first | (rw [if_neg (by omega)]) | rfl)
  rw [he]
  by_cases h0:kind<0
  ·go_enter Tryz.func145,Tryz.ntmps145
   go_wp2_with fail
   go_ret
   exact ⟨rfl,tBEL⟩
  ·have h1:7≤kind:=by omega
   go_enter Tryz.func145,Tryz.ntmps145
   go_wp2_with fail
   go_ret
   exact ⟨rfl,tBEL⟩
mutual
def rgE:Ex→Prop
 | .mk _ _ num name kids=>(-2147483648≤num∧num<2147483648)∧name.length≤maxLen∧kids.length≤1125899906842624∧rgEs kids
def rgEs:List Ex→Prop
 | []=>True
 | e :: r=>rgE e∧rgEs r
end
theorem rgEs_at:∀ {l:List Ex},rgEs l→∀ a∈l,rgE a
 | e :: r,h,a,ha=>by
  rw [rgEs] at h
  rcases List.mem_cons.1 ha with rfl | ha
  ·exact h.1
  ·exact rgEs_at h.2 a ha
theorem u1z {w w':World} {b base:Nat} (h:w.grownBy w' (some b)) (hb:base≤b) (hz:b<w.heap.size):Below base w w' :=
 (Below.refl base w).grown h (by omega) (fun k hk=>by injection hk with hk; omega)
theorem partsEs_take (l:List Ex):∀ k a,l[k]? = some a→u0x (l.take (k+1))=u0x (l.take k)+u5e a:=by
 induction l with
 | nil=>intro k a h; simp at h
 | cons e r ih =>
  intro k a h
  cases k with
  | zero=>simp at h; subst h; simp [u0x]
  | succ k =>
   have:=ih k a (by simpa using h)
   rw [List.take_succ_cons,List.take_succ_cons,u0x,u0x,this]; omega
theorem depthEs_take (l:List Ex):∀ k a,l[k]? = some a→u1w (l.take (k+1))=max (u1w (l.take k)) (depthE a):=by
 induction l with
 | nil=>intro k a h; simp at h
 | cons e r ih =>
  intro k a h
  cases k with
  | zero=>simp at h; subst h; simp [u1w]; have:=depthE_pos e; omega
  | succ k =>
   have:=ih k a (by simpa using h)
   rw [List.take_succ_cons,List.take_succ_cons,u1w,u1w,this]; omega
def Meas (b:Nat) (w:World) (ok:Bool) (p d:Int) (e:Ending) (w':World):Prop :=
 e=.returned (.bool ok)∧w.grownBy w' (some b)∧∃ p2 d2,Mz w' b p2 d2∧(ok=true→p2=p∧d2=d)
def CE (e:Ex):Prop:=∀ (b base:Nat) (lv p d:Int) (w:World) (bk bo bn:Int) (bx:List UInt8) (bA:Option Addr) (bm bc:Nat),Mz w b p d→base≤b→5≤base→0≤p∧p≤400→1≤lv∧lv≤13→lv - 1≤d→Gv w 4 exsA→RE w (fun g=>g<base) [.int .i64 bk,.int .i64 bo,.int .i32 bn,.string (bs bx),.slice bA bm bc] e→rgE e →
 Calls Tryz.prog 92 #[.pointer (some ⟨b,0,none⟩),.agg #[.int .i64 bk,.int .i64 bo,.int .i32 bn,.string (bs bx),.slice bA bm bc],.int .i64 lv] w (Meas b w (fitE u0o p lv e) (p+u5e e) (max d (lv - 1+depthE e)))
def CEs (l:List Ex):Prop:=∀ (b base:Nat) (lv p d:Int) (w:World) (A:Option Addr) (m c:Nat),Mz w b p d→base≤b→5≤base→0≤p∧p≤400→1≤lv∧lv≤13→lv - 1≤d→Gv w 4 exsA→SlE w (fun g=>g<base) (.slice A m c) l→rgEs l→l.length≤1125899906842624 →
 Calls Tryz.prog 146 #[.pointer (some ⟨b,0,none⟩),.slice A m c,.int .i64 lv] w (Meas b w (fitEs u0o p lv l) (p+u0x l) (max d (lv - 1+u1w l)))
theorem clo_e {e:Ex} (hE:CE e) (b base q1 q2:Nat) (lv p d:Int) (w:World) (bk bo bn:Int) (bx:List UInt8) (bA:Option Addr) (bm bc:Nat) (hm:Mz w b p d) (hb:base≤b) (h5:5≤base) (hp:0≤p∧p≤400) (hlv:1≤lv∧lv≤13) (hd:lv - 1≤d) (h4:Gv w 4 exsA) (hr:RE w (fun g=>g<base) [.int .i64 bk,.int .i64 bo,.int .i32 bn,.string (bs bx),.slice bA bm bc] e) (hg:rgE e)
  (hq1:w.heap[q1]? = some (.cells #[.pointer (some ⟨b,0,none⟩)] 174 (0,0))) (hq2:w.heap[q2]? = some (.cells #[.int .i64 lv] 3 (0,0))) :
  Calls Tryz.prog 181 #[.agg #[.int .i64 bk,.int .i64 bo,.int .i32 bn,.string (bs bx),.slice bA bm bc],.pointer (some ⟨q1,0,none⟩),.pointer (some ⟨q2,0,none⟩)] w (Meas b w (fitE u0o p lv e) (p+u5e e) (max d (lv - 1+depthE e))):=by
 have c1:w.cell? ⟨q1,0,none⟩=some (.pointer (some ⟨b,0,none⟩)):=by rw [cell_of_row _ _ 0 _ _ _ hq1]; rfl
 have c2:w.cell? ⟨q2,0,none⟩=some (.int .i64 lv):=by rw [cell_of_row _ _ 0 _ _ _ hq2]; rfl
 have z1:=(Array.getElem?_eq_some_iff.1 hq1).1
 have z2:=(Array.getElem?_eq_some_iff.1 hq2).1
 have zb:=(Array.getElem?_eq_some_iff.1 (show w.heap[b]? = _ from hm)).1
 have HM:=hid hm
 have H4:=hid h4
 have HR:=hid hr
 have HG:=hid hg
 have HE:=hid hE
 clear hm h4 hr hg hq1 hq2 hE
 go_enter Tryz.func181,Tryz.ntmps181
 go_wp2_with fail
 have hba:Below base w (w.alloc (.cells #[.int .i64 bk,.int .i64 bo,.int .i32 bn,.string (bs bx),.slice bA bm bc] 34)):=(Below.refl _ _).alloc (by omega) _
 refine (HE.out b base lv p d _ _ _ _ _ _ _ _ (u0e zb HM.out) hb h5 hp hlv hd ?_ (u2c hba HR.out) HG.out).mono ?_
 ·obtain ⟨ty,fr,h⟩:=H4.out; exact ⟨ty,fr,u0e (Array.getElem?_eq_some_iff.1 h).1 h⟩
 rintro e w1 ⟨rfl,hg1,hm1⟩
 have HG1:=hid (u0j (u0n (u0r w (some b)) _) hg1)
 have HM1:=hid hm1
 clear hg1 hm1
 go_wp2
 go_ret
 exact ⟨rfl,HG1.out,HM1.out⟩
theorem fitEs_drop (nm:List UInt8→Bool) (p lv:Int) (l:List Ex) (k:Nat) (a:Ex) (h:l[k]? = some a):fitEs nm (p+u0x (l.take k)) lv (l.drop k)=(fitE nm (p+u0x (l.take k)) lv a&&fitEs nm (p+u0x (l.take (k+1))) lv (l.drop (k+1))):=by
 obtain ⟨h1,h2⟩:=List.getElem?_eq_some_iff.1 h
 rw [List.drop_eq_getElem_cons h1,h2,fitEs_cons,partsEs_take l k a h]
 congr 2; omega
theorem alls_e (l:List Ex) (hl:∀ a∈l,CE a) (b base q1 q2:Nat) (lv p d:Int) (w:World) (A:Option Addr) (m c:Nat) (hm:Mz w b p d) (hb:base≤b) (h5:5≤base) (hp:0≤p∧p≤400) (hlv:1≤lv∧lv≤13) (hd:lv - 1≤d) (h4:Gv w 4 exsA)
  (hs:SlE w (fun g=>g<base) (.slice A m c) l) (hg:rgEs l) (hll:l.length≤1125899906842624) (hn1:q1≠b) (hn2:q2≠b)
  (hq1:w.heap[q1]? = some (.cells #[.pointer (some ⟨b,0,none⟩)] 174 (0,0))) (hq2:w.heap[q2]? = some (.cells #[.int .i64 lv] 3 (0,0))) :
  Calls Tryz.prog 180 #[.slice A m c,.func (.func 181) #[] #[.pointer (some ⟨q1,0,none⟩),.pointer (some ⟨q2,0,none⟩)]] w (Meas b w (fitEs u0o p lv l) (p+u0x l) (max d (lv - 1+u1w l))):=by
 have hm1:m=l.length:=by
  rcases hs with ⟨h1,h2⟩ | ⟨x,c',h1,_⟩
  ·injection h1 with _ h1 _; rw [h1,h2]; rfl
  ·injection h1
 subst hm1
 have zb:=(Array.getElem?_eq_some_iff.1 (show w.heap[b]? = _ from hm)).1
 have z1:=(Array.getElem?_eq_some_iff.1 hq1).1
 have z2:=(Array.getElem?_eq_some_iff.1 hq2).1
 have HL:=hid hl
 have HM:=hid hm
 have H4:=hid h4
 have HS:=hid hs
 have HG:=hid hg
 have HQ1:=hid hq1
 have HQ2:=hid hq2
 clear hl hm h4 hs hg hq1 hq2
 go_enter Tryz.func180,Tryz.ntmps180
 go_wp2_with fail
 go_loopw [9] (fun i wr=>∃ (k:Nat),k≤l.length∧i=.int .i64 k∧Mz wr b (p+u0x (l.take k)) (max d (lv - 1+u1w (l.take k)))∧w.grownBy wr (some b)∧fitEs u0o p lv l=fitEs u0o (p+u0x (l.take k)) lv (l.drop k)∧p+u0x (l.take k)≤400) (fun i _=>l.length - (intOf i).toNat)
 case atStart =>
  refine ⟨0,Nat.zero_le _,rfl,?_,u0r _ _,?_,?_⟩
  ·have:=HM.out
   rw [List.take_zero,u0x,u1w]
   rw [show max d (lv - 1+0)=d by omega,Int.add_zero]; exact this
  ·rw [List.take_zero,u0x,Int.add_zero,List.drop_zero]
  ·rw [List.take_zero,u0x]; omega
 case round =>
  obtain ⟨k,hkk,rfl,hmr,hgr,hfr,hpr⟩:=hrel
  have hbr:=u1z hgr hb zb
  have zbr:=(Array.getElem?_eq_some_iff.1 (show wr.heap[b]? = _ from hmr)).1
  have HMr:=hid hmr
  have HGr:=hid hgr
  have HFr:=hid hfr
  have hp0:=u2p (l.take k)
  have hzr:=hgr.size
  by_cases hlt:k<l.length
  ·obtain ⟨a,ha⟩:∃ a,l[k]? = some a:=⟨l[k],List.getElem?_eq_getElem hlt⟩
   obtain ⟨g,o,rfl,_,hPg,hrows⟩:=u4j (u5b hbr HS.out) (by omega)
   obtain ⟨xk,xo,xn,xx,xA,xm,xc,⟨c0,c1,c2,c3,c4⟩,hrx⟩:=hrows k a ha
   have hin:(0:Int)≤k∧(k:Int)<l.length:=⟨by omega,by omega⟩
   have HX:=hid hrx
   have HA:=hid ha
   clear hrows hrx ha hmr hgr hfr
   have hC:∀ w1,Mz w1 b (p+u0x (l.take k)) (max d (lv - 1+u1w (l.take k)))→wr.grownBy w1 (some b)→Calls Tryz.prog 181 #[.agg #[.int .i64 xk,.int .i64 xo,.int .i32 xn,.string (bs xx),.slice xA xm xc],.pointer (some ⟨q1,0,none⟩),.pointer (some ⟨q2,0,none⟩)] w1 (Meas b w1 (fitE u0o (p+u0x (l.take k)) lv a) (p+u0x (l.take k)+u5e a) (max (max d (lv - 1+u1w (l.take k))) (lv - 1+depthE a))):=by
    intro w1 h1 h2
    have hgw:=u0j HGr.out h2
    refine clo_e (HL.out a (List.mem_of_getElem? HA.out)) b base q1 q2 lv _ _ w1 _ _ _ _ _ _ _ h1 hb h5 ⟨by omega,hpr⟩ hlv (by omega) (H4.out.keep hgw (by simp; omega)) (u2c (u1z h2 hb zbr) HX.out) (rgEs_at HG.out a (List.mem_of_getElem? HA.out)) ((hgw.block q1 z1 (by simpa using hn1)).trans HQ1.out) ((hgw.block q2 z2 (by simpa using hn2)).trans HQ2.out)
   cases hfe:fitE u0o (p+u0x (l.take k)) lv a
   ·rw [hfe] at hC
    have HC:=hid hC
    have HFE:=hid hfe
    clear hC hfe
    go_wp2_with fail
    refine (HC.out _ (u0e zbr HMr.out) (u0n (u0r _ _) _)).mono ?_
    rintro e w2 ⟨rfl,hg2,p2,d2,hm2,-⟩
    have HG2:=hid (u0j HGr.out (u0j (u0n (u0r _ _) _) hg2))
    have HM2:=hid hm2
    clear hg2 hm2
    go_wp2
    go_ret
    refine ⟨?_,HG2.out,p2,d2,HM2.out,?_⟩
    ·rw [HFr.out,fitEs_drop u0o p lv l k a HA.out,HFE.out]; rfl
    ·rw [HFr.out,fitEs_drop u0o p lv l k a HA.out,HFE.out]; intro h; cases h
   ·have hle:=fitE_le hfe
    rw [hfe] at hC
    have HC:=hid hC
    have HFE:=hid hfe
    clear hC hfe
    go_wp2_with fail
    refine (HC.out _ (u0e zbr HMr.out) (u0n (u0r _ _) _)).mono ?_
    rintro e w2 ⟨rfl,hg2,p2,d2,hm2,hpd⟩
    obtain ⟨rfl,rfl⟩:=hpd rfl
    have HG2:=hid (u0j HGr.out (u0j (u0n (u0r _ _) _) hg2))
    have HM2:=hid hm2
    clear hg2 hm2 hpd
    go_wp2
    go_roundw
    case rel =>
     refine ⟨k+1,by omega,by go_num,?_,HG2.out,?_,?_⟩
     ·rw [partsEs_take l k a HA.out,depthEs_take l k a HA.out]
      have:=HM2.out
      rw [show max d (lv - 1+max (u1w (l.take k)) (depthE a))=max (max d (lv - 1+u1w (l.take k))) (lv - 1+depthE a) by omega,← Int.add_assoc]
      exact this
     ·rw [HFr.out,fitEs_drop u0o p lv l k a HA.out,HFE.out]; rfl
     ·rw [partsEs_take l k a HA.out]; omega
    case measure=>simp [intOf]; omega
  ·have ht:l.take k=l:=List.take_of_length_le (by omega)
   have hd0:l.drop k=[]:=List.drop_of_length_le (by omega)
   rw [ht] at hmr hfr hpr
   rw [hd0,fitEs_nil u0o _ _ hpr hlv.2] at hfr
   have HMr:=hid hmr
   have HFr:=hid hfr
   clear hmr hfr hgr
   go_wp2
   go_ret
   exact ⟨by rw [HFr.out]; rfl,HGr.out,_,_,HMr.out,fun _=>⟨rfl,rfl⟩⟩
theorem exprs_e (l:List Ex) (hl:∀ a∈l,CE a):CEs l:=by
 intro b base lv p d w A m c hm hb h5 hp hlv hd h4 hs hg hll
 have zb:=(Array.getElem?_eq_some_iff.1 (show w.heap[b]? = _ from hm)).1
 have HM:=hid hm
 have H4:=hid h4
 have HS:=hid hs
 have HG:=hid hg
 have HL:=hid hl
 clear hm h4 hs hg hl
 have z4:4<w.heap.size:=by omega
 go_enter Tryz.func146,Tryz.ntmps146
 go_wp2_with fail
 have hba:w.grownBy ((w.alloc (.cells #[.pointer (some ⟨b,0,none⟩)] 174)).alloc (.cells #[.int .i64 lv] 3)) (some b):=u0n (u0n (u0r _ _) _) _
 refine (alls_e l HL.out b base w.heap.size (w.heap.size+1) lv p d _ A m c (u0e tSZ (u0e zb HM.out)) hb h5 hp hlv hd (H4.out.keep hba (by simp; omega)) (u5b (u1z hba hb zb) HS.out) HG.out hll (by omega) (by omega) tLOC tLOC).mono ?_
 rintro e w1 ⟨rfl,hg1,hm1⟩
 have HG1:=hid (u0j hba hg1)
 have HM1:=hid hm1
 clear hg1 hm1
 go_wp2
 go_ret
 exact ⟨rfl,HG1.out,HM1.out⟩
theorem expr_e (kind op num:Int) (name:List UInt8) (kids:List Ex) (hk:CEs kids):CE (.mk kind op num name kids):=by
 intro b base lv p d w bk bo bn bx bA bm bc hm hb h5 hp hlv hd h4 hr hg
 rw [RE_eq] at hr
 obtain ⟨K,hc,hs⟩:=hr
 simp only [exRow,List.cons.injEq,Value.int.injEq,Value.string.injEq,true_and,and_true] at hc
 obtain ⟨e1,e2,e3,e4,e5⟩:=hc
 have e4:=bs_inj e4
 subst e1; subst e2; subst e3; subst e4; subst e5
 have hml:bm=kids.length:=by
  rcases hs with ⟨h1,h2⟩ | ⟨x,c',h1,_⟩
  ·injection h1 with _ h1 _; rw [h1,h2]; rfl
  ·injection h1
 subst hml
 rw [rgE] at hg
 obtain ⟨hn,hx,hkl,hgk⟩:=hg
 have zb:=(Array.getElem?_eq_some_iff.1 (show w.heap[b]? = _ from hm)).1
 have hpk:=u2p kids
 have hdk:=u5o kids
 have HM:=hid hm
 have H4:=hid h4
 have HS:=hid hs
 have HG:=hid hgk
 have HK:=hid hk
 rw [fitE_mk,u5e,depthE]
 clear hm h4 hs hgk hk
 obtain ⟨cb,hcb⟩:∃ cb,(decide (p+1≤400)&&decide (lv≤12))=cb:=⟨_,rfl⟩
 obtain ⟨sb,hsb⟩:∃ sb,u3y u0o bk bo bn bx kids.length=sb:=⟨_,rfl⟩
 rw [hcb,hsb]
 have HC:=hid hcb
 have HB:=hid hsb
 clear hcb hsb
 have hcnt:∀ w0,Mz w0 b p d→Calls Tryz.prog 144 #[.pointer (some ⟨b,0,none⟩),.int .i64 lv] w0 fun e w'=>e=.returned (.bool cb)∧Mz w' b (p+1) (max d lv)∧w0.grownBy w' (some b):=by
  intro w0 h0; have:=count_any b p d lv w0 h0 (by omega) hlv.2; rw [HC.out] at this; exact this
 have HCN:=hid hcnt
 clear hcnt
 have hns:w.heap.size≠b:=by omega
 cases cb
 ·go_enter Tryz.func92,Tryz.ntmps92
  go_wp2_with fail
  refine (HCN.out _ (u0e zb HM.out)).mono ?_
  rintro e w1 ⟨rfl,hm1,hg1⟩
  obtain ⟨_,_,_,l1⟩:=u0a (q:=w.heap.size) hg1 tLOC hns
  have HG1:=hid (u0j (u0n (u0r w (some b)) _) hg1)
  have HM1:=hid hm1
  clear hm1 hg1
  go_wp2_with fail
  go_ret
  exact ⟨rfl,HG1.out,_,_,HM1.out,fun h=>by cases h⟩
 ·have hc2:p+1≤400∧lv≤12:=by have:=HC.out; simp only [Bool.and_eq_true,decide_eq_true_eq] at this; exact this
  have hfx:∀ w0,Gv w0 4 exsA→Calls Tryz.prog 145 #[.agg #[.int .i64 bk,.int .i64 bo,.int .i32 bn,.string (bs bx),.slice bA kids.length bc]] w0 fun e w'=>e=.returned (.bool sb)∧Below w0.heap.size w0 w':=by
   intro w0 h0; have:=fitsExpr_any bk bo bn bx bA kids.length bc w0 h0 hn hx; rw [HB.out] at this; exact this
  have HFX:=hid hfx
  clear hfx
  cases sb
  ·go_enter Tryz.func92,Tryz.ntmps92
   go_wp2_with fail
   refine (HCN.out _ (u0e zb HM.out)).mono ?_
   rintro e w1 ⟨rfl,hm1,hg1⟩
   obtain ⟨_,_,_,l1⟩:=u0a (q:=w.heap.size) hg1 tLOC hns
   have hg1':=u0j (u0n (u0r w (some b)) _) hg1
   have HG1:=hid hg1'
   have HM1:=hid hm1
   clear hm1 hg1 hg1'
   go_wp2_with fail
   refine (HFX.out _ (H4.out.keep HG1.out (by simp; omega))).mono ?_
   rintro e w2 ⟨rfl,hb2⟩
   have HG2:=hid (u0j HG1.out (u0f hb2 (some b)))
   have HM2:=hid ((hb2.block b (Array.getElem?_eq_some_iff.1 (show w1.heap[b]? = _ from HM1.out)).1).trans HM1.out)
   obtain ⟨_,_,_,l2⟩:=u0a (q:=w.heap.size) (u0f hb2 (some b)) l1 hns
   clear hb2
   go_wp2_with fail
   go_ret
   exact ⟨rfl,HG2.out,_,_,HM2.out,fun h=>by cases h⟩
  ·go_enter Tryz.func92,Tryz.ntmps92
   go_wp2_with fail
   refine (HCN.out _ (u0e zb HM.out)).mono ?_
   rintro e w1 ⟨rfl,hm1,hg1⟩
   obtain ⟨_,_,_,l1⟩:=u0a (q:=w.heap.size) hg1 tLOC hns
   have hg1':=u0j (u0n (u0r w (some b)) _) hg1
   have HG1:=hid hg1'
   have HM1:=hid hm1
   clear hm1 hg1 hg1'
   go_wp2_with fail
   refine (HFX.out _ (H4.out.keep HG1.out (by simp; omega))).mono ?_
   rintro e w2 ⟨rfl,hb2⟩
   have HG2:=hid (u0j HG1.out (u0f hb2 (some b)))
   have HM2:=hid (show Mz w2 b (p+1) (max d lv) from (hb2.block b (Array.getElem?_eq_some_iff.1 (show w1.heap[b]? = _ from HM1.out)).1).trans HM1.out)
   obtain ⟨_,_,_,l2⟩:=u0a (q:=w.heap.size) (u0f hb2 (some b)) l1 hns
   clear hb2
   go_wp2_with fail
   refine (HK.out b base (lv+1) (p+1) (max d lv) _ bA kids.length bc HM2.out hb h5 ⟨by omega,hc2.1⟩ ⟨by omega,by omega⟩ (by omega) (H4.out.keep HG2.out (by simp; omega)) (u5b (u1z HG2.out hb zb) HS.out) HG.out hkl).mono ?_
   rintro e w3 ⟨rfl,hg3,p3,d3,hm3,hpd⟩
   have HG3:=hid (u0j HG2.out hg3)
   have HM3:=hid hm3
   have HPD:=hid hpd
   clear hg3 hm3 hpd
   go_wp2_with fail
   go_ret
   refine ⟨rfl,HG3.out,_,_,HM3.out,fun h=>?_⟩
   obtain ⟨e1,e2⟩:=HPD.out (by simpa using h)
   exact ⟨by omega,by omega⟩
mutual
theorem ce_all:(e:Ex)→CE e
 | .mk kind op num name kids=>expr_e kind op num name kids (exprs_e kids (ces_all kids))
theorem ces_all:(l:List Ex)→∀ a∈l,CE a
 | [],_,h=>by cases h
 | e :: r,a,h=>by
  rcases List.mem_cons.1 h with h1 | h1
  ·rw [h1]; exact ce_all e
  ·exact ces_all r a h1
end
theorem u7v (a:Ex) (w:World) (bk bo bn:Int) (bx:List UInt8) (bA:Option Addr) (bm bc:Nat) (h5:5≤w.heap.size) (h4:Gv w 4 exsA) (hr:RE w (fun g=>g<w.heap.size) [.int .i64 bk,.int .i64 bo,.int .i32 bn,.string (bs bx),.slice bA bm bc] a) (hg:rgE a) :
  Calls Tryz.prog 48 #[.agg #[.int .i64 bk,.int .i64 bo,.int .i32 bn,.string (bs bx),.slice bA bm bc]] w fun e w'=>e=.returned (.bool (fitE u0o 0 1 a))∧Below w.heap.size w w':=by
 have H4:=hid h4
 have HR:=hid hr
 have HG:=hid hg
 clear h4 hr hg
 go_enter Tryz.func48,Tryz.ntmps48
 go_wp2_with fail
 have hba:Below w.heap.size w ((w.alloc (.cells #[.int .i64 bk,.int .i64 bo,.int .i32 bn,.string (bs bx),.slice bA bm bc] 34)).alloc (.cells #[.int .i64 0,.int .i64 0] 96)):=((Below.refl _ _).alloc tSZ _).alloc tSZ _
 refine (ce_all a (w.heap.size+1) w.heap.size 1 0 0 _ _ _ _ _ _ _ _ (u0h (by simp only [u0c])) (by omega) h5 (by omega) (by omega) (by omega) ?_ (u2c hba HR.out) HG.out).mono ?_
 ·obtain ⟨ty,fr,h⟩:=H4.out
  exact ⟨ty,fr,(hba.block 4 (by omega)).trans h⟩
 rintro e w1 ⟨rfl,hg1,-⟩
 have hB1:=hid (hba.trans (u1z hg1 (by omega) tSZ))
 clear hg1
 go_wp2
 go_ret
 exact ⟨rfl,hB1.out⟩
theorem exprText_any (a:Ex) (w:World) (bk bo bn:Int) (bx:List UInt8) (bA:Option Addr) (bm bc:Nat) (h10:10≤w.heap.size) (hG:Glob w) (hP:Gv w 7 powA) (h4:Gv w 4 exsA) (hr:RE w (fun g=>g<w.heap.size) [.int .i64 bk,.int .i64 bo,.int .i32 bn,.string (bs bx),.slice bA bm bc] a) (hg:rgE a)
  (hroom:fitE u0o 0 1 a=true→(tE dgL a).length≤100000∧(txt (tE dgL a)).length≤1000000) :
  Calls Tryz.prog 29 #[.agg #[.int .i64 bk,.int .i64 bo,.int .i32 bn,.string (bs bx),.slice bA bm bc]] w fun e w'=>e=.returned (if fitE u0o 0 1 a then .tuple #[.string (bs (txt (tE dgL a))),.int .i64 0] else .tuple #[.string (bs []),.int .i64 1])∧Below w.heap.size w w':=by
 have H4:=hid h4
 have HR:=hid hr
 have HG:=hid hg
 have HGl:=hid hG
 have HP:=hid hP
 have hba:Below w.heap.size w (w.alloc (.cells #[.int .i64 bk,.int .i64 bo,.int .i32 bn,.string (bs bx),.slice bA bm bc] 34)):=(Below.refl _ _).alloc tSZ _
 have hmo:∀ w1,Below w.heap.size w w1→RE w1 (fun g=>g<w1.heap.size) [.int .i64 bk,.int .i64 bo,.int .i32 bn,.string (bs bx),.slice bA bm bc] a:=fun w1 h=>RE.keeps (u0z h fun _ hb=>hb) (fun _ hb=>Nat.lt_of_lt_of_le hb h.size) _ _ HR.out
 have HMO:=hid hmo
 have hgv:∀ w1 g cs,g<10→Gv w g cs→Below w.heap.size w w1→Gv w1 g cs:=by
  rintro w1 g cs hg ⟨ty,fr,h⟩ hb
  exact ⟨ty,fr,(hb.block g (by omega)).trans h⟩
 have HGV:=hid hgv
 clear h4 hr hg hG hP hmo hgv
 cases hf:fitE u0o 0 1 a
 ·have hv:∀ w1,Below w.heap.size w w1→Calls Tryz.prog 48 #[.agg #[.int .i64 bk,.int .i64 bo,.int .i32 bn,.string (bs bx),.slice bA bm bc]] w1 fun e w'=>e=.returned (.bool false)∧Below w1.heap.size w1 w':=fun w1 h=>by
   have hz:=h.size
   have:=u7v a w1 _ _ _ _ _ _ _ (by omega) (HGV.out w1 4 _ (by omega) H4.out h) (HMO.out w1 h) HG.out
   rw [hf] at this; exact this
  have HV:=hid hv
  clear hv hf hroom
  go_enter Tryz.func29,Tryz.ntmps29
  go_wp2_with fail
  refine (HV.out _ hba).mono ?_
  rintro e w1 ⟨rfl,hb1⟩
  have hB1:=hid (hba.trans (hb1.mono tSZ))
  clear hb1
  go_wp2_with fail
  go_ret2
  exact ⟨rfl,hB1.out⟩
 ·have hv:∀ w1,Below w.heap.size w w1→Calls Tryz.prog 48 #[.agg #[.int .i64 bk,.int .i64 bo,.int .i32 bn,.string (bs bx),.slice bA bm bc]] w1 fun e w'=>e=.returned (.bool true)∧Below w1.heap.size w1 w':=fun w1 h=>by
   have hz:=h.size
   have:=u7v a w1 _ _ _ _ _ _ _ (by omega) (HGV.out w1 4 _ (by omega) H4.out h) (HMO.out w1 h) HG.out
   rw [hf] at this; exact this
  have HV:=hid hv
  have hok:okE u0o a=true:=by unfold fitE at hf; simp only [Bool.and_eq_true] at hf; exact hf.1.1
  obtain ⟨hlen,hj⟩:=hroom hf
  clear hv hf hroom
  go_enter Tryz.func29,Tryz.ntmps29
  go_wp2_with fail
  refine (HV.out _ hba).mono ?_
  rintro e w1 ⟨rfl,hb1⟩
  have hB1:=hid (hba.trans (hb1.mono tSZ))
  obtain ⟨_,_,_,l1⟩:=u0a (q:=w.heap.size) (u0f hb1 (some 0)) tLOC (by omega)
  clear hb1
  have hz1:=hB1.out.size
  go_wp2_with fail
  refine (exprText_w fmtU a hok _ (HGl.out.below hB1.out h10) (HGV.out _ 7 _ (by omega) HP.out hB1.out) (by omega) _ _ _ _ _ _ _ (HMO.out _ hB1.out) hlen hj).mono ?_
  rintro e w2 ⟨rfl,hb2⟩
  have hB2:=hid (hB1.out.trans (hb2.mono hz1))
  clear hb2
  go_wp2_with fail
  go_ret2
  exact ⟨rfl,hB2.out⟩
end Go.Proofs.YtbkhnilbgocpnaaGreatDoor.SynC
