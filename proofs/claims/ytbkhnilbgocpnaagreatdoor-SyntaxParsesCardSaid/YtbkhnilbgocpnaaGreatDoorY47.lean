import Derived.BigQuiet
import Derived.Deep.RegionHeld3
import Derived.Handy
import Derived.Test.YtbkhnilbgocpnaaGreatDoorY30
import Derived.Test.YtbkhnilbgocpnaaGreatDoorY1
import Derived.Test.YtbkhnilbgocpnaaGreatDoorY32
import Derived.Test.YtbkhnilbgocpnaaGreatDoorY54
import Derived.Test.YtbkhnilbgocpnaaGreatDoorY44
set_option linter.unusedVariables false
set_option linter.unusedSimpArgs false
set_option maxRecDepth 100000
set_option maxHeartbeats 2000000
open Go.Lib (hid)
namespace Go.Proofs.YtbkhnilbgocpnaaGreatDoor.SynC
open Go.Proofs.YtbkhnilbgocpnaaGreatDoor.LexC
open Go Go.ChangeShapes Go.WideShapes Go.ChangeAt Go.RowKit Go.Deep
theorem foldWord_188 (w:World) (op:Int):Calls Tryz.prog 188 #[.int .i64 op] w fun e w'=>e=.returned (.string (bs (u2x op)))∧Below w.heap.size w w':=by
 by_cases h0:op=0
 ·subst h0
  go_enter Tryz.func188,Tryz.ntmps188
  go_wp2
  go_ret
  exact ⟨rfl,Below.refl _ _⟩
 by_cases h1:op=18
 ·subst h1
  go_enter Tryz.func188,Tryz.ntmps188
  go_wp2
  go_ret
  exact ⟨rfl,Below.refl _ _⟩
 by_cases h2:op=19
 ·subst h2
  go_enter Tryz.func188,Tryz.ntmps188
  go_wp2
  go_ret
  exact ⟨rfl,Below.refl _ _⟩
 by_cases h3:op=5
 ·subst h3
  go_enter Tryz.func188,Tryz.ntmps188
  go_wp2
  go_ret
  exact ⟨rfl,Below.refl _ _⟩
 by_cases h4:op=6
 ·subst h4
  go_enter Tryz.func188,Tryz.ntmps188
  go_wp2
  go_ret
  exact ⟨rfl,Below.refl _ _⟩
 have e0:(op == 0)=false:=by simpa using h0
 have e1:(op == 18)=false:=by simpa using h1
 have e2:(op == 19)=false:=by simpa using h2
 have e3:(op == 5)=false:=by simpa using h3
 have e4:(op == 6)=false:=by simpa using h4
 have hf:u2x op=[120,111,114]:=by simp [u2x,h0,h1,h2,h3,h4]
 rw [hf]
 clear hf
 go_enter Tryz.func188,Tryz.ntmps188
 go_wp2
 go_ret
 exact ⟨rfl,Below.refl _ _⟩
def decL (n:Int):List UInt8:=if n<0 then 45 :: digL (-n).toNat else digL n.toNat
theorem digits_105_up (w:World) (m:Nat) (h2:m≤4294967296):Calls Tryz.prog 105 #[.int .i64 (m:Int)] w fun e w'=>e=.returned (.string (bs (digL m)))∧Below w.heap.size w w':=by
 have hd:decide ((m:Int)<0)=false:=by simp
 have HC:=hid (digits_any m h2 w)
 clear h2
 go_enter Tryz.func105,Tryz.ntmps105
 go_wp2_with fail
 refine HC.out.mono ?_
 rintro e w1 ⟨rfl,b1⟩
 go_wp2
 go_ret
 exact ⟨rfl,b1⟩
theorem digits_105_down (w:World) (n:Int) (m:Nat) (h1:n<0) (h2:m≤4294967296) (hm:wrap64 (-n)=(m:Int)):Calls Tryz.prog 105 #[.int .i64 n] w fun e w'=>e=.returned (.string (bs (45 :: digL m)))∧Below w.heap.size w w':=by
 have hd:decide (n<0)=true:=by simpa using h1
 have hl:(digL m).length≤11:=digL_len 10 m (by omega)
 have hadd:=add_bs2 [45] (digL m) (by simp; omega)
 have ha:bs ([45]++digL m)=bs (45 :: digL m):=rfl
 rw [ha] at hadd
 clear ha
 have hb:bs [45]={ data:=#[45] }:=rfl
 rw [hb] at hadd
 clear hb
 have HC:=hid (show Calls Tryz.prog 163 #[.int .i64 (wrap64 (-n))] w fun e w'=>e=.returned (.string (bs (digL m)))∧Below w.heap.size w w' by rw [hm]; exact digits_any m h2 w)
 clear h2 h1 hm
 go_enter Tryz.func105,Tryz.ntmps105
 go_wp2_with fail
 refine HC.out.mono ?_
 rintro e w1 ⟨rfl,b1⟩
 go_wp2
 go_ret
 exact ⟨rfl,b1⟩
theorem digits_105 (w:World) (n:Int) (h1:-4294967296≤n) (h2:n≤4294967296):Calls Tryz.prog 105 #[.int .i64 n] w fun e w'=>e=.returned (.string (bs (decL n)))∧Below w.heap.size w w':=by
 unfold decL
 by_cases hn:n<0
 ·rw [if_pos hn]
  exact digits_105_down w n (-n).toNat hn (by omega) (by simp only [wrap64]; omega)
 ·obtain ⟨m,rfl⟩:∃ m:Nat,n=(m:Int):=⟨n.toNat,by omega⟩
  rw [if_neg hn]
  exact digits_105_up w m (by omega)
theorem gE_len {e:Ex} (h:okE u0f e=true) (hp:u4d e≤400):(gE e).length≤100000:=by
 have h1:=gE_pre u0f e h
 have h2:=pre_len _ (sm_E e (by rw [← nm_eq]; exact h))
 have h3:=tE_len u0f e h
 rw [h1,List.length_cons] at h2
 omega
theorem gS_len {s:St} (h:okS u0f s=true) (hp:u3y s≤400):(gS s).length≤100000:=by
 have h1:=gS_pre u0f s h
 have h2:=pre_len _ (sm_S s (by rw [← nm_eq]; exact h))
 have h3:=tS_len u0f s h
 rw [h1,List.length_cons] at h2
 omega
theorem gSs_len {l:List St} (h:okSs u0f l=true) (hp:u0r l≤400):(gSs l).length≤100000:=by
 have h1:=gSs_pre u0f l h
 have h2:=pre_len _ (sm_Ss l (by rw [← nm_eq]; exact h))
 have h3:=tSs_len u0f l h
 rw [h1] at h2
 omega
theorem u9x:∀ {l:List Ex} {a:Ex},a∈l→u4d a≤u0s l
 | e :: r,a,h=>by
  rw [u0s]
  have h1:=u2m r
  rcases List.mem_cons.1 h with rfl | h
  ·omega
  ·have:=u9x h
   have:=partsE_pos e
   omega
def TSl (l:List St):Prop:=∀ (w:World) (A:Option Addr) (m c:Nat),okSs u0f l=true→u0r l≤400→SlS w (fun g=>g<w.heap.size) (.slice A m c) l→rgSs l→l.length≤1125899906842624 →
 Calls Tryz.prog 104 #[.slice A m c] w fun e' w'=>e'=.returned (.string (bs (gSs l)))∧Below w.heap.size w w'
def TSt (s:St):Prop:=∀ (w:World) (k o:Int) (x:List UInt8) (A:Option Addr) (m c:Nat) (B:Option Addr) (mb cb:Nat) (C:Option Addr) (mc cc:Nat),okS u0f s=true→u3y s≤400 →
 RS w (fun g=>g<w.heap.size) [.int .i64 k,.int .i64 o,.string (bs x),.slice A m c,.slice B mb cb,.slice C mc cc] s→rgS s →
 Calls Tryz.prog 162 #[.agg #[.int .i64 k,.int .i64 o,.string (bs x),.slice A m c,.slice B mb cb,.slice C mc cc]] w fun e' w'=>e'=.returned (.string (bs (gS s)))∧Below w.heap.size w w'
theorem st_text_a (kind op:Int) (name:List UInt8) (exprs:List Ex) (body els:List St) (w:World) (A:Option Addr) (c:Nat) (B:Option Addr) (cb:Nat) (C:Option Addr) (cc:Nat) (hok:okEs u0f exprs=true) (hsh:u0u u0f kind op name exprs.length body.isEmpty els.isEmpty=true) (hp:u0s exprs≤400)
  (hlen:(stG kind op name (exprs.map gE) (gSs body) (gSs els) els.isEmpty).length≤100000) (hs:SlE w (fun g=>g<w.heap.size) (.slice A exprs.length c) exprs) (hg:rgEs exprs)
  (hB:∀ w',Below w.heap.size w w'→Calls Tryz.prog 104 #[.slice B body.length cb] w' fun e' w2=>e'=.returned (.string (bs (gSs body)))∧Below w'.heap.size w' w2) (hC:∀ w',Below w.heap.size w w'→Calls Tryz.prog 104 #[.slice C els.length cc] w' fun e' w2=>e'=.returned (.string (bs (gSs els)))∧Below w'.heap.size w' w2) (hkind:kind=0∨kind=1∨kind=2∨kind=5∨kind=6∨kind=7∨kind=8) :
  Calls Tryz.prog 162 #[.agg #[.int .i64 kind,.int .i64 op,.string (bs name),.slice A exprs.length c,.slice B body.length cb,.slice C els.length cc]] w fun e' w'=>e'=.returned (.string (bs (stG kind op name (exprs.map gE) (gSs body) (gSs els) els.isEmpty)))∧Below w.heap.size w w':=by
 have h2:=u8k hsh
 rw [u5d] at hok
 have hok:=List.all_eq_true.1 hok
 have hkl:∀ a∈exprs,(gE a).length≤1000000:=fun a ha=>by have:=gE_len (hok a ha) (by have:=u9x ha; omega); omega
 have HKL:=hid hkl
 have HOK:=hid hok
 have HS:=hid hs
 have HG:=hid hg
 have HBT:=hid hB
 have HCT:=hid hC
 clear hkl hok hs hg hB hC hp
 go_enter Tryz.func162,Tryz.ntmps162
 go_wp2_with fail
 go_loopw [3,4] (fun s i wr=>∃ (k:Nat) (v:Value),k≤exprs.length∧i=.int .i64 k∧s=v∧OwnS wr (w.heap.size+1) v ((exprs.take k).map gE)∧Below (w.heap.size+1) (w.alloc (.cells #[.int .i64 kind,.int .i64 op,.string (bs name),.slice A exprs.length c,.slice B body.length cb,.slice C els.length cc] 136)) wr) (fun _ i _=>exprs.length - (intOf i).toNat)
 case atStart=>exact ⟨0,_,Nat.zero_le _,rfl,rfl,OwnS.nil _ _,Below.refl _ _⟩
 case round =>
  obtain ⟨k,v,hk,rfl,rfl,hown,hbr⟩:=hrel
  obtain ⟨wo,rfl⟩:∃ z,z=wr:=⟨_,rfl⟩
  have hzr:=hbr.size
  simp only [u0e] at hzr
  have le2:wo.heap[w.heap.size]? = some (.cells #[.int .i64 kind,.int .i64 op,.string (bs name),.slice A exprs.length c,.slice B body.length cb,.slice C els.length cc] 136 (0,0)):=(hbr.block _ (by omega)).trans (u0c _ _)
  have xe3:=cell_of_row _ _ 3 _ _ _ le2
  have hbw:Below w.heap.size w wo:=(u0j _ _).trans (hbr.mono (by omega))
  have HBR:=hid hbr
  have HBW:=hid hbw
  have HOWN:=hid hown
  have HLE:=hid le2
  by_cases hlt:k<exprs.length
  ·obtain ⟨a,ha⟩:∃ a,exprs[k]? = some a:=⟨exprs[k],List.getElem?_eq_getElem hlt⟩
   have hmem:=List.mem_of_getElem? ha
   obtain ⟨g,oo,rfl,_,hPg,hrows⟩:=u3n (u7z HS.out hbw) (by omega)
   obtain ⟨yk,yo,yn,yx,yA,ym,yc,⟨d0,d1,d2,d3,d4⟩,hrx⟩:=hrows k a ha
   have hin:(0:Int)≤k∧(k:Int)<exprs.length:=⟨by omega,by omega⟩
   have hC:=gt_all a wo _ _ _ _ _ _ _ (HOK.out a hmem) (HKL.out a hmem) hrx (u7v HG.out a hmem)
   have hT:(exprs.take (k+1)).map gE=(exprs.take k).map gE++[gE a]:=by rw [List.take_add_one,ha,List.map_append]; rfl
   have HC:=hid hC
   have HT:=hid hT
   clear hrows hrx ha hT hC hbr hbw hown le2 hmem
   go_wp2_with fail
   refine HC.out.mono ?_
   rintro e w3 ⟨rfl,hb3⟩
   have HB3:=hid hb3
   have hz3:=hb3.size
   have HOWN3:=hid (OwnS.below HOWN.out hb3)
   clear hb3
   go_wp2_with (refine u2q rfl _ _ rfl (w.heap.size+1) _ ((exprs.take k).map gE) (gE a) rfl (by exact HOWN3.out) w3.heap.size rfl rfl (by rw [List.length_map,List.length_take]; omega) (by omega) ?_; intro v' w4 ho4 hb4; have HO4:=hid ho4; have HB4:=hid hb4; clear ho4 hb4)
   go_roundw
   case rel=>exact ⟨k+1,_,by omega,by go_num,rfl,by rw [HT.out]; exact HO4.out,HBR.out.trans ((HB3.out.mono (by omega)).trans HB4.out)⟩
   case measure=>simp [intOf]; omega
  ·have ht:exprs.take k=exprs:=List.take_of_length_le (by omega)
   rw [ht] at HOWN
   obtain ⟨Q,cq,rfl,hat⟩:=HOWN.out.open_
   have hqz:w.heap.size<wo.heap.size:=by omega
   have xe0:=cell_of_row _ _ 0 _ _ _ le2
   have xe1:=cell_of_row _ _ 1 _ _ _ le2
   have xe2:=cell_of_row _ _ 2 _ _ _ le2
   have xe4:=cell_of_row _ _ 4 _ _ _ le2
   have xe5:=cell_of_row _ _ 5 _ _ _ le2
   have hlm:(exprs.map gE).length=exprs.length:=List.length_map _
   clear hbr hbw hown
   rcases hkind with rfl | rfl | rfl | rfl | rfl | rfl | rfl
   ·have ho:exprs.length=1:=by unfold u0u at hsh; simp at hsh; omega
    obtain ⟨t0,ht0⟩:∃ t,(exprs.map gE)[0]? = some t:=⟨(exprs.map gE)[0]'(by omega),List.getElem?_eq_getElem (by omega)⟩
    obtain ⟨g,rfl,_,hg0,hc0⟩:=hat 0 t0 ht0
    have hb:stG 0 op name (exprs.map gE) (gSs body) (gSs els) els.isEmpty=[108,101,116,32]++name++[32,61,32]++t0++[32,59]:=by unfold stG; simp [List.getD_eq_getElem?_getD,ht0,wLet,u4z,u3u,u3i]
    rw [hb] at hlen
    simp only [List.length_append,List.length_cons,List.length_nil] at hlen
    rw [hlm,ho]
    have a1:=add_r3 [108,101,116,32] name ⟨#[108,101,116,32]⟩ rfl (by first | omega | (simp; omega))
    obtain ⟨P1,hP1⟩:∃ P,[108,101,116,32]++name=P:=⟨_,rfl⟩
    have l1:P1.length=([108,101,116,32]:List UInt8).length+name.length:=by rw [← hP1,List.length_append]
    (try simp only [List.length_cons,List.length_nil] at l1)
    rw [hP1] at a1 hb
    have a2:=u1z P1 [32,61,32] ⟨#[32,61,32]⟩ rfl (by first | omega | (simp; omega))
    obtain ⟨P2,hP2⟩:∃ P,P1++[32,61,32]=P:=⟨_,rfl⟩
    have l2:P2.length=P1.length+([32,61,32]:List UInt8).length:=by rw [← hP2,List.length_append]
    (try simp only [List.length_cons,List.length_nil] at l2)
    rw [hP2] at a2 hb
    have a3:=u3m P2 t0 (by first | omega | (simp; omega))
    obtain ⟨P3,hP3⟩:∃ P,P2++t0=P:=⟨_,rfl⟩
    have l3:P3.length=P2.length+t0.length:=by rw [← hP3,List.length_append]
    (try simp only [List.length_cons,List.length_nil] at l3)
    rw [hP3] at a3 hb
    have a4:=u1z P3 [32,59] ⟨#[32,59]⟩ rfl (by first | omega | (simp; omega))
    obtain ⟨P4,hP4⟩:∃ P,P3++[32,59]=P:=⟨_,rfl⟩
    have l4:P4.length=P3.length+([32,59]:List UInt8).length:=by rw [← hP4,List.length_append]
    (try simp only [List.length_cons,List.length_nil] at l4)
    rw [hP4] at a4 hb
    have HBD:=hid hb
    clear hb hlen hP1 l1 hP2 l2 hP3 l3 hP4 l4 hat ht0 hsh HKL HOK
    go_wp2_with fail
    go_quiet (fail)
    go_wp2
    go_ret
    rw [HBD.out]
    exact ⟨rfl,seq HBW.out (u1b _ _)⟩
   ·have ho:exprs.length=1:=by unfold u0u at hsh; simp at hsh; omega
    obtain ⟨t0,ht0⟩:∃ t,(exprs.map gE)[0]? = some t:=⟨(exprs.map gE)[0]'(by omega),List.getElem?_eq_getElem (by omega)⟩
    obtain ⟨g,rfl,_,hg0,hc0⟩:=hat 0 t0 ht0
    have hb:stG 1 op name (exprs.map gE) (gSs body) (gSs els) els.isEmpty=name++[32,61,32]++t0++[32,59]:=by unfold stG; simp [List.getD_eq_getElem?_getD,ht0,wLet,u4z,u3u,u3i]
    rw [hb] at hlen
    simp only [List.length_append,List.length_cons,List.length_nil] at hlen
    rw [hlm,ho]
    have a1:=u1z name [32,61,32] ⟨#[32,61,32]⟩ rfl (by first | omega | (simp; omega))
    obtain ⟨P1,hP1⟩:∃ P,name++[32,61,32]=P:=⟨_,rfl⟩
    have l1:P1.length=name.length+([32,61,32]:List UInt8).length:=by rw [← hP1,List.length_append]
    (try simp only [List.length_cons,List.length_nil] at l1)
    rw [hP1] at a1 hb
    have a2:=u3m P1 t0 (by first | omega | (simp; omega))
    obtain ⟨P2,hP2⟩:∃ P,P1++t0=P:=⟨_,rfl⟩
    have l2:P2.length=P1.length+t0.length:=by rw [← hP2,List.length_append]
    (try simp only [List.length_cons,List.length_nil] at l2)
    rw [hP2] at a2 hb
    have a3:=u1z P2 [32,59] ⟨#[32,59]⟩ rfl (by first | omega | (simp; omega))
    obtain ⟨P3,hP3⟩:∃ P,P2++[32,59]=P:=⟨_,rfl⟩
    have l3:P3.length=P2.length+([32,59]:List UInt8).length:=by rw [← hP3,List.length_append]
    (try simp only [List.length_cons,List.length_nil] at l3)
    rw [hP3] at a3 hb
    have HBD:=hid hb
    clear hb hlen hP1 l1 hP2 l2 hP3 l3 hat ht0 hsh HKL HOK
    go_wp2_with fail
    go_quiet (fail)
    go_wp2
    go_ret
    rw [HBD.out]
    exact ⟨rfl,seq HBW.out (u1b _ _)⟩
   ·have ho:exprs.length=2:=by unfold u0u at hsh; simp at hsh; omega
    obtain ⟨t0,ht0⟩:∃ t,(exprs.map gE)[0]? = some t:=⟨(exprs.map gE)[0]'(by omega),List.getElem?_eq_getElem (by omega)⟩
    obtain ⟨t1,ht1⟩:∃ t,(exprs.map gE)[1]? = some t:=⟨(exprs.map gE)[1]'(by omega),List.getElem?_eq_getElem (by omega)⟩
    obtain ⟨g,rfl,_,hg0,hc0⟩:=hat 0 t0 ht0
    obtain ⟨g9,e9,_,_,hc1⟩:=hat 1 t1 ht1
    obtain rfl:g=g9:=by injection e9 with e9; injection e9 with e9
    have hb:stG 2 op name (exprs.map gE) (gSs body) (gSs els) els.isEmpty=name++[32,91,32]++t0++[32,93,32,61,32]++t1++[32,59]:=by unfold stG; simp [List.getD_eq_getElem?_getD,ht0,ht1,wLet,u4z,u3u,u3i]
    rw [hb] at hlen
    simp only [List.length_append,List.length_cons,List.length_nil] at hlen
    rw [hlm,ho]
    have a1:=u1z name [32,91,32] ⟨#[32,91,32]⟩ rfl (by first | omega | (simp; omega))
    obtain ⟨P1,hP1⟩:∃ P,name++[32,91,32]=P:=⟨_,rfl⟩
    have l1:P1.length=name.length+([32,91,32]:List UInt8).length:=by rw [← hP1,List.length_append]
    (try simp only [List.length_cons,List.length_nil] at l1)
    rw [hP1] at a1 hb
    have a2:=u3m P1 t0 (by first | omega | (simp; omega))
    obtain ⟨P2,hP2⟩:∃ P,P1++t0=P:=⟨_,rfl⟩
    have l2:P2.length=P1.length+t0.length:=by rw [← hP2,List.length_append]
    (try simp only [List.length_cons,List.length_nil] at l2)
    rw [hP2] at a2 hb
    have a3:=u1z P2 [32,93,32,61,32] ⟨#[32,93,32,61,32]⟩ rfl (by first | omega | (simp; omega))
    obtain ⟨P3,hP3⟩:∃ P,P2++[32,93,32,61,32]=P:=⟨_,rfl⟩
    have l3:P3.length=P2.length+([32,93,32,61,32]:List UInt8).length:=by rw [← hP3,List.length_append]
    (try simp only [List.length_cons,List.length_nil] at l3)
    rw [hP3] at a3 hb
    have a4:=u3m P3 t1 (by first | omega | (simp; omega))
    obtain ⟨P4,hP4⟩:∃ P,P3++t1=P:=⟨_,rfl⟩
    have l4:P4.length=P3.length+t1.length:=by rw [← hP4,List.length_append]
    (try simp only [List.length_cons,List.length_nil] at l4)
    rw [hP4] at a4 hb
    have a5:=u1z P4 [32,59] ⟨#[32,59]⟩ rfl (by first | omega | (simp; omega))
    obtain ⟨P5,hP5⟩:∃ P,P4++[32,59]=P:=⟨_,rfl⟩
    have l5:P5.length=P4.length+([32,59]:List UInt8).length:=by rw [← hP5,List.length_append]
    (try simp only [List.length_cons,List.length_nil] at l5)
    rw [hP5] at a5 hb
    have HBD:=hid hb
    clear hb hlen hP1 l1 hP2 l2 hP3 l3 hP4 l4 hP5 l5 hat ht0 ht1 hsh HKL HOK
    go_wp2_with fail
    go_quiet (fail)
    go_wp2
    go_ret
    rw [HBD.out]
    exact ⟨rfl,seq HBW.out (u1b _ _)⟩
   ·have hb:stG 5 op name (exprs.map gE) (gSs body) (gSs els) els.isEmpty=[98,114,101,97,107,32,59]:=by unfold stG; simp [u6k,u2y,u4s]
    have HBD:=hid hb
    clear hb hlen hat hsh HKL HOK
    go_wp2
    go_ret
    rw [HBD.out]
    exact ⟨rfl,HBW.out⟩
   ·have hb:stG 6 op name (exprs.map gE) (gSs body) (gSs els) els.isEmpty=[99,111,110,116,105,110,117,101,32,59]:=by unfold stG; simp [u6k,u2y,u4s]
    have HBD:=hid hb
    clear hb hlen hat hsh HKL HOK
    go_wp2
    go_ret
    rw [HBD.out]
    exact ⟨rfl,HBW.out⟩
   ·have ho:exprs.length=0∨exprs.length=1:=by unfold u0u at hsh; simp at hsh; omega
    rcases ho with ho | ho
    ·obtain rfl:=List.eq_nil_of_length_eq_zero ho
     have hb:stG 7 op name (([]:List Ex).map gE) (gSs body) (gSs els) els.isEmpty=[114,101,116,117,114,110,32,59]:=by unfold stG; simp [u3i]
     have HBD:=hid hb
     clear hb hlen hat hsh HKL HOK
     go_wp2
     go_ret
     rw [HBD.out]
     exact ⟨rfl,HBW.out⟩
    ·obtain ⟨t0,ht0⟩:∃ t,(exprs.map gE)[0]? = some t:=⟨(exprs.map gE)[0]'(by omega),List.getElem?_eq_getElem (by omega)⟩
     obtain ⟨g,rfl,_,hg0,hc0⟩:=hat 0 t0 ht0
     have hne:exprs.isEmpty=false:=by cases exprs <;> simp_all
     have hb:stG 7 op name (exprs.map gE) (gSs body) (gSs els) els.isEmpty=[114,101,116,117,114,110,32]++t0++[32,59]:=by unfold stG; simp [List.getD_eq_getElem?_getD,ht0,u3i,hne]
     rw [hb] at hlen
     simp only [List.length_append,List.length_cons,List.length_nil] at hlen
     rw [hlm,ho]
     have a1:=add_r3 [114,101,116,117,114,110,32] t0 ⟨#[114,101,116,117,114,110,32]⟩ rfl (by first | omega | (simp; omega))
     obtain ⟨P1,hP1⟩:∃ P,[114,101,116,117,114,110,32]++t0=P:=⟨_,rfl⟩
     have l1:P1.length=([114,101,116,117,114,110,32]:List UInt8).length+t0.length:=by rw [← hP1,List.length_append]
     (try simp only [List.length_cons,List.length_nil] at l1)
     rw [hP1] at a1 hb
     have a2:=u1z P1 [32,59] ⟨#[32,59]⟩ rfl (by first | omega | (simp; omega))
     obtain ⟨P2,hP2⟩:∃ P,P1++[32,59]=P:=⟨_,rfl⟩
     have l2:P2.length=P1.length+([32,59]:List UInt8).length:=by rw [← hP2,List.length_append]
     (try simp only [List.length_cons,List.length_nil] at l2)
     rw [hP2] at a2 hb
     have HBD:=hid hb
     clear hb hlen hP1 l1 hP2 l2 hat ht0 hsh hne HKL HOK
     go_wp2
     go_ret
     rw [HBD.out]
     exact ⟨rfl,HBW.out⟩
   ·have hb:stG 8 op name (exprs.map gE) (gSs body) (gSs els) els.isEmpty=[98,97,114,114,105,101,114,32,59]:=by unfold stG; simp [u6k,u2y,u4s]
    have HBD:=hid hb
    clear hb hlen hat hsh HKL HOK
    go_wp2
    go_ret
    rw [HBD.out]
    exact ⟨rfl,HBW.out⟩
end Go.Proofs.YtbkhnilbgocpnaaGreatDoor.SynC
