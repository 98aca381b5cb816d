import Derived.Deep.RegionHeld3
import Derived.BigQuiet
import Derived.Handy
import Derived.Deep.QuietTactic
import Derived.Test.YtbkhnilbgocpnaaGreatDoorY47
import Derived.Test.YtbkhnilbgocpnaaGreatDoorY44
import Derived.Test.YtbkhnilbgocpnaaGreatDoorY48
import Derived.Test.YtbkhnilbgocpnaaGreatDoorY0
import Derived.Test.YtbkhnilbgocpnaaGreatDoorY22
set_option linter.unusedVariables false
set_option linter.unusedSimpArgs false
set_option maxRecDepth 100000
set_option maxHeartbeats 2000000
open Go.Lib (hid)
namespace Go.Proofs.YtbkhnilbgocpnaaGreatDoor.SynC
open Go.Proofs.YtbkhnilbgocpnaaGreatDoor.LexC
open Go Go.ChangeShapes Go.WideShapes Go.ChangeAt Go.RowKit Go.Deep
theorem st_text_c (kind op:Int) (name:List UInt8) (exprs:List Ex) (body els:List St) (w:World) (A:Option Addr) (c:Nat) (B:Option Addr) (cb:Nat) (C:Option Addr) (cc:Nat) (hok:okEs u0f exprs=true) (hsh:u0u u0f kind op name exprs.length body.isEmpty els.isEmpty=true) (hp:u0s exprs≤400)
  (hlen:(stG kind op name (exprs.map gE) (gSs body) (gSs els) els.isEmpty).length≤100000) (hs:SlE w (fun g=>g<w.heap.size) (.slice A exprs.length c) exprs) (hg:rgEs exprs)
  (hB:∀ w',Below w.heap.size w w'→Calls Tryz.prog 104 #[.slice B body.length cb] w' fun e' w2=>e'=.returned (.string (bs (gSs body)))∧Below w'.heap.size w' w2) (hC:∀ w',Below w.heap.size w w'→Calls Tryz.prog 104 #[.slice C els.length cc] w' fun e' w2=>e'=.returned (.string (bs (gSs els)))∧Below w'.heap.size w' w2) (hkind:kind=9∨kind=10) :
  Calls Tryz.prog 162 #[.agg #[.int .i64 kind,.int .i64 op,.string (bs name),.slice A exprs.length c,.slice B body.length cb,.slice C els.length cc]] w fun e' w'=>e'=.returned (.string (bs (stG kind op name (exprs.map gE) (gSs body) (gSs els) els.isEmpty)))∧Below w.heap.size w w':=by
 have h2:=u8k hsh
 rw [u5d] at hok
 have hok:=List.all_eq_true.1 hok
 have hkl:∀ a∈exprs,(gE a).length≤1000000:=fun a ha=>by have:=gE_len (hok a ha) (by have:=u9x ha; omega); omega
 have HKL:=hid hkl
 have HOK:=hid hok
 have HS:=hid hs
 have HG:=hid hg
 have HBT:=hid hB
 have HCT:=hid hC
 clear hkl hok hs hg hB hC hp
 go_enter Tryz.func162,Tryz.ntmps162
 go_wp2_with fail
 go_loopw [3,4] (fun s i wr=>∃ (k:Nat) (v:Value),k≤exprs.length∧i=.int .i64 k∧s=v∧OwnS wr (w.heap.size+1) v ((exprs.take k).map gE)∧Below (w.heap.size+1) (w.alloc (.cells #[.int .i64 kind,.int .i64 op,.string (bs name),.slice A exprs.length c,.slice B body.length cb,.slice C els.length cc] 136)) wr) (fun _ i _=>exprs.length - (intOf i).toNat)
 case atStart=>exact ⟨0,_,Nat.zero_le _,rfl,rfl,OwnS.nil _ _,Below.refl _ _⟩
 case round =>
  obtain ⟨k,v,hk,rfl,rfl,hown,hbr⟩:=hrel
  obtain ⟨wo,rfl⟩:∃ z,z=wr:=⟨_,rfl⟩
  have hzr:=hbr.size
  simp only [u0e] at hzr
  have le2:wo.heap[w.heap.size]? = some (.cells #[.int .i64 kind,.int .i64 op,.string (bs name),.slice A exprs.length c,.slice B body.length cb,.slice C els.length cc] 136 (0,0)):=(hbr.block _ (by omega)).trans (u0c _ _)
  have xe3:=cell_of_row _ _ 3 _ _ _ le2
  have hbw:Below w.heap.size w wo:=(u0j _ _).trans (hbr.mono (by omega))
  have HBR:=hid hbr
  have HBW:=hid hbw
  have HOWN:=hid hown
  have HLE:=hid le2
  by_cases hlt:k<exprs.length
  ·obtain ⟨a,ha⟩:∃ a,exprs[k]? = some a:=⟨exprs[k],List.getElem?_eq_getElem hlt⟩
   have hmem:=List.mem_of_getElem? ha
   obtain ⟨g,oo,rfl,_,hPg,hrows⟩:=u3n (u7z HS.out hbw) (by omega)
   obtain ⟨yk,yo,yn,yx,yA,ym,yc,⟨d0,d1,d2,d3,d4⟩,hrx⟩:=hrows k a ha
   have hin:(0:Int)≤k∧(k:Int)<exprs.length:=⟨by omega,by omega⟩
   have hC:=gt_all a wo _ _ _ _ _ _ _ (HOK.out a hmem) (HKL.out a hmem) hrx (u7v HG.out a hmem)
   have hT:(exprs.take (k+1)).map gE=(exprs.take k).map gE++[gE a]:=by rw [List.take_add_one,ha,List.map_append]; rfl
   have HC:=hid hC
   have HT:=hid hT
   clear hrows hrx ha hT hC hbr hbw hown le2 hmem
   go_wp2_with fail
   refine HC.out.mono ?_
   rintro e w3 ⟨rfl,hb3⟩
   have HB3:=hid hb3
   have hz3:=hb3.size
   have HOWN3:=hid (OwnS.below HOWN.out hb3)
   clear hb3
   go_wp2_with (refine u2q rfl _ _ rfl (w.heap.size+1) _ ((exprs.take k).map gE) (gE a) rfl (by exact HOWN3.out) w3.heap.size rfl rfl (by rw [List.length_map,List.length_take]; omega) (by omega) ?_; intro v' w4 ho4 hb4; have HO4:=hid ho4; have HB4:=hid hb4; clear ho4 hb4)
   go_roundw
   case rel=>exact ⟨k+1,_,by omega,by go_num,rfl,by rw [HT.out]; exact HO4.out,HBR.out.trans ((HB3.out.mono (by omega)).trans HB4.out)⟩
   case measure=>simp [intOf]; omega
  ·have ht:exprs.take k=exprs:=List.take_of_length_le (by omega)
   rw [ht] at HOWN
   obtain ⟨Q,cq,rfl,hat⟩:=HOWN.out.open_
   have hqz:w.heap.size<wo.heap.size:=by omega
   have xe0:=cell_of_row _ _ 0 _ _ _ le2
   have xe1:=cell_of_row _ _ 1 _ _ _ le2
   have xe2:=cell_of_row _ _ 2 _ _ _ le2
   have xe4:=cell_of_row _ _ 4 _ _ _ le2
   have xe5:=cell_of_row _ _ 5 _ _ _ le2
   have hlm:(exprs.map gE).length=exprs.length:=List.length_map _
   clear hbr hbw hown
   rcases hkind with rfl | rfl
   ·have ho:exprs.length=2:=by unfold u0u at hsh; simp at hsh; omega
    obtain ⟨t0,ht0⟩:∃ t,(exprs.map gE)[0]? = some t:=⟨(exprs.map gE)[0]'(by omega),List.getElem?_eq_getElem (by omega)⟩
    obtain ⟨t1,ht1⟩:∃ t,(exprs.map gE)[1]? = some t:=⟨(exprs.map gE)[1]'(by omega),List.getElem?_eq_getElem (by omega)⟩
    obtain ⟨g,rfl,_,hg0,hc0⟩:=hat 0 t0 ht0
    obtain ⟨g9,e9,_,_,hc1⟩:=hat 1 t1 ht1
    obtain rfl:g=g9:=by injection e9 with e9; injection e9 with e9
    have hb:stG 9 op name (exprs.map gE) (gSs body) (gSs els) els.isEmpty=[97,116,111,109,105,99,32]++u2x op++[32]++name++[32,91,32]++t0++[32,93,32,44,32]++t1++[32,59]:=by unfold stG; simp [List.getD_eq_getElem?_getD,ht0,ht1,wLet,u4z,u3u,u3i]
    have HU:=hid (fun w'=>foldWord_188 w' op)
    obtain ⟨fw,hfw⟩:∃ t,u2x op=t:=⟨_,rfl⟩
    rw [hfw] at hb HU
    rw [hb] at hlen
    simp only [List.length_append,List.length_cons,List.length_nil] at hlen
    rw [hlm,ho]
    have a1:=add_r3 [97,116,111,109,105,99,32] fw ⟨#[97,116,111,109,105,99,32]⟩ rfl (by first | omega | (simp; omega))
    obtain ⟨P1,hP1⟩:∃ P,[97,116,111,109,105,99,32]++fw=P:=⟨_,rfl⟩
    have l1:P1.length=([97,116,111,109,105,99,32]:List UInt8).length+fw.length:=by rw [← hP1,List.length_append]
    (try simp only [List.length_cons,List.length_nil] at l1)
    rw [hP1] at a1 hb
    have a2:=u1z P1 [32] ⟨#[32]⟩ rfl (by first | omega | (simp; omega))
    obtain ⟨P2,hP2⟩:∃ P,P1++[32]=P:=⟨_,rfl⟩
    have l2:P2.length=P1.length+([32]:List UInt8).length:=by rw [← hP2,List.length_append]
    (try simp only [List.length_cons,List.length_nil] at l2)
    rw [hP2] at a2 hb
    have a3:=u3m P2 name (by first | omega | (simp; omega))
    obtain ⟨P3,hP3⟩:∃ P,P2++name=P:=⟨_,rfl⟩
    have l3:P3.length=P2.length+name.length:=by rw [← hP3,List.length_append]
    (try simp only [List.length_cons,List.length_nil] at l3)
    rw [hP3] at a3 hb
    have a4:=u1z P3 [32,91,32] ⟨#[32,91,32]⟩ rfl (by first | omega | (simp; omega))
    obtain ⟨P4,hP4⟩:∃ P,P3++[32,91,32]=P:=⟨_,rfl⟩
    have l4:P4.length=P3.length+([32,91,32]:List UInt8).length:=by rw [← hP4,List.length_append]
    (try simp only [List.length_cons,List.length_nil] at l4)
    rw [hP4] at a4 hb
    have a5:=u3m P4 t0 (by first | omega | (simp; omega))
    obtain ⟨P5,hP5⟩:∃ P,P4++t0=P:=⟨_,rfl⟩
    have l5:P5.length=P4.length+t0.length:=by rw [← hP5,List.length_append]
    (try simp only [List.length_cons,List.length_nil] at l5)
    rw [hP5] at a5 hb
    have a6:=u1z P5 [32,93,32,44,32] ⟨#[32,93,32,44,32]⟩ rfl (by first | omega | (simp; omega))
    obtain ⟨P6,hP6⟩:∃ P,P5++[32,93,32,44,32]=P:=⟨_,rfl⟩
    have l6:P6.length=P5.length+([32,93,32,44,32]:List UInt8).length:=by rw [← hP6,List.length_append]
    (try simp only [List.length_cons,List.length_nil] at l6)
    rw [hP6] at a6 hb
    have a7:=u3m P6 t1 (by first | omega | (simp; omega))
    obtain ⟨P7,hP7⟩:∃ P,P6++t1=P:=⟨_,rfl⟩
    have l7:P7.length=P6.length+t1.length:=by rw [← hP7,List.length_append]
    (try simp only [List.length_cons,List.length_nil] at l7)
    rw [hP7] at a7 hb
    have a8:=u1z P7 [32,59] ⟨#[32,59]⟩ rfl (by first | omega | (simp; omega))
    obtain ⟨P8,hP8⟩:∃ P,P7++[32,59]=P:=⟨_,rfl⟩
    have l8:P8.length=P7.length+([32,59]:List UInt8).length:=by rw [← hP8,List.length_append]
    (try simp only [List.length_cons,List.length_nil] at l8)
    rw [hP8] at a8 hb
    have HBD:=hid hb
    clear hb hlen hP1 l1 hP2 l2 hP3 l3 hP4 l4 hP5 l5 hP6 l6 hP7 l7 hP8 l8 hat ht0 ht1 hsh hfw HKL HOK
    go_wp2_with fail
    go_region_held3 (fun w'=>w'.cell? ⟨w.heap.size,1,none⟩=some (.int .i64 op)∧w'.cell? ⟨w.heap.size,2,none⟩=some (.string (bs name))∧w'.cell? ⟨g,0,none⟩=some (.string (bs t0))∧w'.cell? ⟨g,1,none⟩=some (.string (bs t1))) (first | exact ⟨xe1,xe2,hc0,hc1⟩ | exact ⟨(hb1.cell hqz).trans xe1,(hb1.cell hqz).trans xe2,(hb1.cell hg0).trans hc0,(hb1.cell hg0).trans hc1⟩) ((first | (go_at_call 188; refine (HU.out _).mono ?_; rintro e w1 ⟨rfl,hb1⟩)))
    all_goals
     have HB1:=hid hb1
     clear hb1
     go_wp2
     go_ret
     rw [HBD.out]
     exact ⟨rfl,by first | exact seq HBW.out HB1.out | exact (seq HBW.out HB1.out).drew | exact seq HBW.out (seq (Below.refl _ _).drew HB1.out) | exact (seq HBW.out (seq (Below.refl _ _).drew HB1.out)).drew | exact seq HBW.out (seq (u1b _ _) HB1.out) | exact seq (seq HBW.out (seq (u1b _ _) HB1.out)) (u1b _ _)⟩
   ·have ho:exprs.length=1:=by unfold u0u at hsh; simp at hsh; omega
    obtain ⟨t0,ht0⟩:∃ t,(exprs.map gE)[0]? = some t:=⟨(exprs.map gE)[0]'(by omega),List.getElem?_eq_getElem (by omega)⟩
    obtain ⟨g,rfl,_,hg0,hc0⟩:=hat 0 t0 ht0
    have hb:stG 10 op name (exprs.map gE) (gSs body) (gSs els) els.isEmpty=[99,111,108,108,101,99,116,32]++name++[32,61,32]++u2x op++[32]++t0++[32,59]:=by unfold stG; simp [List.getD_eq_getElem?_getD,ht0,wLet,u4z,u3u,u3i]
    have HU:=hid (fun w'=>foldWord_188 w' op)
    obtain ⟨fw,hfw⟩:∃ t,u2x op=t:=⟨_,rfl⟩
    rw [hfw] at hb HU
    rw [hb] at hlen
    simp only [List.length_append,List.length_cons,List.length_nil] at hlen
    rw [hlm,ho]
    have a1:=add_r3 [99,111,108,108,101,99,116,32] name ⟨#[99,111,108,108,101,99,116,32]⟩ rfl (by first | omega | (simp; omega))
    obtain ⟨P1,hP1⟩:∃ P,[99,111,108,108,101,99,116,32]++name=P:=⟨_,rfl⟩
    have l1:P1.length=([99,111,108,108,101,99,116,32]:List UInt8).length+name.length:=by rw [← hP1,List.length_append]
    (try simp only [List.length_cons,List.length_nil] at l1)
    rw [hP1] at a1 hb
    have a2:=u1z P1 [32,61,32] ⟨#[32,61,32]⟩ rfl (by first | omega | (simp; omega))
    obtain ⟨P2,hP2⟩:∃ P,P1++[32,61,32]=P:=⟨_,rfl⟩
    have l2:P2.length=P1.length+([32,61,32]:List UInt8).length:=by rw [← hP2,List.length_append]
    (try simp only [List.length_cons,List.length_nil] at l2)
    rw [hP2] at a2 hb
    have a3:=u3m P2 fw (by first | omega | (simp; omega))
    obtain ⟨P3,hP3⟩:∃ P,P2++fw=P:=⟨_,rfl⟩
    have l3:P3.length=P2.length+fw.length:=by rw [← hP3,List.length_append]
    (try simp only [List.length_cons,List.length_nil] at l3)
    rw [hP3] at a3 hb
    have a4:=u1z P3 [32] ⟨#[32]⟩ rfl (by first | omega | (simp; omega))
    obtain ⟨P4,hP4⟩:∃ P,P3++[32]=P:=⟨_,rfl⟩
    have l4:P4.length=P3.length+([32]:List UInt8).length:=by rw [← hP4,List.length_append]
    (try simp only [List.length_cons,List.length_nil] at l4)
    rw [hP4] at a4 hb
    have a5:=u3m P4 t0 (by first | omega | (simp; omega))
    obtain ⟨P5,hP5⟩:∃ P,P4++t0=P:=⟨_,rfl⟩
    have l5:P5.length=P4.length+t0.length:=by rw [← hP5,List.length_append]
    (try simp only [List.length_cons,List.length_nil] at l5)
    rw [hP5] at a5 hb
    have a6:=u1z P5 [32,59] ⟨#[32,59]⟩ rfl (by first | omega | (simp; omega))
    obtain ⟨P6,hP6⟩:∃ P,P5++[32,59]=P:=⟨_,rfl⟩
    have l6:P6.length=P5.length+([32,59]:List UInt8).length:=by rw [← hP6,List.length_append]
    (try simp only [List.length_cons,List.length_nil] at l6)
    rw [hP6] at a6 hb
    have HBD:=hid hb
    clear hb hlen hP1 l1 hP2 l2 hP3 l3 hP4 l4 hP5 l5 hP6 l6 hat ht0 hsh hfw HKL HOK
    go_wp2_with fail
    go_region_held3 (fun w'=>w'.cell? ⟨w.heap.size,1,none⟩=some (.int .i64 op)∧w'.cell? ⟨w.heap.size,2,none⟩=some (.string (bs name))∧w'.cell? ⟨g,0,none⟩=some (.string (bs t0))) (first | exact ⟨xe1,xe2,hc0⟩ | exact ⟨(hb1.cell hqz).trans xe1,(hb1.cell hqz).trans xe2,(hb1.cell hg0).trans hc0⟩) ((first | (go_at_call 188; refine (HU.out _).mono ?_; rintro e w1 ⟨rfl,hb1⟩)))
    all_goals
     have HB1:=hid hb1
     clear hb1
     go_wp2
     go_ret
     rw [HBD.out]
     exact ⟨rfl,by first | exact seq HBW.out HB1.out | exact (seq HBW.out HB1.out).drew | exact seq HBW.out (seq (Below.refl _ _).drew HB1.out) | exact (seq HBW.out (seq (Below.refl _ _).drew HB1.out)).drew | exact seq HBW.out (seq (u1b _ _) HB1.out) | exact seq (seq HBW.out (seq (u1b _ _) HB1.out)) (u1b _ _)⟩
theorem shapeS_kind {k o:Int} {x:List UInt8} {n:Nat} {nb ne:Bool} (h:u0u u0f k o x n nb ne=true):(k=0∨k=1∨k=2∨k=5∨k=6∨k=7∨k=8)∨(k=3∨k=4)∨(k=9∨k=10):=by
 rcases Decidable.em ((k=0∨k=1∨k=2∨k=5∨k=6∨k=7∨k=8)∨(k=3∨k=4)∨(k=9∨k=10)) with h1 | h1
 ·exact h1
 ·simp only [not_or] at h1
  obtain ⟨⟨a0,a1,a2,a5,a6,a7,a8⟩,⟨a3,a4⟩,a9,a10⟩:=h1
  unfold u0u at h
  rw [if_neg (by omega),if_neg a2,if_neg a3,if_neg a4,if_neg (by omega),if_neg a7,if_neg a9,if_neg a10] at h
  cases h
theorem st_text (kind op:Int) (name:List UInt8) (exprs:List Ex) (body els:List St) (hb:TSl body) (he:TSl els):TSt (.mk kind op name exprs body els):=by
 intro w k o x A m c B mb cb C mc cc hok hp hr hg
 have hlen:=gS_len hok hp
 rw [RS_eq] at hr
 obtain ⟨E,F,G,hc,s1,s2,s3⟩:=hr
 simp only [stRow,List.cons.injEq,Value.int.injEq,Value.string.injEq,true_and,and_true] at hc
 obtain ⟨e1,e2,e3,e4,e5,e6⟩:=hc
 have e3:=bs_inj e3
 subst e1; subst e2; subst e3; subst e4; subst e5; subst e6
 have l1:=slE_len s1
 have l2:=u4g s2
 have l3:=u4g s3
 subst l1; subst l2; subst l3
 rw [rgS] at hg
 obtain ⟨hx,⟨gx1,gx2⟩,⟨gb1,gb2⟩,⟨ge1,ge2⟩⟩:=hg
 rw [okS] at hok
 simp only [Bool.and_eq_true] at hok
 obtain ⟨⟨⟨hs,hes⟩,hob⟩,hoe⟩:=hok
 rw [u3y] at hp
 have p1:=u2m exprs
 have p2:=u1q body
 have p3:=u1q els
 rw [gS] at hlen ⊢
 have hes:okEs u0f exprs=true:=by rw [u5d]; exact hes
 have hB:∀ w',Below w.heap.size w w'→Calls Tryz.prog 104 #[.slice B body.length cb] w' fun e' w2=>e'=.returned (.string (bs (gSs body)))∧Below w'.heap.size w' w2:=fun w' h=>hb w' B body.length cb hob (by omega) (u4r s2 h) gb2 gb1
 have hC:∀ w',Below w.heap.size w w'→Calls Tryz.prog 104 #[.slice C els.length cc] w' fun e' w2=>e'=.returned (.string (bs (gSs els)))∧Below w'.heap.size w' w2:=fun w' h=>he w' C els.length cc hoe (by omega) (u4r s3 h) ge2 ge1
 rcases shapeS_kind hs with h | h | h
 ·exact st_text_a k o x exprs body els w A c B cb C cc hes hs (by omega) hlen s1 gx2 hB hC h
 ·exact st_text_b k o x exprs body els w A c B cb C cc hes hs (by omega) hlen s1 gx2 hB hC h
 ·exact st_text_c k o x exprs body els w A c B cb C cc hes hs (by omega) hlen s1 gx2 hB hC h
theorem gSs_take (l:List St):∀ k a,l[k]? = some a→gSs (l.take (k+1))=gSs (l.take k)++[32]++gS a:=by
 induction l with
 | nil=>intro k a h; simp at h
 | cons e r ih =>
  intro k a h
  cases k with
  | zero=>simp at h; subst h; simp [gSs]
  | succ k =>
   rw [List.take_succ_cons,List.take_succ_cons,gSs,gSs,ih k a (by simpa using h)]
   simp
theorem gSs_le (l:List St):∀ k,(gSs (l.take k)).length≤(gSs l).length:=by
 induction l with
 | nil=>intro k; simp
 | cons e r ih =>
  intro k
  cases k with
  | zero=>simp [gSs]
  | succ k =>
   have:=ih k
   rw [List.take_succ_cons,gSs,gSs]
   simp only [List.length_cons,List.length_append]
   omega
theorem partsSs_mem:∀ {l:List St} {a:St},a∈l→u3y a≤u0r l
 | e :: r,a,h=>by
  rw [u0r]
  have h1:=u1q r
  rcases List.mem_cons.1 h with rfl | h
  ·omega
  ·have:=partsSs_mem h
   have:=partsS_pos e
   omega
theorem okSs_mem:∀ {l:List St},okSs u0f l=true→∀ a∈l,okS u0f a=true
 | e :: r,h,a,ha=>by
  rw [okSs,Bool.and_eq_true] at h
  rcases List.mem_cons.1 ha with rfl | ha
  ·exact h.1
  ·exact okSs_mem h.2 a ha
theorem sts_text (l:List St) (hl:∀ a∈l,TSt a):TSl l:=by
 intro w A m c hok hp hs hg hll
 have hm1:=u4g hs
 subst hm1
 have hlen:=gSs_len hok hp
 have HS:=hid hs
 have HL:=hid hl
 have HG:=hid hg
 have HOK:=hid (okSs_mem hok)
 have HP:=hid hp
 clear hs hl hg hok hp
 go_enter Tryz.func104,Tryz.ntmps104
 go_wp2_with fail
 go_loopw [3,4] (fun s i wr=>∃ (k:Nat) (P:List UInt8),k≤l.length∧i=.int .i64 k∧s=.string (bs P)∧gSs (l.take k)=P∧Below w.heap.size w wr) (fun _ i _=>l.length - (intOf i).toNat)
 case atStart=>exact ⟨0,[],Nat.zero_le _,rfl,rfl,by rw [List.take_zero,gSs],Below.refl _ _⟩
 case round =>
  obtain ⟨k,P,hk,rfl,rfl,hP,hbr⟩:=hrel
  obtain ⟨wo,rfl⟩:∃ z,z=wr:=⟨_,rfl⟩
  have HBR:=hid hbr
  by_cases hlt:k<l.length
  ·obtain ⟨a,ha⟩:∃ a,l[k]? = some a:=⟨l[k],List.getElem?_eq_getElem hlt⟩
   obtain ⟨g,o,rfl,_,hPg,hrows⟩:=u9t (u4r HS.out hbr) (by omega)
   have hmem:=List.mem_of_getElem? ha
   have hT:=gSs_take l k a ha
   have hle:=gSs_le l (k+1)
   rw [hP] at hT
   rw [hT] at hle
   simp only [List.length_append,List.length_cons,List.length_nil] at hle
   obtain ⟨sk,so,x,xA,xm,xc,xB,xmb,xcb,xC,xmc,xcc,⟨c0,c1,c2,c3,c4,c5⟩,hrx⟩:=hrows k _ ha
   have hin:(0:Int)≤k∧(k:Int)<l.length:=⟨by omega,by omega⟩
   have hC:=HL.out a hmem wo sk so x xA xm xc xB xmb xcb xC xmc xcc (HOK.out a hmem) (by have:=partsSs_mem hmem; have:=HP.out; omega) hrx (rgSs_at HG.out a hmem)
   obtain ⟨t,ht⟩:∃ t,gS a=t:=⟨_,rfl⟩
   rw [ht] at hC hT hle
   have a1:=u1z P [32] ⟨#[32]⟩ rfl (by simp; omega)
   obtain ⟨P1,hP1⟩:∃ Q,P++[32]=Q:=⟨_,rfl⟩
   have l1:P1.length=P.length+1:=by rw [← hP1]; simp
   rw [hP1] at a1 hT
   have a2:=u3m P1 t (by omega)
   obtain ⟨P2,hP2⟩:∃ Q,P1++t=Q:=⟨_,rfl⟩
   rw [hP2] at a2 hT
   have HC:=hid hC
   have HT:=hid hT
   clear hrows hrx ha hT hC hbr hmem hle hP hP1 hP2 ht l1
   go_wp2_with fail
   refine HC.out.mono ?_
   rintro e w3 ⟨rfl,hb3⟩
   have HB3:=hid (seq HBR.out hb3)
   clear hb3
   go_wp2
   go_roundw
   case rel=>exact ⟨k+1,_,by omega,by go_num,rfl,HT.out,HB3.out⟩
   case measure=>simp [intOf]; omega
  ·have ht:l.take k=l:=List.take_of_length_le (by omega)
   rw [ht] at hP
   have HP2:=hid hP
   clear hbr hP
   go_wp2
   go_ret
   rw [HP2.out]
   exact ⟨rfl,HBR.out⟩
mutual
theorem st_all:(s:St)→TSt s
 | .mk kind op name exprs body els=>st_text kind op name exprs body els (sts_text body (sts_mem body)) (sts_text els (sts_mem els))
theorem sts_mem:(l:List St)→∀ a∈l,TSt a
 | [],_,h=>by cases h
 | e :: r,a,h=>by
  rcases List.mem_cons.1 h with h1 | h1
  ·rw [h1]; exact st_all e
  ·exact sts_mem r a h1
end
theorem stmtsText_104 (l:List St):TSl l:=sts_text l (sts_mem l)
theorem PgAr.below {w w':World} {A:Option Addr} {m c:Nat} {B:Option Addr} {mb cb:Nat} {q:Pg} (h:PgAr w A m c B mb cb q) (k:Below w.heap.size w w'):PgAr w' A m c B mb cb q :=
 ⟨h.f.keeps u4c (u0w k fun _ hb=>hb) (fun _ hb=>Nat.lt_of_lt_of_le hb k.size),h.k.keeps u4j (u0w k fun _ hb=>hb) (fun _ hb=>Nat.lt_of_lt_of_le hb k.size),h.gf,h.gk,h.lf,h.lk⟩
theorem text_ar (q:Pg) (w:World) (A:Option Addr) (m c:Nat) (B:Option Addr) (mb cb:Nat) (hG:Gl w) (hp:PgAr w A m c B mb cb q) (hsm:fitP q=true→q.fns.length+q.krs.length≤4001) :
  Calls Tryz.prog 22 #[.agg #[.slice A m c,.slice B mb cb]] w fun e w'=>e=.returned (.tuple #[.string (bs (u6w q).1),.int .i64 (u6w q).2])∧Below w.heap.size w w':=by
 have hM:∀ w1,Below w.heap.size w w1→Calls Tryz.prog 53 #[.agg #[.slice A m c,.slice B mb cb]] w1 fun e w'=>Below w1.heap.size w1 w'∧∃ p2 d2:Int,e=.returned (.tuple #[.agg #[.int .i64 p2,.int .i64 d2],.bool (fitP q)])∧(fitP q=true→p2=u9j q∧d2=depthP q) :=
  fun w1 h1=>u6r q w1 A m c B mb cb (hG.bel h1).z (hG.bel h1).tabs (hp.below h1).f (hp.below h1).k hp.gf hp.gk hp.lf hp.lk
 have HM:=hid hM
 clear hM
 cases hb:fitP q
 ·have hv:u6w q=([],1):=by unfold u6w u2p; rw [hb]; rfl
  rw [hv]
  have HB:=hid hb
  clear hv hb hp hsm
  go_enter Tryz.func22,Tryz.ntmps22
  go_wp2_with fail
  refine (HM.out _ (u0j _ _)).mono ?_
  rintro e w1 ⟨hb1,p2,d2,rfl,-⟩
  rw [HB.out]
  have HB1:=hid (seq (u0j _ _) hb1)
  clear hb1
  go_wp2
  go_ret2
  exact ⟨rfl,by have:=HB1.out; exact seq (seq this (u0j _ _)) tBEL⟩
 ·have hr:=fit_room hb (hsm hb)
  have hW:∀ w1,Below w.heap.size w w1→Calls Tryz.prog 54 #[.agg #[.slice A m c,.slice B mb cb]] w1 fun e w'=>e=.returned (.string (bs (writ q)))∧Below w1.heap.size w1 w' :=
   fun w1 h1=>programText_w fmtU itoS q (fitP_ok hb) w1 (hG.bel h1).glob (hG.bel h1).pow (hG.bel h1).z A m c B mb cb (hp.below h1).f (hp.below h1).k hr.1 hr.2
  have HW:=hid hW
  have HB:=hid hb
  have hlt:decide ((4000:Int)<((bs (writ q)).size:Nat)) = !decide ((writ q).length≤4000):=by rw [u3t]; by_cases h:(writ q).length≤4000 <;> simp [h] <;> omega
  have hv:u6w q=if (writ q).length≤4000 then (writ q,0) else ([],1):=by unfold u6w u2p; rw [hb]; simp
  rw [hv]
  clear hv hb hp hW hr hsm
  by_cases h4:(writ q).length≤4000
  ·rw [if_pos h4]
   simp only [h4,decide_true,Bool.not_true] at hlt
   clear h4
   go_enter Tryz.func22,Tryz.ntmps22
   go_wp2_with fail
   refine (HM.out _ (u0j _ _)).mono ?_
   rintro e w1 ⟨hb1,p2,d2,rfl,-⟩
   rw [HB.out]
   obtain ⟨_,_,_,k0⟩:=u0a (q:=w.heap.size) (u0d hb1 (some 1)) tLOC (by have:=hG.z; omega)
   have HB1:=hid (seq (u0j _ _) hb1)
   clear hb1
   go_wp2_with fail
   refine (HW.out _ (seq HB1.out ((u0j _ _).trans tBEL))).mono ?_
   rintro e w2 ⟨rfl,hb2⟩
   have HB2:=hid (seq (seq HB1.out (u0j _ (.cells #[.int .i64 p2,.int .i64 d2] 96))) hb2)
   clear hb2
   go_wp2
   go_ret2
   exact ⟨rfl,HB2.out⟩
  ·rw [if_neg h4]
   simp only [h4,decide_false,Bool.not_false] at hlt
   clear h4
   go_enter Tryz.func22,Tryz.ntmps22
   go_wp2_with fail
   refine (HM.out _ (u0j _ _)).mono ?_
   rintro e w1 ⟨hb1,p2,d2,rfl,-⟩
   rw [HB.out]
   obtain ⟨_,_,_,k0⟩:=u0a (q:=w.heap.size) (u0d hb1 (some 1)) tLOC (by have:=hG.z; omega)
   have HB1:=hid (seq (u0j _ _) hb1)
   clear hb1
   go_wp2_with fail
   refine (HW.out _ (seq HB1.out ((u0j _ _).trans tBEL))).mono ?_
   rintro e w2 ⟨rfl,hb2⟩
   have HB2:=hid (seq (seq HB1.out (u0j _ (.cells #[.int .i64 p2,.int .i64 d2] 96))) hb2)
   clear hb2
   go_wp2
   go_ret2
   exact ⟨rfl,HB2.out⟩
theorem valid_ar (q:Pg) (w:World) (A:Option Addr) (m c:Nat) (B:Option Addr) (mb cb:Nat) (hG:Gl w) (hp:PgAr w A m c B mb cb q) (hsm:fitP q=true→q.fns.length+q.krs.length≤4001) :
  Calls Tryz.prog 26 #[.agg #[.slice A m c,.slice B mb cb]] w fun e w'=>e=.returned (.bool (u2p q))∧Below w.heap.size w w':=by
 have hT:=text_ar q _ A m c B mb cb (hG.alloc (.cells #[.slice A m c,.slice B mb cb] 26)) (hp.below (u0j _ _)) hsm
 have hv:(u6w q).2=if u2p q then 0 else 1:=by unfold u6w; split <;> rfl
 obtain ⟨x,hx⟩:∃ x,bs (u6w q).1=x:=⟨_,rfl⟩
 rw [hv,hx] at hT
 clear hv hx
 cases hb:u2p q
 ·rw [hb] at hT
  simp only [Bool.false_eq_true,if_false] at hT
  have HT:=hid hT
  clear hT hb hp hsm
  go_enter Tryz.func26,Tryz.ntmps26
  go_wp2_with fail
  refine HT.out.mono ?_
  rintro e w1 ⟨rfl,hb1⟩
  have HB1:=hid (seq (u0j _ _) hb1)
  clear hb1
  go_wp2
  go_ret
  exact ⟨rfl,HB1.out⟩
 ·rw [hb] at hT
  simp only [if_true] at hT
  have HT:=hid hT
  clear hT hb hp hsm
  go_enter Tryz.func26,Tryz.ntmps26
  go_wp2_with fail
  refine HT.out.mono ?_
  rintro e w1 ⟨rfl,hb1⟩
  have HB1:=hid (seq (u0j _ _) hb1)
  clear hb1
  go_wp2
  go_ret
  exact ⟨rfl,HB1.out⟩
theorem fm_take {α:Type} (f:α→List UInt8) (l:List α) (k:Nat) (a:α) (h:l[k]? = some a):(l.take (k+1)).flatMap f=(l.take k).flatMap f++f a:=by
 rw [List.take_add_one,h,List.flatMap_append]; simp
theorem fm_le {α:Type} (f:α→List UInt8) (l:List α) (k:Nat):((l.take k).flatMap f).length≤(l.flatMap f).length:=by
 conv=>rhs; rw [← List.take_append_drop k l,List.flatMap_append,List.length_append]
 omega
theorem commas_sl (L:List (List UInt8)) (hL:(u1c L).length≤1000000) (hn:L.length≤1000000) (w:World) (A:Option Addr) (m c:Nat) (hv:SlR rdN 1 (fun g=>g<w.heap.size) w (.slice A m c) L) :
  Calls Tryz.prog 103 #[.slice A m c] w fun e w'=>e=.returned (.string (bs (u1c L)))∧Below w.heap.size w w':=by
 have hm:=hv.len
 subst hm
 have HV:=hid hv
 clear hv
 go_enter Tryz.func103,Tryz.ntmps103
 go_wp2_with fail
 go_loopw [3,4] (fun s i wr=>∃ (k:Nat),k≤L.length∧i=.int .i64 k∧s=.string (bs (u1c (L.take k)))∧Below w.heap.size w wr) (fun _ i _=>L.length - (intOf i).toNat)
 case atStart=>exact ⟨0,Nat.zero_le _,rfl,rfl,Below.refl _ _⟩
 case round =>
  obtain ⟨k,hk,rfl,rfl,hbr⟩:=hrel
  obtain ⟨wo,rfl⟩:∃ z,z=wr:=⟨_,rfl⟩
  have HBR:=hid hbr
  by_cases hlt:k<L.length
  ·obtain ⟨t,ht⟩:∃ t,L[k]? = some t:=⟨L[k],List.getElem?_eq_getElem hlt⟩
   obtain ⟨g,o,rfl,_,hPg,hrows⟩:=u2c (by decide) (fun P w cs a h=>⟨.string (bs a),by unfold rdN at h; subst h; rfl⟩) (u1m u2t hbr HV.out) (by omega)
   obtain ⟨cs,hcs,hrd⟩:=hrows k t ht
   have hrd:cs=[.string (bs t)]:=hrd
   subst hrd
   have d0:=hcs 0 _ rfl
   simp only [Nat.mul_one,Nat.add_zero] at d0
   have hin:(0:Int)≤k∧(k:Int)<L.length:=⟨by omega,by omega⟩
   have hT:=commasL_take ht
   have hle:=commasL_le (L:=L) (k+1)
   by_cases h0:0<k
   ·rw [if_pos h0] at hT
    have hle2:=hle
    rw [hT] at hle2
    simp only [List.length_append,List.length_cons,List.length_nil] at hle2
    have a1:=u1z (u1c (L.take k)) [32,44] ⟨#[32,44]⟩ rfl (by simp; omega)
    have a2:=u1z (u1c (L.take k)++[32,44]) [32] ⟨#[32]⟩ rfl (by simp; omega)
    have a3:=u3m (u1c (L.take k)++[32,44]++[32]) t (by simp; omega)
    have hT:u1c (L.take (k+1))=u1c (L.take k)++[32,44]++[32]++t:=by rw [hT]; simp
    obtain ⟨P0,hP0⟩:∃ P,u1c (L.take k)=P:=⟨_,rfl⟩
    rw [hP0] at a1 a2 a3 hT ⊢
    obtain ⟨P1,hP1⟩:∃ P,P0++[32,44]=P:=⟨_,rfl⟩
    rw [hP1] at a1 a2 a3 hT
    obtain ⟨P2,hP2⟩:∃ P,P1++[32]=P:=⟨_,rfl⟩
    rw [hP2] at a2 a3 hT
    obtain ⟨P3,hP3⟩:∃ P,P2++t=P:=⟨_,rfl⟩
    rw [hP3] at a3 hT
    have HT:=hid hT
    clear hbr hrows hcs ht hT hle hle2 hP0 hP1 hP2 hP3
    go_wp2
    go_roundw
    case rel=>exact ⟨k+1,by omega,by go_num,by rw [HT.out],HBR.out⟩
    case measure=>simp [intOf]; omega
   ·have hk0:k=0:=by omega
    subst hk0
    simp only [Nat.add_zero] at d0
    rw [if_neg h0] at hT
    have hle2:=hle
    rw [hT] at hle2
    simp only [List.length_append,List.length_cons,List.length_nil] at hle2
    have e0:u1c (L.take 0)=[]:=by simp [u1c]
    have a2:=u1z [] [32] ⟨#[32]⟩ rfl (by simp)
    have a3:=u3m [32] t (by simp; omega)
    have hT:u1c (L.take (0+1))=[32]++t:=by rw [hT]; simp
    have e1:([]:List UInt8)++[32]=[32]:=rfl
    rw [e1] at a2
    obtain ⟨E0,hE0⟩:∃ P,bs []=P:=⟨_,rfl⟩
    obtain ⟨P2,hP2⟩:∃ P,bs [32]=P:=⟨_,rfl⟩
    obtain ⟨P3,hP3⟩:∃ P,[32]++t=P:=⟨_,rfl⟩
    rw [e0]
    rw [hP2] at a2 a3
    rw [hP3] at a3 hT
    rw [hE0] at a2 ⊢
    have HT:=hid hT
    clear hbr hrows hcs ht hT hle hle2 e0 e1 hP2 hP3 hE0
    go_wp2
    go_roundw
    case rel=>exact ⟨1,by omega,by go_num,by rw [HT.out],HBR.out⟩
    case measure=>simp [intOf]; omega
  ·have ht:L.take k=L:=List.take_of_length_le (by omega)
   rw [ht]
   clear hbr
   go_wp2
   go_ret
   exact ⟨rfl,HBR.out⟩
def gF (f:Fn):List UInt8:=gI f.it
def gK (f:Kr):List UInt8:=gI f.it
theorem its_gI (q:Pg):q.its.flatMap gI=q.fns.flatMap gF++q.krs.flatMap gK:=by
 unfold Pg.its gF gK
 rw [List.flatMap_append,List.flatMap_map,List.flatMap_map]
theorem gF_eq (f:Fn):gF f=[32,102,117,110,99,32]++f.name++[32,40]++u1c f.params++[32,41,32,123]++gSs f.body++[32,125]:=by
 unfold gF Fn.it gI
 simp [u8z,u8u]
def hK (f:Kr):List UInt8:=[32,107,101,114,110,101,108,32]++f.name++[32,40]++u1c (f.params.map u8a)++[32,41,32,123]
theorem gK_eq (f:Kr):gK f=hK f++f.shared.flatMap u7e++gSs f.body++[32,125]:=by
 unfold gK Kr.it gI hK
 simp [u7t,u8u]
theorem sharedG_eq (y:List UInt8) (n:Int) (h:0≤n):u7e (y,n)=[32,115,104,97,114,101,100,32]++y++[32,91,32]++decL n++[32,93,32,59]:=by
 have:decL n=dgL n:=by
  unfold decL dgL
  rw [if_neg (by omega)]
  congr 1
  omega
 unfold u7e
 rw [this]
 simp [u4e]
end Go.Proofs.YtbkhnilbgocpnaaGreatDoor.SynC
