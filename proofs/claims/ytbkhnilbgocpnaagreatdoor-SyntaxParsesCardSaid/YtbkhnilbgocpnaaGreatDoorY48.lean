import Derived.Deep.RegionHeld3
import Derived.BigQuiet
import Derived.Handy
import Derived.Test.YtbkhnilbgocpnaaGreatDoorY47
import Derived.Test.YtbkhnilbgocpnaaGreatDoorY44
set_option linter.unusedVariables false
set_option linter.unusedSimpArgs false
set_option maxRecDepth 100000
set_option maxHeartbeats 2000000
open Go.Lib (hid)
namespace Go.Proofs.YtbkhnilbgocpnaaGreatDoor.SynC
open Go.Proofs.YtbkhnilbgocpnaaGreatDoor.LexC
open Go Go.ChangeShapes Go.WideShapes Go.ChangeAt Go.RowKit Go.Deep
theorem st_text_b (kind op:Int) (name:List UInt8) (exprs:List Ex) (body els:List St) (w:World) (A:Option Addr) (c:Nat) (B:Option Addr) (cb:Nat) (C:Option Addr) (cc:Nat) (hok:okEs u0f exprs=true) (hsh:u0u u0f kind op name exprs.length body.isEmpty els.isEmpty=true) (hp:u0s exprs≤400)
  (hlen:(stG kind op name (exprs.map gE) (gSs body) (gSs els) els.isEmpty).length≤100000) (hs:SlE w (fun g=>g<w.heap.size) (.slice A exprs.length c) exprs) (hg:rgEs exprs)
  (hB:∀ w',Below w.heap.size w w'→Calls Tryz.prog 104 #[.slice B body.length cb] w' fun e' w2=>e'=.returned (.string (bs (gSs body)))∧Below w'.heap.size w' w2) (hC:∀ w',Below w.heap.size w w'→Calls Tryz.prog 104 #[.slice C els.length cc] w' fun e' w2=>e'=.returned (.string (bs (gSs els)))∧Below w'.heap.size w' w2) (hkind:kind=3∨kind=4) :
  Calls Tryz.prog 162 #[.agg #[.int .i64 kind,.int .i64 op,.string (bs name),.slice A exprs.length c,.slice B body.length cb,.slice C els.length cc]] w fun e' w'=>e'=.returned (.string (bs (stG kind op name (exprs.map gE) (gSs body) (gSs els) els.isEmpty)))∧Below w.heap.size w w':=by
 have h2:=u8k hsh
 rw [u5d] at hok
 have hok:=List.all_eq_true.1 hok
 have hkl:∀ a∈exprs,(gE a).length≤1000000:=fun a ha=>by have:=gE_len (hok a ha) (by have:=u9x ha; omega); omega
 have HKL:=hid hkl
 have HOK:=hid hok
 have HS:=hid hs
 have HG:=hid hg
 have HBT:=hid hB
 have HCT:=hid hC
 clear hkl hok hs hg hB hC hp
 go_enter Tryz.func162,Tryz.ntmps162
 go_wp2_with fail
 go_loopw [3,4] (fun s i wr=>∃ (k:Nat) (v:Value),k≤exprs.length∧i=.int .i64 k∧s=v∧OwnS wr (w.heap.size+1) v ((exprs.take k).map gE)∧Below (w.heap.size+1) (w.alloc (.cells #[.int .i64 kind,.int .i64 op,.string (bs name),.slice A exprs.length c,.slice B body.length cb,.slice C els.length cc] 136)) wr) (fun _ i _=>exprs.length - (intOf i).toNat)
 case atStart=>exact ⟨0,_,Nat.zero_le _,rfl,rfl,OwnS.nil _ _,Below.refl _ _⟩
 case round =>
  obtain ⟨k,v,hk,rfl,rfl,hown,hbr⟩:=hrel
  obtain ⟨wo,rfl⟩:∃ z,z=wr:=⟨_,rfl⟩
  have hzr:=hbr.size
  simp only [u0e] at hzr
  have le2:wo.heap[w.heap.size]? = some (.cells #[.int .i64 kind,.int .i64 op,.string (bs name),.slice A exprs.length c,.slice B body.length cb,.slice C els.length cc] 136 (0,0)):=(hbr.block _ (by omega)).trans (u0c _ _)
  have xe3:=cell_of_row _ _ 3 _ _ _ le2
  have hbw:Below w.heap.size w wo:=(u0j _ _).trans (hbr.mono (by omega))
  have HBR:=hid hbr
  have HBW:=hid hbw
  have HOWN:=hid hown
  have HLE:=hid le2
  by_cases hlt:k<exprs.length
  ·obtain ⟨a,ha⟩:∃ a,exprs[k]? = some a:=⟨exprs[k],List.getElem?_eq_getElem hlt⟩
   have hmem:=List.mem_of_getElem? ha
   obtain ⟨g,oo,rfl,_,hPg,hrows⟩:=u3n (u7z HS.out hbw) (by omega)
   obtain ⟨yk,yo,yn,yx,yA,ym,yc,⟨d0,d1,d2,d3,d4⟩,hrx⟩:=hrows k a ha
   have hin:(0:Int)≤k∧(k:Int)<exprs.length:=⟨by omega,by omega⟩
   have hC:=gt_all a wo _ _ _ _ _ _ _ (HOK.out a hmem) (HKL.out a hmem) hrx (u7v HG.out a hmem)
   have hT:(exprs.take (k+1)).map gE=(exprs.take k).map gE++[gE a]:=by rw [List.take_add_one,ha,List.map_append]; rfl
   have HC:=hid hC
   have HT:=hid hT
   clear hrows hrx ha hT hC hbr hbw hown le2 hmem
   go_wp2_with fail
   refine HC.out.mono ?_
   rintro e w3 ⟨rfl,hb3⟩
   have HB3:=hid hb3
   have hz3:=hb3.size
   have HOWN3:=hid (OwnS.below HOWN.out hb3)
   clear hb3
   go_wp2_with (refine u2q rfl _ _ rfl (w.heap.size+1) _ ((exprs.take k).map gE) (gE a) rfl (by exact HOWN3.out) w3.heap.size rfl rfl (by rw [List.length_map,List.length_take]; omega) (by omega) ?_; intro v' w4 ho4 hb4; have HO4:=hid ho4; have HB4:=hid hb4; clear ho4 hb4)
   go_roundw
   case rel=>exact ⟨k+1,_,by omega,by go_num,rfl,by rw [HT.out]; exact HO4.out,HBR.out.trans ((HB3.out.mono (by omega)).trans HB4.out)⟩
   case measure=>simp [intOf]; omega
  ·have ht:exprs.take k=exprs:=List.take_of_length_le (by omega)
   rw [ht] at HOWN
   obtain ⟨Q,cq,rfl,hat⟩:=HOWN.out.open_
   have hqz:w.heap.size<wo.heap.size:=by omega
   have xe0:=cell_of_row _ _ 0 _ _ _ le2
   have xe1:=cell_of_row _ _ 1 _ _ _ le2
   have xe2:=cell_of_row _ _ 2 _ _ _ le2
   have xe4:=cell_of_row _ _ 4 _ _ _ le2
   have xe5:=cell_of_row _ _ 5 _ _ _ le2
   have hlm:(exprs.map gE).length=exprs.length:=List.length_map _
   clear hbr hbw hown
   rcases hkind with rfl | rfl
   ·have ho:exprs.length=1:=by unfold u0u at hsh; simp at hsh; omega
    obtain ⟨t0,ht0⟩:∃ t,(exprs.map gE)[0]? = some t:=⟨(exprs.map gE)[0]'(by omega),List.getElem?_eq_getElem (by omega)⟩
    obtain ⟨g,rfl,_,hg0,hc0⟩:=hat 0 t0 ht0
    obtain ⟨ne,hne⟩:∃ ne,els.isEmpty=ne:=⟨_,rfl⟩
    have hel:els.length=0↔ne=true:=by rw [← hne]; cases els <;> simp
    rw [hne] at hlen
    have hb:stG 3 op name (exprs.map gE) (gSs body) (gSs els) els.isEmpty=if ne then [105,102,32]++t0++[32,123]++gSs body++[32,125] else [105,102,32]++t0++[32,123]++gSs body++[32,125]++[32,101,108,115,101,32,123]++gSs els++[32,125]:=by rw [hne]; unfold stG; cases ne <;> simp [List.getD_eq_getElem?_getD,ht0,wIf,wElse,u8u]
    rw [← hne] at hlen
    rw [hb] at hlen
    obtain ⟨b0,hb0⟩:∃ t,gSs body=t:=⟨_,rfl⟩
    rw [hb0] at hb hlen HBT
    have HB0:=hid hb0
    obtain ⟨c0,hc0x⟩:∃ t,gSs els=t:=⟨_,rfl⟩
    rw [hc0x] at hb hlen HCT
    have HC0:=hid hc0x
    have hl1:t0.length+b0.length≤100000:=by cases ne <;> simp at hlen <;> omega
    have hl2:ne=false→t0.length+b0.length+c0.length≤100000:=fun h=>by subst h; simp at hlen; omega
    rw [hlm,ho]
    have a1:=add_r3 [105,102,32] t0 ⟨#[105,102,32]⟩ rfl (by first | omega | (simp; omega))
    obtain ⟨P1,hP1⟩:∃ P,[105,102,32]++t0=P:=⟨_,rfl⟩
    have l1:P1.length=([105,102,32]:List UInt8).length+t0.length:=by rw [← hP1,List.length_append]
    (try simp only [List.length_cons,List.length_nil] at l1)
    rw [hP1] at a1 hb
    have a2:=u1z P1 [32,123] ⟨#[32,123]⟩ rfl (by first | omega | (simp; omega))
    obtain ⟨P2,hP2⟩:∃ P,P1++[32,123]=P:=⟨_,rfl⟩
    have l2:P2.length=P1.length+([32,123]:List UInt8).length:=by rw [← hP2,List.length_append]
    (try simp only [List.length_cons,List.length_nil] at l2)
    rw [hP2] at a2 hb
    have a3:=u3m P2 b0 (by first | omega | (simp; omega))
    obtain ⟨P3,hP3⟩:∃ P,P2++b0=P:=⟨_,rfl⟩
    have l3:P3.length=P2.length+b0.length:=by rw [← hP3,List.length_append]
    (try simp only [List.length_cons,List.length_nil] at l3)
    rw [hP3] at a3 hb
    have a4:=u1z P3 [32,125] ⟨#[32,125]⟩ rfl (by first | omega | (simp; omega))
    obtain ⟨P4,hP4⟩:∃ P,P3++[32,125]=P:=⟨_,rfl⟩
    have l4:P4.length=P3.length+([32,125]:List UInt8).length:=by rw [← hP4,List.length_append]
    (try simp only [List.length_cons,List.length_nil] at l4)
    rw [hP4] at a4 hb
    cases ne
    ·have hl3:=hl2 rfl
     simp only [Bool.false_eq_true,if_false] at hb
     have a5:=u1z P4 [32,101,108,115,101,32,123] ⟨#[32,101,108,115,101,32,123]⟩ rfl (by first | omega | (simp; omega))
     obtain ⟨P5,hP5⟩:∃ P,P4++[32,101,108,115,101,32,123]=P:=⟨_,rfl⟩
     have l5:P5.length=P4.length+([32,101,108,115,101,32,123]:List UInt8).length:=by rw [← hP5,List.length_append]
     (try simp only [List.length_cons,List.length_nil] at l5)
     rw [hP5] at a5 hb
     have a6:=u3m P5 c0 (by first | omega | (simp; omega))
     obtain ⟨P6,hP6⟩:∃ P,P5++c0=P:=⟨_,rfl⟩
     have l6:P6.length=P5.length+c0.length:=by rw [← hP6,List.length_append]
     (try simp only [List.length_cons,List.length_nil] at l6)
     rw [hP6] at a6 hb
     have a7:=u1z P6 [32,125] ⟨#[32,125]⟩ rfl (by first | omega | (simp; omega))
     obtain ⟨P7,hP7⟩:∃ P,P6++[32,125]=P:=⟨_,rfl⟩
     have l7:P7.length=P6.length+([32,125]:List UInt8).length:=by rw [← hP7,List.length_append]
     (try simp only [List.length_cons,List.length_nil] at l7)
     rw [hP7] at a7 hb
     have HBD:=hid hb
     simp only [reduceCtorEq,iff_false] at hel
     clear hb hlen hl1 hl2 hl3 hP1 l1 hP2 l2 hP3 l3 hP4 l4 hP5 l5 hP6 l6 hP7 l7 hat ht0 hsh hb0 hc0x hne HKL HOK
     go_wp2_with fail
     go_region_held3 (fun w'=>w'.cell? ⟨w.heap.size,4,none⟩=some (.slice B body.length cb)∧w'.cell? ⟨g,0,none⟩=some (.string (bs t0))) (first | exact ⟨xe4,hc0⟩ | exact ⟨(hb1.cell hqz).trans xe4,(hb1.cell hg0).trans hc0⟩) ((first | (go_at_call 104; refine (HBT.out _ (by first | exact HBW.out | exact HBW.out.drew | exact u2w HBW.out _)).mono ?_; rintro e w1 ⟨rfl,hb1⟩)))
     all_goals
      have y5:=(hb1.cell hqz).trans xe5
      have HB1:=hid (by first | exact seq HBW.out hb1 | exact (seq HBW.out hb1).drew | exact seq HBW.out (seq (Below.refl _ _).drew hb1) | exact seq HBW.out (seq (u1b _ _) hb1):Below w.heap.size w w1)
      clear hb1
      go_wp2_with fail
      refine (HCT.out _ (by first | exact HB1.out | exact HB1.out.drew | exact u2w HB1.out _)).mono ?_
      rintro e w2 ⟨rfl,hb2⟩
      have HB2:=hid (by first | exact seq HB1.out hb2 | exact seq HB1.out (seq (Below.refl _ _).drew hb2) | exact seq HB1.out (seq (u1b _ _) hb2):Below w.heap.size w w2)
      clear hb2
      go_wp2
      go_ret
      rw [HB0.out,HC0.out,HBD.out]
      exact ⟨rfl,HB2.out⟩
    ·simp only [if_true] at hb
     have HBD:=hid hb
     simp only [iff_true] at hel
     clear hb hlen hl1 hl2 hP1 l1 hP2 l2 hP3 l3 hP4 l4 hat ht0 hsh hb0 hc0x hne HKL HOK
     go_wp2_with fail
     go_region_held3 (fun w'=>w'.cell? ⟨w.heap.size,4,none⟩=some (.slice B body.length cb)∧w'.cell? ⟨g,0,none⟩=some (.string (bs t0))) (first | exact ⟨xe4,hc0⟩ | exact ⟨(hb1.cell hqz).trans xe4,(hb1.cell hg0).trans hc0⟩) ((first | (go_at_call 104; refine (HBT.out _ (by first | exact HBW.out | exact HBW.out.drew | exact u2w HBW.out _)).mono ?_; rintro e w1 ⟨rfl,hb1⟩)))
     all_goals
      have y5:=(hb1.cell hqz).trans xe5
      have HB1:=hid (by first | exact seq HBW.out hb1 | exact (seq HBW.out hb1).drew | exact seq HBW.out (seq (Below.refl _ _).drew hb1) | exact seq HBW.out (seq (u1b _ _) hb1):Below w.heap.size w w1)
      clear hb1
      go_wp2
      go_ret
      rw [HB0.out,HC0.out,HBD.out]
      exact ⟨rfl,by first | exact HB1.out | exact HB1.out.drew | exact u2w HB1.out _⟩
   ·have ho:exprs.length=1:=by unfold u0u at hsh; simp at hsh; omega
    obtain ⟨t0,ht0⟩:∃ t,(exprs.map gE)[0]? = some t:=⟨(exprs.map gE)[0]'(by omega),List.getElem?_eq_getElem (by omega)⟩
    obtain ⟨g,rfl,_,hg0,hc0⟩:=hat 0 t0 ht0
    have hb:stG 4 op name (exprs.map gE) (gSs body) (gSs els) els.isEmpty=[119,104,105,108,101,32]++t0++[32,123]++gSs body++[32,125]:=by unfold stG; simp [List.getD_eq_getElem?_getD,ht0,u5u,u8u]
    rw [hb] at hlen
    obtain ⟨b0,hb0⟩:∃ t,gSs body=t:=⟨_,rfl⟩
    rw [hb0] at hb hlen HBT
    have HB0:=hid hb0
    simp only [List.length_append,List.length_cons,List.length_nil] at hlen
    rw [hlm,ho]
    have a1:=add_r3 [119,104,105,108,101,32] t0 ⟨#[119,104,105,108,101,32]⟩ rfl (by first | omega | (simp; omega))
    obtain ⟨P1,hP1⟩:∃ P,[119,104,105,108,101,32]++t0=P:=⟨_,rfl⟩
    have l1:P1.length=([119,104,105,108,101,32]:List UInt8).length+t0.length:=by rw [← hP1,List.length_append]
    (try simp only [List.length_cons,List.length_nil] at l1)
    rw [hP1] at a1 hb
    have a2:=u1z P1 [32,123] ⟨#[32,123]⟩ rfl (by first | omega | (simp; omega))
    obtain ⟨P2,hP2⟩:∃ P,P1++[32,123]=P:=⟨_,rfl⟩
    have l2:P2.length=P1.length+([32,123]:List UInt8).length:=by rw [← hP2,List.length_append]
    (try simp only [List.length_cons,List.length_nil] at l2)
    rw [hP2] at a2 hb
    have a3:=u3m P2 b0 (by first | omega | (simp; omega))
    obtain ⟨P3,hP3⟩:∃ P,P2++b0=P:=⟨_,rfl⟩
    have l3:P3.length=P2.length+b0.length:=by rw [← hP3,List.length_append]
    (try simp only [List.length_cons,List.length_nil] at l3)
    rw [hP3] at a3 hb
    have a4:=u1z P3 [32,125] ⟨#[32,125]⟩ rfl (by first | omega | (simp; omega))
    obtain ⟨P4,hP4⟩:∃ P,P3++[32,125]=P:=⟨_,rfl⟩
    have l4:P4.length=P3.length+([32,125]:List UInt8).length:=by rw [← hP4,List.length_append]
    (try simp only [List.length_cons,List.length_nil] at l4)
    rw [hP4] at a4 hb
    have HBD:=hid hb
    clear hb hlen hP1 l1 hP2 l2 hP3 l3 hP4 l4 hat ht0 hsh hb0 HKL HOK
    go_wp2_with fail
    go_region_held3 (fun w'=>w'.cell? ⟨w.heap.size,4,none⟩=some (.slice B body.length cb)∧w'.cell? ⟨g,0,none⟩=some (.string (bs t0))) (first | exact ⟨xe4,hc0⟩ | exact ⟨(hb1.cell hqz).trans xe4,(hb1.cell hg0).trans hc0⟩) ((first | (go_at_call 104; refine (HBT.out _ (by first | exact HBW.out | exact HBW.out.drew | exact u2w HBW.out _)).mono ?_; rintro e w1 ⟨rfl,hb1⟩)))
    all_goals
     have HB1:=hid hb1
     clear hb1
     go_wp2
     go_ret
     rw [HB0.out,HBD.out]
     exact ⟨rfl,by first | exact seq HBW.out HB1.out | exact (seq HBW.out HB1.out).drew | exact seq HBW.out (seq (Below.refl _ _).drew HB1.out) | exact (seq HBW.out (seq (Below.refl _ _).drew HB1.out)).drew | exact seq HBW.out (seq (u1b _ _) HB1.out) | exact seq (seq HBW.out (seq (u1b _ _) HB1.out)) (u1b _ _)⟩
end Go.Proofs.YtbkhnilbgocpnaaGreatDoor.SynC
