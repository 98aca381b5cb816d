import Derived.BigQuiet
import Derived.Test.YtbkhnilbgocpnaaGreatDoorY30
import Derived.Test.YtbkhnilbgocpnaaGreatDoorY22
set_option linter.unusedVariables false
set_option linter.unusedSimpArgs false
set_option maxRecDepth 100000
set_option maxHeartbeats 2000000
open Go.Lib (hid)
namespace Go.Proofs.YtbkhnilbgocpnaaGreatDoor.SynC
open Go.Proofs.YtbkhnilbgocpnaaGreatDoor.LexC
open Go Go.ChangeShapes Go.WideShapes Go.ChangeAt Go.RowKit Go.Deep
set_option maxRecDepth 100000 in
set_option maxHeartbeats 8000000 in
theorem gt_loop2 (kind op num:Int) (name:List UInt8) (kids:List Ex) (hK:∀ a∈kids,GT a) (w:World) (A:Option Addr) (c:Nat) (hok:okEs u0f kids=true) (hsh:u1h u0f kind op num name kids.length=true)
  (hlen:(u9e kind op num name (kids.map gE)).length≤1000000) (hs:SlE w (fun g=>g<w.heap.size) (.slice A kids.length c) kids) (hg:rgEs kids) (hn:-2147483648≤num∧num≤2147483647) (h456:4≤kind) (hk4:kind=4→op=18∨op=19) :
  Calls Tryz.prog 58 #[.agg #[.int .i64 kind,.int .i64 op,.int .i32 num,.string (bs name),.slice A kids.length c]] w fun e' w'=>e'=.returned (.string (bs (u9e kind op num name (kids.map gE))))∧Below w.heap.size w w':=by
 have h6:=shape_len hsh
 have hkl:∀ a∈kids,(gE a).length≤1000000:=fun a ha=>by
  have:=kid_len (nm:=u0f) (kind:=kind) (op:=op) (num:=num) (x:=name) (L:=kids.map gE) (by rw [List.length_map]; exact hsh) (gE a) (List.mem_map_of_mem ha)
  omega
 rw [u5d] at hok
 have hok:=List.all_eq_true.1 hok
 have HK:=hid hK
 have HKL:=hid hkl
 have HOK:=hid hok
 have HS:=hid hs
 have HG:=hid hg
 clear hK hkl hok hs hg
 go_enter Tryz.func58,Tryz.ntmps58
 go_wp2_with fail
 go_loopw [3,4] (fun s i wr=>∃ (k:Nat) (v:Value),k≤kids.length∧i=.int .i64 k∧s=v∧OwnS wr (w.heap.size+1) v ((kids.take k).map gE)∧Below (w.heap.size+1) (w.alloc (.cells #[.int .i64 kind,.int .i64 op,.int .i32 num,.string (bs name),.slice A kids.length c] 34)) wr) (fun _ i _=>kids.length - (intOf i).toNat)
 case atStart=>exact ⟨0,_,Nat.zero_le _,rfl,rfl,OwnS.nil _ _,Below.refl _ _⟩
 case round =>
  obtain ⟨k,v,hk,rfl,rfl,hown,hbr⟩:=hrel
  obtain ⟨wo,rfl⟩:∃ z,z=wr:=⟨_,rfl⟩
  have hzr:=hbr.size
  simp only [u0e] at hzr
  have le2:wo.heap[w.heap.size]? = some (.cells #[.int .i64 kind,.int .i64 op,.int .i32 num,.string (bs name),.slice A kids.length c] 34 (0,0)):=(hbr.block _ (by omega)).trans (u0c _ _)
  have xe4:=cell_of_row _ _ 4 _ _ _ le2
  have hbw:Below w.heap.size w wo:=(u0j _ _).trans (hbr.mono (by omega))
  have HBR:=hid hbr
  have HBW:=hid hbw
  have HOWN:=hid hown
  have HLE:=hid le2
  by_cases hlt:k<kids.length
  ·obtain ⟨a,ha⟩:∃ a,kids[k]? = some a:=⟨kids[k],List.getElem?_eq_getElem hlt⟩
   have hmem:=List.mem_of_getElem? ha
   obtain ⟨g,oo,rfl,_,hPg,hrows⟩:=u3n (u7z HS.out hbw) (by omega)
   obtain ⟨yk,yo,yn,yx,yA,ym,yc,⟨d0,d1,d2,d3,d4⟩,hrx⟩:=hrows k a ha
   have hin:(0:Int)≤k∧(k:Int)<kids.length:=⟨by omega,by omega⟩
   have hC:=HK.out a hmem wo _ _ _ _ _ _ _ (HOK.out a hmem) (HKL.out a hmem) hrx (u7v HG.out a hmem)
   have hT:(kids.take (k+1)).map gE=(kids.take k).map gE++[gE a]:=by rw [List.take_add_one,ha,List.map_append]; rfl
   have HC:=hid hC
   have HT:=hid hT
   clear hrows hrx ha hT hC hbr hbw hown le2 hmem
   go_wp2_with fail
   refine HC.out.mono ?_
   rintro e w3 ⟨rfl,hb3⟩
   have HB3:=hid hb3
   have hz3:=hb3.size
   have HOWN3:=hid (OwnS.below HOWN.out hb3)
   clear hb3
   go_wp2_with (refine u2q rfl _ _ rfl (w.heap.size+1) _ ((kids.take k).map gE) (gE a) rfl (by exact HOWN3.out) w3.heap.size rfl rfl (by rw [List.length_map,List.length_take]; omega) (by omega) ?_; intro v' w4 ho4 hb4; have HO4:=hid ho4; have HB4:=hid hb4; clear ho4 hb4)
   go_roundw
   case rel=>exact ⟨k+1,_,by omega,by go_num,rfl,by rw [HT.out]; exact HO4.out,HBR.out.trans ((HB3.out.mono (by omega)).trans HB4.out)⟩
   case measure=>simp [intOf]; omega
  ·have ht:kids.take k=kids:=List.take_of_length_le (by omega)
   rw [ht] at HOWN
   obtain ⟨B,cc,rfl,hat⟩:=HOWN.out.open_
   have hqz:w.heap.size<wo.heap.size:=by omega
   have xe0:=cell_of_row _ _ 0 _ _ _ le2
   have xe1:=cell_of_row _ _ 1 _ _ _ le2
   have xe2:=cell_of_row _ _ 2 _ _ _ le2
   have xe3:=cell_of_row _ _ 3 _ _ _ le2
   have hlm:(kids.map gE).length=kids.length:=List.length_map _
   have hkind:kind=0∨kind=1∨kind=2∨kind=3∨kind=4∨kind=5∨kind=6:=by
    rcases Decidable.em (kind=0∨kind=1∨kind=2∨kind=3∨kind=4∨kind=5∨kind=6) with h | h
    ·exact h
    ·simp only [not_or] at h
     obtain ⟨a0,a1,a2,a3,a4,a5,a6⟩:=h
     unfold u1h at hsh
     rw [if_neg a0,if_neg a1,if_neg a2,if_neg a3,if_neg a4,if_neg a5,if_neg a6] at hsh
     cases hsh
   clear hbr hbw hown
   rw [hlm] at HOWN ⊢
   rcases hkind with rfl | rfl | rfl | rfl | rfl | rfl | rfl
   ·omega
   ·omega
   ·omega
   ·omega
   ·have ho:(0≤op∧op<20)∧kids.length=2:=by
     unfold u1h at hsh
     simp at hsh
     omega
    have HU:=hid (opText_113 op ho.1.1 ho.1.2)
    by_cases h18:op=18∨op=19
    ·have hb:u9e 4 op num name (kids.map gE)=u5h op++[32,40]++u1c (kids.map gE)++[32,41]:=by
      unfold u9e
      simp [h18]
     rw [hb] at hlen
     simp only [List.length_append,List.length_cons,List.length_nil] at hlen
     have a1:=u1z (u5h op) [32,40] ⟨#[32,40]⟩ rfl (by simp; omega)
     have a2:=u3m (u5h op++[32,40]) (u1c (kids.map gE)) (by simp; omega)
     have a3:=u1z (u5h op++[32,40]++u1c (kids.map gE)) [32,41] ⟨#[32,41]⟩ rfl (by simp; omega)
     have HC:=hid (fun W' (h:OwnS W' (w.heap.size+1) (.slice B kids.length cc) (kids.map gE))=>commas_103 (kids.map gE) (by omega) (by omega) W' _ _ h)
     obtain ⟨C0,hC0⟩:∃ P,u1c (kids.map gE)=P:=⟨_,rfl⟩
     rw [hC0] at a2 a3 hb HC
     obtain ⟨T0,hT0⟩:∃ P,u5h op=P:=⟨_,rfl⟩
     rw [hT0] at a1 a2 a3 hb HU
     obtain ⟨P1,hP1⟩:∃ P,T0++[32,40]=P:=⟨_,rfl⟩
     rw [hP1] at a1 a2 a3 hb
     obtain ⟨P2,hP2⟩:∃ P,P1++C0=P:=⟨_,rfl⟩
     rw [hP2] at a2 a3 hb
     obtain ⟨P3,hP3⟩:∃ P,P2++[32,41]=P:=⟨_,rfl⟩
     rw [hP3] at a3 hb
     have HBD:=hid hb
     clear hb hlen hC0 hT0 hP1 hP2 hP3 hat HK HKL HOK hsh ho hok
     rcases h18 with rfl | rfl
     all_goals
      go_wp2_with fail
      refine (HU.out _).mono ?_
      rintro e w1 ⟨rfl,hb1⟩
      have HB1:=hid hb1
      have HO1:=hid (OwnS.below HOWN.out hb1)
      clear hb1
      go_wp2_with fail
      refine (HC.out _ (by exact HO1.out)).mono ?_
      rintro e w2 ⟨rfl,hb2⟩
      have HB2:=hid hb2
      clear hb2
      go_wp2
      go_ret
      rw [HBD.out]
      exact ⟨rfl,seq HBW.out (seq HB1.out HB2.out)⟩
    ·exact absurd (hk4 rfl) h18
   ·have ho:kids.length=1:=by
     unfold u1h at hsh
     simp at hsh
     omega
    obtain ⟨t0,ht0⟩:∃ t,(kids.map gE)[0]? = some t:=⟨(kids.map gE)[0]'(by omega),List.getElem?_eq_getElem (by omega)⟩
    obtain ⟨g,rfl,_,hg0,hc0⟩:=hat 0 t0 ht0
    have hb:u9e 5 op num name (kids.map gE)=name++[32,91,32]++t0++[32,93]:=by
     unfold u9e
     simp [List.getD_eq_getElem?_getD,ht0]
    rw [hb] at hlen
    rw [ho] at HOWN ⊢
    simp only [List.length_append,List.length_cons,List.length_nil] at hlen
    have a1:=u1z name [32,91,32] ⟨#[32,91,32]⟩ rfl (by simp; omega)
    have a2:=u3m (name++[32,91,32]) t0 (by simp; omega)
    have a3:=u1z (name++[32,91,32]++t0) [32,93] ⟨#[32,93]⟩ rfl (by simp; omega)
    obtain ⟨P1,hP1⟩:∃ P,name++[32,91,32]=P:=⟨_,rfl⟩
    rw [hP1] at a1 a2 a3 hb
    obtain ⟨P2,hP2⟩:∃ P,P1++t0=P:=⟨_,rfl⟩
    rw [hP2] at a2 a3 hb
    obtain ⟨P3,hP3⟩:∃ P,P2++[32,93]=P:=⟨_,rfl⟩
    rw [hP3] at a3 hb
    have HBD:=hid hb
    clear hb hlen hP1 hP2 hP3 hat ht0 HK HKL HOK hsh ho hok
    go_wp2_with fail
    go_quiet (fail)
    go_wp2
    go_ret
    rw [HBD.out]
    exact ⟨rfl,seq HBW.out (u1b _ _)⟩
   ·have hb:u9e 6 op num name (kids.map gE)=name++[32,40]++u1c (kids.map gE)++[32,41]:=by
     unfold u9e
     simp
    rw [hb] at hlen
    simp only [List.length_append,List.length_cons,List.length_nil] at hlen
    have a1:=u1z name [32,40] ⟨#[32,40]⟩ rfl (by simp; omega)
    have a2:=u3m (name++[32,40]) (u1c (kids.map gE)) (by simp; omega)
    have a3:=u1z (name++[32,40]++u1c (kids.map gE)) [32,41] ⟨#[32,41]⟩ rfl (by simp; omega)
    have HC:=hid (fun W' (h:OwnS W' (w.heap.size+1) (.slice B kids.length cc) (kids.map gE))=>commas_103 (kids.map gE) (by omega) (by omega) W' _ _ h)
    obtain ⟨C0,hC0⟩:∃ P,u1c (kids.map gE)=P:=⟨_,rfl⟩
    rw [hC0] at a2 a3 hb HC
    obtain ⟨P1,hP1⟩:∃ P,name++[32,40]=P:=⟨_,rfl⟩
    rw [hP1] at a1 a2 a3 hb
    obtain ⟨P2,hP2⟩:∃ P,P1++C0=P:=⟨_,rfl⟩
    rw [hP2] at a2 a3 hb
    obtain ⟨P3,hP3⟩:∃ P,P2++[32,41]=P:=⟨_,rfl⟩
    rw [hP3] at a3 hb
    have HBD:=hid hb
    clear hb hlen hC0 hP1 hP2 hP3 hat HK HKL HOK hsh hok
    go_wp2_with fail
    go_region_with ((first | (go_at_call 103; refine (HC.out _ (by exact HOWN.out)).mono ?_; rintro e w1 ⟨rfl,hb1⟩; have y3:=(hb1.cell hqz).trans xe3; have HB1:=hid hb1; clear hb1)))
    all_goals
     go_wp2
     go_ret
     rw [HBD.out]
     exact ⟨rfl,by first | exact seq HBW.out HB1.out | exact (seq HBW.out HB1.out).drew | exact seq HBW.out (seq (Below.refl _ _).drew HB1.out) | exact (seq HBW.out (seq (Below.refl _ _).drew HB1.out)).drew | exact seq HBW.out (seq (Below.refl _ _).drew.drew HB1.out)⟩
set_option maxRecDepth 100000 in
set_option maxHeartbeats 8000000 in
theorem gt_loop3 (kind op num:Int) (name:List UInt8) (kids:List Ex) (hK:∀ a∈kids,GT a) (w:World) (A:Option Addr) (c:Nat) (hok:okEs u0f kids=true) (hsh:u1h u0f kind op num name kids.length=true)
  (hlen:(u9e kind op num name (kids.map gE)).length≤1000000) (hs:SlE w (fun g=>g<w.heap.size) (.slice A kids.length c) kids) (hg:rgEs kids) (hn:-2147483648≤num∧num≤2147483647) (h456:4≤kind∧kind≤4) (h18:¬ (op=18∨op=19)) :
  Calls Tryz.prog 58 #[.agg #[.int .i64 kind,.int .i64 op,.int .i32 num,.string (bs name),.slice A kids.length c]] w fun e' w'=>e'=.returned (.string (bs (u9e kind op num name (kids.map gE))))∧Below w.heap.size w w':=by
 have h6:=shape_len hsh
 have hkl:∀ a∈kids,(gE a).length≤1000000:=fun a ha=>by
  have:=kid_len (nm:=u0f) (kind:=kind) (op:=op) (num:=num) (x:=name) (L:=kids.map gE) (by rw [List.length_map]; exact hsh) (gE a) (List.mem_map_of_mem ha)
  omega
 rw [u5d] at hok
 have hok:=List.all_eq_true.1 hok
 have HK:=hid hK
 have HKL:=hid hkl
 have HOK:=hid hok
 have HS:=hid hs
 have HG:=hid hg
 clear hK hkl hok hs hg
 go_enter Tryz.func58,Tryz.ntmps58
 go_wp2_with fail
 go_loopw [3,4] (fun s i wr=>∃ (k:Nat) (v:Value),k≤kids.length∧i=.int .i64 k∧s=v∧OwnS wr (w.heap.size+1) v ((kids.take k).map gE)∧Below (w.heap.size+1) (w.alloc (.cells #[.int .i64 kind,.int .i64 op,.int .i32 num,.string (bs name),.slice A kids.length c] 34)) wr) (fun _ i _=>kids.length - (intOf i).toNat)
 case atStart=>exact ⟨0,_,Nat.zero_le _,rfl,rfl,OwnS.nil _ _,Below.refl _ _⟩
 case round =>
  obtain ⟨k,v,hk,rfl,rfl,hown,hbr⟩:=hrel
  obtain ⟨wo,rfl⟩:∃ z,z=wr:=⟨_,rfl⟩
  have hzr:=hbr.size
  simp only [u0e] at hzr
  have le2:wo.heap[w.heap.size]? = some (.cells #[.int .i64 kind,.int .i64 op,.int .i32 num,.string (bs name),.slice A kids.length c] 34 (0,0)):=(hbr.block _ (by omega)).trans (u0c _ _)
  have xe4:=cell_of_row _ _ 4 _ _ _ le2
  have hbw:Below w.heap.size w wo:=(u0j _ _).trans (hbr.mono (by omega))
  have HBR:=hid hbr
  have HBW:=hid hbw
  have HOWN:=hid hown
  have HLE:=hid le2
  by_cases hlt:k<kids.length
  ·obtain ⟨a,ha⟩:∃ a,kids[k]? = some a:=⟨kids[k],List.getElem?_eq_getElem hlt⟩
   have hmem:=List.mem_of_getElem? ha
   obtain ⟨g,oo,rfl,_,hPg,hrows⟩:=u3n (u7z HS.out hbw) (by omega)
   obtain ⟨yk,yo,yn,yx,yA,ym,yc,⟨d0,d1,d2,d3,d4⟩,hrx⟩:=hrows k a ha
   have hin:(0:Int)≤k∧(k:Int)<kids.length:=⟨by omega,by omega⟩
   have hC:=HK.out a hmem wo _ _ _ _ _ _ _ (HOK.out a hmem) (HKL.out a hmem) hrx (u7v HG.out a hmem)
   have hT:(kids.take (k+1)).map gE=(kids.take k).map gE++[gE a]:=by rw [List.take_add_one,ha,List.map_append]; rfl
   have HC:=hid hC
   have HT:=hid hT
   clear hrows hrx ha hT hC hbr hbw hown le2 hmem
   go_wp2_with fail
   refine HC.out.mono ?_
   rintro e w3 ⟨rfl,hb3⟩
   have HB3:=hid hb3
   have hz3:=hb3.size
   have HOWN3:=hid (OwnS.below HOWN.out hb3)
   clear hb3
   go_wp2_with (refine u2q rfl _ _ rfl (w.heap.size+1) _ ((kids.take k).map gE) (gE a) rfl (by exact HOWN3.out) w3.heap.size rfl rfl (by rw [List.length_map,List.length_take]; omega) (by omega) ?_; intro v' w4 ho4 hb4; have HO4:=hid ho4; have HB4:=hid hb4; clear ho4 hb4)
   go_roundw
   case rel=>exact ⟨k+1,_,by omega,by go_num,rfl,by rw [HT.out]; exact HO4.out,HBR.out.trans ((HB3.out.mono (by omega)).trans HB4.out)⟩
   case measure=>simp [intOf]; omega
  ·have ht:kids.take k=kids:=List.take_of_length_le (by omega)
   rw [ht] at HOWN
   obtain ⟨B,cc,rfl,hat⟩:=HOWN.out.open_
   have hqz:w.heap.size<wo.heap.size:=by omega
   have xe0:=cell_of_row _ _ 0 _ _ _ le2
   have xe1:=cell_of_row _ _ 1 _ _ _ le2
   have xe2:=cell_of_row _ _ 2 _ _ _ le2
   have xe3:=cell_of_row _ _ 3 _ _ _ le2
   have hlm:(kids.map gE).length=kids.length:=List.length_map _
   have hkind:kind=0∨kind=1∨kind=2∨kind=3∨kind=4∨kind=5∨kind=6:=by
    rcases Decidable.em (kind=0∨kind=1∨kind=2∨kind=3∨kind=4∨kind=5∨kind=6) with h | h
    ·exact h
    ·simp only [not_or] at h
     obtain ⟨a0,a1,a2,a3,a4,a5,a6⟩:=h
     unfold u1h at hsh
     rw [if_neg a0,if_neg a1,if_neg a2,if_neg a3,if_neg a4,if_neg a5,if_neg a6] at hsh
     cases hsh
   clear hbr hbw hown
   rw [hlm] at HOWN ⊢
   rcases hkind with rfl | rfl | rfl | rfl | rfl | rfl | rfl
   ·omega
   ·omega
   ·omega
   ·omega
   rotate_left 1
   ·omega
   ·omega
   ·clear h456
    have ho:(0≤op∧op<20)∧kids.length=2:=by
     unfold u1h at hsh
     simp at hsh
     omega
    have HU:=hid (opText_113 op ho.1.1 ho.1.2)
    have e18:(op == 18)=false:=by simp; omega
    have e19:(op == 19)=false:=by simp; omega
    obtain ⟨t0,ht0⟩:∃ t,(kids.map gE)[0]? = some t:=⟨(kids.map gE)[0]'(by omega),List.getElem?_eq_getElem (by omega)⟩
    obtain ⟨t1,ht1⟩:∃ t,(kids.map gE)[1]? = some t:=⟨(kids.map gE)[1]'(by omega),List.getElem?_eq_getElem (by omega)⟩
    obtain ⟨g,rfl,_,hg0,hc0⟩:=hat 0 t0 ht0
    obtain ⟨g',hgg,_,_,hc1⟩:=hat 1 t1 ht1
    have hgg2:g'=g:=by
     simp only [Option.some.injEq,Addr.mk.injEq] at hgg
     exact hgg.1.symm
    rw [hgg2] at hc1
    clear hgg hgg2
    have hb:u9e 4 op num name (kids.map gE)=[40,32]++t0++[32]++u5h op++[32]++t1++[32,41]:=by
     unfold u9e
     simp [h18,List.getD_eq_getElem?_getD,ht0,ht1]
    rw [hb] at hlen
    rw [ho.2]
    simp only [List.length_append,List.length_cons,List.length_nil] at hlen
    obtain ⟨T0,hT0⟩:∃ P,u5h op=P:=⟨_,rfl⟩
    rw [hT0] at hlen hb HU
    have a1:=add_r3 [40,32] t0 ⟨#[40,32]⟩ rfl (by simp; omega)
    obtain ⟨P1,hP1⟩:∃ P,[40,32]++t0=P:=⟨_,rfl⟩
    have l1:P1.length=2+t0.length:=by rw [← hP1]; simp; omega
    rw [hP1] at a1 hb
    have a2:=u1z P1 [32] ⟨#[32]⟩ rfl (by simp; omega)
    obtain ⟨P2,hP2⟩:∃ P,P1++[32]=P:=⟨_,rfl⟩
    have l2:P2.length=3+t0.length:=by rw [← hP2]; simp; omega
    rw [hP2] at a2 hb
    have a3:=u3m P2 T0 (by omega)
    obtain ⟨P3,hP3⟩:∃ P,P2++T0=P:=⟨_,rfl⟩
    have l3:P3.length=3+t0.length+T0.length:=by rw [← hP3]; simp; omega
    rw [hP3] at a3 hb
    have a4:=u1z P3 [32] ⟨#[32]⟩ rfl (by simp; omega)
    obtain ⟨P4,hP4⟩:∃ P,P3++[32]=P:=⟨_,rfl⟩
    have l4:P4.length=4+t0.length+T0.length:=by rw [← hP4]; simp; omega
    rw [hP4] at a4 hb
    have a5:=u3m P4 t1 (by omega)
    obtain ⟨P5,hP5⟩:∃ P,P4++t1=P:=⟨_,rfl⟩
    have l5:P5.length=4+t0.length+T0.length+t1.length:=by rw [← hP5]; simp; omega
    rw [hP5] at a5 hb
    have a6:=u1z P5 [32,41] ⟨#[32,41]⟩ rfl (by simp; omega)
    obtain ⟨P6,hP6⟩:∃ P,P5++[32,41]=P:=⟨_,rfl⟩
    rw [hP6] at a6 hb
    have HBD:=hid hb
    clear hb hlen hT0 hP1 hP2 hP3 hP4 hP5 hP6 l1 l2 l3 l4 l5 hat ht0 ht1 HK HKL HOK hsh ho hok h18
    go_wp2_with fail
    go_region_held3 (fun w'=>w'.cell? ⟨w.heap.size,1,none⟩=some (.int .i64 op)∧w'.cell? ⟨g,0,none⟩=some (.string (bs t0))∧w'.cell? ⟨g,1,none⟩=some (.string (bs t1))) (first | exact ⟨xe1,hc0,hc1⟩ | exact ⟨(hb1.cell hqz).trans xe1,(hb1.cell hg0).trans hc0,(hb1.cell hg0).trans hc1⟩) ((first | (go_at_call 113; refine (HU.out _).mono ?_; rintro e w1 ⟨rfl,hb1⟩)))
    all_goals
     have HB1:=hid hb1
     clear hb1
     go_wp2
     go_ret
     rw [HBD.out]
     exact ⟨rfl,by first | exact seq HBW.out HB1.out | exact (seq HBW.out HB1.out).drew | exact seq HBW.out (seq (Below.refl _ _).drew HB1.out) | exact (seq HBW.out (seq (Below.refl _ _).drew HB1.out)).drew | exact seq HBW.out (seq (Below.refl _ _).drew.drew HB1.out) | exact seq HBW.out (seq (u1b _ _) HB1.out)⟩
theorem gt_e (kind op num:Int) (name:List UInt8) (kids:List Ex) (hK:∀ a∈kids,GT a):GT (.mk kind op num name kids):=by
 intro w bk bo bn bx bA bm bc hok hlen hr hg
 rw [RE_eq] at hr
 obtain ⟨K,hc,hs⟩:=hr
 simp only [exRow,List.cons.injEq,Value.int.injEq,Value.string.injEq,true_and,and_true] at hc
 obtain ⟨e1,e2,e3,e4,e5⟩:=hc
 have e4:=bs_inj e4
 subst e1; subst e2; subst e3; subst e4; subst e5
 have hml:=slE_len hs
 subst hml
 rw [rgE] at hg
 obtain ⟨hn,hx,hkl,hgk⟩:=hg
 rw [okE,Bool.and_eq_true] at hok
 rw [gE,gEs_map] at hlen ⊢
 by_cases h4:bk<4
 ·exact gt_loop _ _ _ _ _ hK w _ _ hok.2 hok.1 hlen hs hgk ⟨hn.1,by omega⟩ h4
 by_cases h5:bk=4∧¬ (bo=18∨bo=19)
 ·exact gt_loop3 _ _ _ _ _ hK w _ _ hok.2 hok.1 hlen hs hgk ⟨hn.1,by omega⟩ (by omega) h5.2
 ·exact gt_loop2 _ _ _ _ _ hK w _ _ hok.2 hok.1 hlen hs hgk ⟨hn.1,by omega⟩ (by omega) (by omega)
mutual
theorem gt_all:(e:Ex)→GT e
 | .mk kind op num name kids=>gt_e kind op num name kids (gts_all kids)
theorem gts_all:(l:List Ex)→∀ a∈l,GT a
 | [],_,h=>by cases h
 | e :: r,a,h=>by
  rcases List.mem_cons.1 h with h1 | h1
  ·rw [h1]; exact gt_all e
  ·exact gts_all r a h1
end
end Go.Proofs.YtbkhnilbgocpnaaGreatDoor.SynC
