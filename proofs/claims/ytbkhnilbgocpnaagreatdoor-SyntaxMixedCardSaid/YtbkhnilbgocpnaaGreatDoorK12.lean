import Derived.Test.YtbkhnilbgocpnaaGreatDoorK0
import Derived.Test.YtbkhnilbgocpnaaGreatDoorK11
set_option linter.unusedVariables false
set_option linter.unusedSimpArgs false
set_option maxRecDepth 100000
set_option maxHeartbeats 2000000
open Go.Lib (hid)
namespace Go.Proofs.YtbkhnilbgocpnaaGreatDoor.SynC
open Go.Proofs.YtbkhnilbgocpnaaGreatDoor.LexC
open Go Go.ChangeShapes Go.WideShapes Go.ChangeAt Go.RowKit Go.Deep
def WB (op:Int) (a b:Ex):Prop:=∀ (bw base:Nat) (w:World) (v:Value) (L:List Tok) (A:Option Addr) (m c:Nat),Ws bw base w v L→SlE w (fun g=>g<base) (.slice A m c) [a,b] →
  L.length+(tE dgL (.mk 4 op 0 [] [a,b])).length≤500000 →
  Calls Tryz.prog 166 #[.pointer (some ⟨bw,0,none⟩),.agg #[.int .i64 4,.int .i64 op,.int .i32 0,.string (bs []),.slice A m c]] w (Wrote bw base w v L (txs (tE dgL (.mk 4 op 0 [] [a,b]))))
theorem tE_bin {op:Int} (h:op<18) (a b:Ex):tE dgL (.mk 4 op 0 [] [a,b])=sg [40] :: (tE dgL a++sg (u3i op) :: (tE dgL b++[sg [41]])):=by
 rw [tE,tEs,tEs,tEs]; unfold u2b
 rw [if_neg (by decide),if_neg (by decide),if_neg (by decide),if_pos rfl,if_neg (by omega)]; rfl
theorem tE_mm {op:Int} (h:op=18∨op=19) (a b:Ex):tE dgL (.mk 4 op 0 [] [a,b])=sg (u3i op) :: sg [40] :: (tE dgL a++sg [44] :: (tE dgL b++[sg [41]])):=by
 rw [tE,tEs,tEs,tEs]; unfold u2b
 rw [if_neg (by decide),if_neg (by decide),if_neg (by decide),if_pos rfl,if_pos h]; rfl
theorem binary_op {nm:List UInt8→Bool} (op:Int) (hop:0≤op∧op<18) (a b:Ex) (ia:WE nm a) (ib:WE nm b) (oa:okE nm a=true) (ob:okE nm b=true):WB op a b:=by
 intro bw base w v L A m c hw hs hlen
 have HW:=hid hw
 have hlb:=hw.lb
 have hb10:=hw.b10
 have hbl:=hw.lt
 have hLl:=hw.len
 rw [tE_bin hop.2] at hlen ⊢
 obtain ⟨oi,hsi,hso⟩:=signOf_op hop.1 hop.2
 have HSI:=hid hsi
 obtain ⟨sg_,hsg⟩:∃ s,u3i op=s:=⟨_,rfl⟩
 rw [hsg] at hso hlen ⊢
 have HSO:=hid hso
 obtain ⟨g,o,rfl,rfl,hPg,hrows⟩:=u4j hs (by simp)
 obtain ⟨xk,xo,xn,xx,xA,xm,xc,⟨c0,c1,c2,c3,c4⟩,hrx⟩:=hrows 0 a rfl
 obtain ⟨yk,yo,yn,yx,yA,ym,yc,⟨e0,e1,e2,e3,e4⟩,hry⟩:=hrows 1 b rfl
 simp only [Nat.zero_mul,Nat.add_zero,Nat.one_mul] at c0 c1 c2 c3 c4 e0 e1 e2 e3 e4
 have HX:=hid hrx
 have HY:=hid hry
 have HA:=hid ia
 have HB:=hid ib
 have HOA:=hid oa
 have HOB:=hid ob
 have hG:=hid hw.g.inf
 have C0:=hid c0
 have E0:=hid e0
 have C1:=hid c1
 have E1:=hid e1
 have C2:=hid c2
 have E2:=hid e2
 have C3:=hid c3
 have E3:=hid e3
 have C4:=hid c4
 have E4:=hid e4
 clear hw hs hrows hrx hry ia ib oa ob hsi hso hop hsg c0 c1 c2 c3 c4 e0 e1 e2 e3 e4
 go_enter Tryz.func166,Tryz.ntmps166
 go_wp2_with fail
 refine (infixSign_any op _ (hG.out.keep (World.grownBy_alloc w _ none) (by simp))).mono ?_
 rw [HSI.out]
 rintro e w0 ⟨rfl,hb0⟩
 unfold signR
 simp only [HSO.out]
 have hz0:=hb0.size
 (try simp only [u0c] at hz0)
 have hg0:=u0f hb0 (some bw)
 obtain ⟨_,_,_,l0⟩:=u0a (q:=w.heap.size) hg0 tLOC (by omega)
 have hW0:=hid ((HW.out.alloc _).below hb0)
 have hF0:=hid (((Wf.refl bw v w).alloc _).trans (Wf.ofBelow (v:=v) hb0))
 clear hb0 hg0
 go_wp2_with fail
 refine (u0y _ v _ (hW0.out.alloc _) [[40]] w0.heap.size 1 rfl (u0h rfl) (by simp at hlen ⊢; omega)).mono ?_
 rintro e w1 ⟨rfl,v1,hw1,hf1⟩
 have hz1:=hf1.size
 (try simp only [u0c] at hz1)
 obtain ⟨_,_,_,l1⟩:=u2f (q:=w.heap.size) hf1 tLOC (by omega) (fun e=>by have:=(HW.out.olt _ e).2; omega)
 have hF1:=hid ((hF0.out.alloc _).trans hf1)
 have hB1:=hid (hF1.out.bel HW.out)
 have hW1:=hid hw1
 have d0:=(hB1.out.cell (p:=⟨g,o,none⟩) hPg).trans C0.out
 have d1:=(hB1.out.cell (p:=⟨g,o+1,none⟩) hPg).trans C1.out
 have d2:=(hB1.out.cell (p:=⟨g,o+2,none⟩) hPg).trans C2.out
 have d3:=(hB1.out.cell (p:=⟨g,o+3,none⟩) hPg).trans C3.out
 have d4:=(hB1.out.cell (p:=⟨g,o+4,none⟩) hPg).trans C4.out
 clear hf1 hw1
 go_wp2_with fail
 refine (HA.out.call bw base _ v1 _ _ _ _ _ _ _ _ hW1.out (u2c hB1.out HX.out) HOA.out (by simp at hlen ⊢; omega)).mono ?_
 rintro e w2 ⟨rfl,v2,hw2,hf2⟩
 have hz2:=hf2.size
 obtain ⟨_,_,_,l2⟩:=u2f (q:=w.heap.size) hf2 l1 (by omega) (hW1.out.ne l1 (by decide))
 have hF2:=hid (hF1.out.trans hf2)
 have hW2:=hid hw2
 clear hf2 hw2
 go_wp2_with fail
 refine (u0y _ v2 _ (hW2.out.alloc _) [sg_] w2.heap.size 1 rfl (u0h rfl) (by simp [txs] at hlen ⊢; omega)).mono ?_
 rintro e w3 ⟨rfl,v3,hw3,hf3⟩
 have hz3:=hf3.size
 (try simp only [u0c] at hz3)
 obtain ⟨_,_,_,l3⟩:=u2f (q:=w.heap.size) hf3 tLOC (by omega) (hW2.out.ne l2 (by decide))
 have hF3:=hid ((hF2.out.alloc _).trans hf3)
 have hB3:=hid (hF3.out.bel HW.out)
 have hW3:=hid hw3
 have f0:=(hB3.out.cell (p:=⟨g,o+5,none⟩) hPg).trans E0.out
 have f1:=(hB3.out.cell (p:=⟨g,o+5+1,none⟩) hPg).trans E1.out
 have f2:=(hB3.out.cell (p:=⟨g,o+5+2,none⟩) hPg).trans E2.out
 have f3:=(hB3.out.cell (p:=⟨g,o+5+3,none⟩) hPg).trans E3.out
 have f4:=(hB3.out.cell (p:=⟨g,o+5+4,none⟩) hPg).trans E4.out
 clear hf3 hw3
 go_wp2_with fail
 refine (HB.out.call bw base _ v3 _ _ _ _ _ _ _ _ hW3.out (u2c hB3.out HY.out) HOB.out (by simp [txs] at hlen ⊢; omega)).mono ?_
 rintro e w4 ⟨rfl,v4,hw4,hf4⟩
 have hF4:=hid (hF3.out.trans hf4)
 have hW4:=hid hw4
 clear hf4 hw4
 go_wp2_with fail
 refine (u0y _ v4 _ (hW4.out.alloc _) [[41]] w4.heap.size 1 rfl (u0h rfl) (by simp [txs] at hlen ⊢; omega)).mono ?_
 rintro e w5 ⟨rfl,v5,hw5,hf5⟩
 have hF5:=hid ((hF4.out.alloc _).trans hf5)
 clear hf5
 go_wp2
 go_end0
 exact ⟨rfl,v5,by simpa [txs,sg] using hw5,hF5.out⟩
theorem binary_mm {nm:List UInt8→Bool} (op:Int) (hop:op=18∨op=19) (a b:Ex) (ia:WE nm a) (ib:WE nm b) (oa:okE nm a=true) (ob:okE nm b=true):WB op a b:=by
 intro bw base w v L A m c hw hs hlen
 have HW:=hid hw
 have HS:=hid hs
 have hlb:=hw.lb
 have hb10:=hw.b10
 have hbl:=hw.lt
 have hLl:=hw.len
 rw [tE_mm hop] at hlen ⊢
 have hsi:signOf op=none:=by rcases hop with rfl | rfl <;> rfl
 obtain ⟨sg_,hsg⟩:∃ s,u3i op=s:=⟨_,rfl⟩
 have hfo:foldK op=some (sg_,op):=by rw [← hsg]; rcases hop with rfl | rfl <;> rfl
 have HSI:=hid hsi
 have HFO:=hid hfo
 have hm:m=2:=by
  rcases hs with ⟨_,h2⟩ | ⟨x,c',h1,_⟩
  ·cases h2
  ·injection h1
 subst hm
 rw [hsg] at hlen ⊢
 have HA:=hid ia
 have HB:=hid ib
 have HOA:=hid oa
 have HOB:=hid ob
 have hG:=hid hw.g.inf
 have hG2:=hid hw.g.fold
 have hmf:∀ (fn:Go.Fn) (first cap:Array Value) (w:World),(Instr.makeFunc fn first cap).run Tryz.prog w=.ok (.func fn first cap) w:=fun _ _ _ _=>rfl
 clear hw hs ia ib oa ob hsi hsg hop hfo
 go_enter Tryz.func166,Tryz.ntmps166
 go_wp2_with fail
 refine (infixSign_any op _ (hG.out.keep (World.grownBy_alloc w _ none) (by simp))).mono ?_
 rw [HSI.out]
 rintro e w0 ⟨rfl,hb0⟩
 unfold signR
 have hz0:=hb0.size
 (try simp only [u0c] at hz0)
 have hg0:=u0f hb0 (some bw)
 obtain ⟨_,_,_,l0⟩:=u0a (q:=w.heap.size) hg0 tLOC (by omega)
 have hW0:=hid ((HW.out.alloc _).below hb0)
 have hF0:=hid (((Wf.refl bw v w).alloc _).trans (Wf.ofBelow (v:=v) hb0))
 clear hb0 hg0
 go_wp2_with fail
 refine (u6a op _ hW0.out.g.fold).mono ?_
 rw [HFO.out]
 rintro e w9 ⟨rfl,hb9⟩
 unfold foldR
 have hz9:=hb9.size
 have hg9:=u0f hb9 (some bw)
 obtain ⟨_,_,_,l9⟩:=u0a (q:=w.heap.size) hg9 l0 (by omega)
 have hW9:=hid (hW0.out.below hb9)
 have hF9:=hid (hF0.out.trans (Wf.ofBelow (v:=v) hb9))
 clear hb9 hg9
 go_wp2_with fail
 refine (u0y _ v _ (hW9.out.alloc _) [sg_] w9.heap.size 1 rfl (u0h rfl) (by simp at hlen ⊢; omega)).mono ?_
 rintro e w1 ⟨rfl,v1,hw1,hf1⟩
 have hz1:=hf1.size
 (try simp only [u0c] at hz1)
 obtain ⟨_,_,_,l1⟩:=u2f (q:=w.heap.size) hf1 tLOC (by omega) (hW9.out.ne l9 (by decide))
 have hF1:=hid ((hF9.out.alloc _).trans hf1)
 have hB1:=hid (hF1.out.bel HW.out)
 have hW1:=hid hw1
 clear hf1 hw1
 go_wp2_with fail
 refine (putList_any (nm:=nm) [a,b] (by intro x hx; simp at hx; rcases hx with rfl | rfl; exact HA.out; exact HB.out) (by intro x hx; simp at hx; rcases hx with rfl | rfl; exact HOA.out; exact HOB.out) bw base _ v1 _ A 2 c hW1.out (u5b hB1.out HS.out) (by simp [u1h,txs] at hlen ⊢; omega) (by simp)).mono ?_
 rintro e w2 ⟨rfl,v2,hw2,hf2⟩
 have hF2:=hid (hF1.out.trans hf2)
 clear hf2
 go_wp2
 go_end0
 exact ⟨rfl,v2,by simpa [txs,sg,u1h] using hw2,hF2.out⟩
theorem write_bin {nm:List UInt8→Bool} (op:Int) (a b:Ex) (hb:WB op a b):WE nm (.mk 4 op 0 [] [a,b]):=by
 intro bw base w v L A m c hw hs hok hlen
 have HW:=hid hw
 have HS:=hid hs
 have hlb:=hw.lb
 have hb10:=hw.b10
 have hbl:=hw.lt
 have HB:=hid hb
 clear hw hs hok hb
 go_enter Tryz.func109,Tryz.ntmps109
 go_wp2_with fail
 refine (HB.out bw base _ v _ A m c (HW.out.alloc _) (u5b ((Below.refl _ _).alloc (by omega) _) HS.out) hlen).mono ?_
 rintro e w2 ⟨rfl,v2,hw2,hf2⟩
 have hF2:=hid (((Wf.refl bw v w).alloc _).trans hf2)
 clear hf2
 go_wp2
 go_end0
 exact ⟨rfl,v2,hw2,hF2.out⟩
mutual
theorem we_all {nm:List UInt8→Bool} (hF:FmtU):(a:Ex)→okE nm a=true→WE nm a
 | .mk kind op num name kids,h=>by
  have hk:=we_kids hF kids (by rw [okE,Bool.and_eq_true] at h; exact h.2)
  obtain ⟨hsh,hok⟩:=okE_mk h
  unfold u3y at hsh
  split at hsh
  ·rename_i e; subst e
   simp at hsh
   obtain ⟨⟨⟨rfl,rfl⟩,hn⟩,hl⟩:=hsh
   subst hl
   exact write_int hF num (by omega)
  ·split at hsh
   ·rename_i e; subst e
    simp at hsh
    obtain ⟨⟨⟨rfl,_⟩,rfl⟩,hl⟩:=hsh
    subst hl
    exact write_name name
   ·split at hsh
    ·rename_i e; subst e
     simp at hsh
     obtain ⟨⟨⟨ho,rfl⟩,rfl⟩,hl⟩:=hsh
     subst hl
     exact write_sp op ho
    ·split at hsh
     ·rename_i e; subst e
      simp at hsh
      obtain ⟨⟨⟨ho,rfl⟩,rfl⟩,hl⟩:=hsh
      obtain ⟨a,rfl⟩:=one_len hl
      exact write_un op ho a (hk a (by simp))
     ·split at hsh
      ·rename_i e; subst e
       simp at hsh
       obtain ⟨⟨⟨ho,rfl⟩,rfl⟩,hl⟩:=hsh
       obtain ⟨a,b,rfl⟩:=two_len hl
       by_cases h18:op<18
       ·exact write_bin op a b (binary_op op ⟨ho.1,h18⟩ a b (hk a (by simp)) (hk b (by simp)) (hok a (by simp)) (hok b (by simp)))
       ·exact write_bin op a b (binary_mm op (by omega) a b (hk a (by simp)) (hk b (by simp)) (hok a (by simp)) (hok b (by simp)))
      ·split at hsh
       ·rename_i e; subst e
        simp at hsh
        obtain ⟨⟨⟨rfl,_⟩,rfl⟩,hl⟩:=hsh
        obtain ⟨a,rfl⟩:=one_len hl
        exact write_load name a (hk a (by simp))
       ·split at hsh
        ·rename_i e; subst e
         simp at hsh
         obtain ⟨⟨⟨rfl,_⟩,rfl⟩,hl⟩:=hsh
         exact write_call name kids hk
        ·cases hsh
theorem we_kids {nm:List UInt8→Bool} (hF:FmtU):(l:List Ex)→okEs nm l=true→∀ a∈l,WE nm a
 | [],_,a,h=>by cases h
 | b :: l,ho,a,h=>by
  rw [okEs,Bool.and_eq_true] at ho
  rcases List.mem_cons.1 h with e | h
  ·rw [e]; exact we_all hF b ho.1
  ·exact we_kids hF l ho.2 a h
end
def WS (f:Nat) (ex:Array Value) (kind op:Int) (name:List UInt8) (exprs:List Ex) (body els:List St) (T:List K):Prop:=∀ (bw base:Nat) (w:World) (v:Value) (L:List Tok) (A:Option Addr) (m c:Nat) (B:Option Addr) (mb cb:Nat) (C:Option Addr) (mc cc:Nat),
 Ws bw base w v L→SlE w (fun g=>g<base) (.slice A m c) exprs→SlS w (fun g=>g<base) (.slice B mb cb) body→SlS w (fun g=>g<base) (.slice C mc cc) els→L.length+T.length≤500000 →
 Calls Tryz.prog f (#[.pointer (some ⟨bw,0,none⟩),.agg #[.int .i64 kind,.int .i64 op,.string (bs name),.slice A m c,.slice B mb cb,.slice C mc cc]]++ex) w (Wrote bw base w v L (txs T))
theorem foldK_ok {op:Int} (h:u7r op=true):foldK op=some (u3s op,op):=by
 simp [u7r] at h
 rcases h with ((((rfl | rfl) | rfl) | rfl) | rfl) | rfl <;> rfl
theorem cell_w {nm:List UInt8→Bool} (kind op:Int) (name sx:List UInt8) (a b:Ex) (ia:WE nm a) (ib:WE nm b) (oa:okE nm a=true) (ob:okE nm b=true):WS 216 #[.string (bs sx)] kind op name [a,b] [] [] ((0,name,0) :: sg [91] :: (tE dgL a++sg [93] :: sg sx :: tE dgL b)):=by
 intro bw base w v L A m c B mb cb C mc cc hw hs hb1 hb2 hlen
 have HW:=hid hw
 have hlb:=hw.lb
 have hb10:=hw.b10
 have hbl:=hw.lt
 have hLl:=hw.len
 obtain ⟨g,o,rfl,rfl,hPg,hrows⟩:=u4j hs (by simp)
 obtain ⟨xk,xo,xn,xx,xA,xm,xc,⟨c0,c1,c2,c3,c4⟩,hrx⟩:=hrows 0 a rfl
 obtain ⟨yk,yo,yn,yx,yA,ym,yc,⟨e0,e1,e2,e3,e4⟩,hry⟩:=hrows 1 b rfl
 simp only [Nat.zero_mul,Nat.add_zero,Nat.one_mul] at c0 c1 c2 c3 c4 e0 e1 e2 e3 e4
 have HX:=hid hrx
 have HA:=hid ia
 have HOA:=hid oa
 have HY:=hid hry
 have HB:=hid ib
 have HOB:=hid ob
 have C0:=hid c0
 have E0:=hid e0
 have C1:=hid c1
 have E1:=hid e1
 have C2:=hid c2
 have E2:=hid e2
 have C3:=hid c3
 have E3:=hid e3
 have C4:=hid c4
 have E4:=hid e4
 clear hrows hrx ia oa c0 c1 c2 c3 c4 hry ib ob e0 e1 e2 e3 e4
 clear hw hs hb1 hb2
 show Calls Tryz.prog 216 #[_,_,_] w _
 go_enter Tryz.func216,Tryz.ntmps216
 go_wp2_with fail
 refine (u0y _ v _ ((HW.out.alloc _).alloc _) [name,[91]] (w.heap.size+1) 2 rfl (u0h (by rw [u0c])) (by simp [txs] at hlen ⊢; omega)).mono ?_
 rintro e w1 ⟨rfl,v1,hw1,hf1⟩
 have hz:=hf1.size
 (try simp only [u0c] at hz)
 obtain ⟨_,_,_,l1⟩:=u2f (q:=w.heap.size) hf1 tLOC (by omega) (fun e=>by have:=(HW.out.olt _ e).2; omega)
 have hF1:=hid ((((Wf.refl bw v w).alloc _).alloc _).trans hf1)
 have hB1:=hid (hF1.out.bel HW.out)
 have hW1:=hid hw1
 clear hf1 hw1 hz
 have d0:=(hB1.out.cell (p:=⟨g,o,none⟩) hPg).trans C0.out
 have d1:=(hB1.out.cell (p:=⟨g,o+1,none⟩) hPg).trans C1.out
 have d2:=(hB1.out.cell (p:=⟨g,o+2,none⟩) hPg).trans C2.out
 have d3:=(hB1.out.cell (p:=⟨g,o+3,none⟩) hPg).trans C3.out
 have d4:=(hB1.out.cell (p:=⟨g,o+4,none⟩) hPg).trans C4.out
 go_wp2_with fail
 refine (HA.out.call bw base _ v1 _ _ _ _ _ _ _ _ hW1.out (u2c hB1.out HX.out) HOA.out (by simp [txs] at hlen ⊢; omega)).mono ?_
 rintro e w2 ⟨rfl,v2,hw2,hf2⟩
 have hz:=hf2.size
 (try simp only [u0c] at hz)
 obtain ⟨_,_,_,l2⟩:=u2f (q:=w.heap.size) hf2 tLOC (by omega) (hW1.out.ne l1 (by decide))
 have hF2:=hid (hF1.out.trans hf2)
 have hB2:=hid (hF2.out.bel HW.out)
 have hW2:=hid hw2
 clear hf2 hw2 hz
 go_wp2_with fail
 refine (u0y _ v2 _ (hW2.out.alloc _) [[93],sx] (w2.heap.size) 2 rfl (u0h rfl) (by simp [txs] at hlen ⊢; omega)).mono ?_
 rintro e w3 ⟨rfl,v3,hw3,hf3⟩
 have hz:=hf3.size
 (try simp only [u0c] at hz)
 obtain ⟨_,_,_,l3⟩:=u2f (q:=w.heap.size) hf3 tLOC (by omega) (hW2.out.ne l2 (by decide))
 have hF3:=hid ((hF2.out.alloc _).trans hf3)
 have hB3:=hid (hF3.out.bel HW.out)
 have hW3:=hid hw3
 clear hf3 hw3 hz
 have f0:=(hB3.out.cell (p:=⟨g,o+5,none⟩) hPg).trans E0.out
 have f1:=(hB3.out.cell (p:=⟨g,o+5+1,none⟩) hPg).trans E1.out
 have f2:=(hB3.out.cell (p:=⟨g,o+5+2,none⟩) hPg).trans E2.out
 have f3:=(hB3.out.cell (p:=⟨g,o+5+3,none⟩) hPg).trans E3.out
 have f4:=(hB3.out.cell (p:=⟨g,o+5+4,none⟩) hPg).trans E4.out
 go_wp2_with fail
 refine (HB.out.call bw base _ v3 _ _ _ _ _ _ _ _ hW3.out (u2c hB3.out HY.out) HOB.out (by simp [txs] at hlen ⊢; omega)).mono ?_
 rintro e w4 ⟨rfl,v4,hw4,hf4⟩
 have hz:=hf4.size
 (try simp only [u0c] at hz)
 obtain ⟨_,_,_,l4⟩:=u2f (q:=w.heap.size) hf4 tLOC (by omega) (hW3.out.ne l3 (by decide))
 have hF4:=hid (hF3.out.trans hf4)
 have hB4:=hid (hF4.out.bel HW.out)
 have hW4:=hid hw4
 clear hf4 hw4 hz
 go_wp2
 go_end0
 exact ⟨rfl,v4,by simpa [txs,sg] using hW4.out,hF4.out⟩
theorem smp_let {nm:List UInt8→Bool} (name:List UInt8) (a:Ex) (ia:WE nm a) (oa:okE nm a=true):WS 203 #[] 0 0 name [a] [] [] (sg wLet :: (0,name,0) :: sg [61] :: tE dgL a):=by
 intro bw base w v L A m c B mb cb C mc cc hw hs hb1 hb2 hlen
 have HW:=hid hw
 have hlb:=hw.lb
 have hb10:=hw.b10
 have hbl:=hw.lt
 have hLl:=hw.len
 obtain ⟨g,o,rfl,rfl,hPg,hrows⟩:=u4j hs (by simp)
 obtain ⟨xk,xo,xn,xx,xA,xm,xc,⟨c0,c1,c2,c3,c4⟩,hrx⟩:=hrows 0 a rfl
 simp only [Nat.zero_mul,Nat.add_zero] at c0 c1 c2 c3 c4
 have HX:=hid hrx
 have HA:=hid ia
 have HOA:=hid oa
 have C0:=hid c0
 have C1:=hid c1
 have C2:=hid c2
 have C3:=hid c3
 have C4:=hid c4
 clear hrows hrx ia oa c0 c1 c2 c3 c4
 clear hw hs hb1 hb2
 show Calls Tryz.prog 203 #[_,_] w _
 go_enter Tryz.func203,Tryz.ntmps203
 go_wp2_with fail
 refine (u0y _ v _ ((HW.out.alloc _).alloc _) [wLet,name,[61]] (w.heap.size+1) 3 rfl (u0h (by rw [u0c])) (by simp [txs] at hlen ⊢; omega)).mono ?_
 rintro e w1 ⟨rfl,v1,hw1,hf1⟩
 have hz:=hf1.size
 (try simp only [u0c] at hz)
 obtain ⟨_,_,_,l1⟩:=u2f (q:=w.heap.size) hf1 tLOC (by omega) (fun e=>by have:=(HW.out.olt _ e).2; omega)
 have hF1:=hid ((((Wf.refl bw v w).alloc _).alloc _).trans hf1)
 have hB1:=hid (hF1.out.bel HW.out)
 have hW1:=hid hw1
 clear hf1 hw1 hz
 have d0:=(hB1.out.cell (p:=⟨g,o,none⟩) hPg).trans C0.out
 have d1:=(hB1.out.cell (p:=⟨g,o+1,none⟩) hPg).trans C1.out
 have d2:=(hB1.out.cell (p:=⟨g,o+2,none⟩) hPg).trans C2.out
 have d3:=(hB1.out.cell (p:=⟨g,o+3,none⟩) hPg).trans C3.out
 have d4:=(hB1.out.cell (p:=⟨g,o+4,none⟩) hPg).trans C4.out
 go_wp2_with fail
 refine (HA.out.call bw base _ v1 _ _ _ _ _ _ _ _ hW1.out (u2c hB1.out HX.out) HOA.out (by simp [txs] at hlen ⊢; omega)).mono ?_
 rintro e w2 ⟨rfl,v2,hw2,hf2⟩
 have hz:=hf2.size
 (try simp only [u0c] at hz)
 obtain ⟨_,_,_,l2⟩:=u2f (q:=w.heap.size) hf2 tLOC (by omega) (hW1.out.ne l1 (by decide))
 have hF2:=hid (hF1.out.trans hf2)
 have hB2:=hid (hF2.out.bel HW.out)
 have hW2:=hid hw2
 clear hf2 hw2 hz
 go_wp2
 go_end0
 exact ⟨rfl,v2,by simpa [txs,sg] using hW2.out,hF2.out⟩
theorem smp_set {nm:List UInt8→Bool} (name:List UInt8) (a:Ex) (ia:WE nm a) (oa:okE nm a=true):WS 203 #[] 1 0 name [a] [] [] ((0,name,0) :: sg [61] :: tE dgL a):=by
 intro bw base w v L A m c B mb cb C mc cc hw hs hb1 hb2 hlen
 have HW:=hid hw
 have hlb:=hw.lb
 have hb10:=hw.b10
 have hbl:=hw.lt
 have hLl:=hw.len
 obtain ⟨g,o,rfl,rfl,hPg,hrows⟩:=u4j hs (by simp)
 obtain ⟨xk,xo,xn,xx,xA,xm,xc,⟨c0,c1,c2,c3,c4⟩,hrx⟩:=hrows 0 a rfl
 simp only [Nat.zero_mul,Nat.add_zero] at c0 c1 c2 c3 c4
 have HX:=hid hrx
 have HA:=hid ia
 have HOA:=hid oa
 have C0:=hid c0
 have C1:=hid c1
 have C2:=hid c2
 have C3:=hid c3
 have C4:=hid c4
 clear hrows hrx ia oa c0 c1 c2 c3 c4
 clear hw hs hb1 hb2
 show Calls Tryz.prog 203 #[_,_] w _
 go_enter Tryz.func203,Tryz.ntmps203
 go_wp2_with fail
 refine (u0y _ v _ ((HW.out.alloc _).alloc _) [name,[61]] (w.heap.size+1) 2 rfl (u0h (by rw [u0c])) (by simp [txs] at hlen ⊢; omega)).mono ?_
 rintro e w1 ⟨rfl,v1,hw1,hf1⟩
 have hz:=hf1.size
 (try simp only [u0c] at hz)
 obtain ⟨_,_,_,l1⟩:=u2f (q:=w.heap.size) hf1 tLOC (by omega) (fun e=>by have:=(HW.out.olt _ e).2; omega)
 have hF1:=hid ((((Wf.refl bw v w).alloc _).alloc _).trans hf1)
 have hB1:=hid (hF1.out.bel HW.out)
 have hW1:=hid hw1
 clear hf1 hw1 hz
 have d0:=(hB1.out.cell (p:=⟨g,o,none⟩) hPg).trans C0.out
 have d1:=(hB1.out.cell (p:=⟨g,o+1,none⟩) hPg).trans C1.out
 have d2:=(hB1.out.cell (p:=⟨g,o+2,none⟩) hPg).trans C2.out
 have d3:=(hB1.out.cell (p:=⟨g,o+3,none⟩) hPg).trans C3.out
 have d4:=(hB1.out.cell (p:=⟨g,o+4,none⟩) hPg).trans C4.out
 go_wp2_with fail
 refine (HA.out.call bw base _ v1 _ _ _ _ _ _ _ _ hW1.out (u2c hB1.out HX.out) HOA.out (by simp [txs] at hlen ⊢; omega)).mono ?_
 rintro e w2 ⟨rfl,v2,hw2,hf2⟩
 have hz:=hf2.size
 (try simp only [u0c] at hz)
 obtain ⟨_,_,_,l2⟩:=u2f (q:=w.heap.size) hf2 tLOC (by omega) (hW1.out.ne l1 (by decide))
 have hF2:=hid (hF1.out.trans hf2)
 have hB2:=hid (hF2.out.bel HW.out)
 have hW2:=hid hw2
 clear hf2 hw2 hz
 go_wp2
 go_end0
 exact ⟨rfl,v2,by simpa [txs,sg] using hW2.out,hF2.out⟩
theorem smp_break {nm:List UInt8→Bool}:WS 203 #[] 5 0 [] [] [] [] ([sg wBreak]):=by
 intro bw base w v L A m c B mb cb C mc cc hw hs hb1 hb2 hlen
 have HW:=hid hw
 have hlb:=hw.lb
 have hb10:=hw.b10
 have hbl:=hw.lt
 have hLl:=hw.len
 clear hw hs hb1 hb2
 show Calls Tryz.prog 203 #[_,_] w _
 go_enter Tryz.func203,Tryz.ntmps203
 go_wp2_with fail
 refine (u0y _ v _ ((HW.out.alloc _).alloc _) [wBreak] (w.heap.size+1) 1 rfl (u0h (by rw [u0c])) (by simp [txs] at hlen ⊢; omega)).mono ?_
 rintro e w1 ⟨rfl,v1,hw1,hf1⟩
 have hz:=hf1.size
 (try simp only [u0c] at hz)
 obtain ⟨_,_,_,l1⟩:=u2f (q:=w.heap.size) hf1 tLOC (by omega) (fun e=>by have:=(HW.out.olt _ e).2; omega)
 have hF1:=hid ((((Wf.refl bw v w).alloc _).alloc _).trans hf1)
 have hB1:=hid (hF1.out.bel HW.out)
 have hW1:=hid hw1
 clear hf1 hw1 hz
 go_wp2
 go_end0
 exact ⟨rfl,v1,by simpa [txs,sg] using hW1.out,hF1.out⟩
theorem smp_continue {nm:List UInt8→Bool}:WS 203 #[] 6 0 [] [] [] [] ([sg u5s]):=by
 intro bw base w v L A m c B mb cb C mc cc hw hs hb1 hb2 hlen
 have HW:=hid hw
 have hlb:=hw.lb
 have hb10:=hw.b10
 have hbl:=hw.lt
 have hLl:=hw.len
 clear hw hs hb1 hb2
 show Calls Tryz.prog 203 #[_,_] w _
 go_enter Tryz.func203,Tryz.ntmps203
 go_wp2_with fail
 refine (u0y _ v _ ((HW.out.alloc _).alloc _) [u5s] (w.heap.size+1) 1 rfl (u0h (by rw [u0c])) (by simp [txs] at hlen ⊢; omega)).mono ?_
 rintro e w1 ⟨rfl,v1,hw1,hf1⟩
 have hz:=hf1.size
 (try simp only [u0c] at hz)
 obtain ⟨_,_,_,l1⟩:=u2f (q:=w.heap.size) hf1 tLOC (by omega) (fun e=>by have:=(HW.out.olt _ e).2; omega)
 have hF1:=hid ((((Wf.refl bw v w).alloc _).alloc _).trans hf1)
 have hB1:=hid (hF1.out.bel HW.out)
 have hW1:=hid hw1
 clear hf1 hw1 hz
 go_wp2
 go_end0
 exact ⟨rfl,v1,by simpa [txs,sg] using hW1.out,hF1.out⟩
theorem smp_barrier {nm:List UInt8→Bool}:WS 203 #[] 8 0 [] [] [] [] ([sg u6x]):=by
 intro bw base w v L A m c B mb cb C mc cc hw hs hb1 hb2 hlen
 have HW:=hid hw
 have hlb:=hw.lb
 have hb10:=hw.b10
 have hbl:=hw.lt
 have hLl:=hw.len
 clear hw hs hb1 hb2
 show Calls Tryz.prog 203 #[_,_] w _
 go_enter Tryz.func203,Tryz.ntmps203
 go_wp2_with fail
 refine (u0y _ v _ ((HW.out.alloc _).alloc _) [u6x] (w.heap.size+1) 1 rfl (u0h (by rw [u0c])) (by simp [txs] at hlen ⊢; omega)).mono ?_
 rintro e w1 ⟨rfl,v1,hw1,hf1⟩
 have hz:=hf1.size
 (try simp only [u0c] at hz)
 obtain ⟨_,_,_,l1⟩:=u2f (q:=w.heap.size) hf1 tLOC (by omega) (fun e=>by have:=(HW.out.olt _ e).2; omega)
 have hF1:=hid ((((Wf.refl bw v w).alloc _).alloc _).trans hf1)
 have hB1:=hid (hF1.out.bel HW.out)
 have hW1:=hid hw1
 clear hf1 hw1 hz
 go_wp2
 go_end0
 exact ⟨rfl,v1,by simpa [txs,sg] using hW1.out,hF1.out⟩
theorem u1v {w w':World} {base:Nat} (h:Below base w w') {v:Value} {l:List St} (hs:SlS w (fun g=>g<base) v l):SlS w' (fun g=>g<base) v l:=hs.keeps (u0z h fun _ hb=>hb) (fun _ hb=>hb)
theorem smp_put {nm:List UInt8→Bool} (name:List UInt8) (a b:Ex) (ia:WE nm a) (ib:WE nm b) (oa:okE nm a=true) (ob:okE nm b=true):WS 203 #[] 2 0 name [a,b] [] [] ((0,name,0) :: sg [91] :: (tE dgL a++sg [93] :: sg [61] :: tE dgL b)):=by
 intro bw base w v L A m c B mb cb C mc cc hw hs hb1 hb2 hlen
 have HW:=hid hw
 have hlb:=hw.lb
 have hb10:=hw.b10
 have hbl:=hw.lt
 have hLl:=hw.len
 have HS:=hid hs
 have HS1:=hid hb1
 have HS2:=hid hb2
 have HCW:=hid (cell_w 2 0 name [61] a b ia ib oa ob)
 clear hw hs hb1 hb2 ia ib oa ob
 show Calls Tryz.prog 203 #[_,_] w _
 go_enter Tryz.func203,Tryz.ntmps203
 go_wp2_with fail
 refine (HCW.out bw base _ v _ A m c B mb cb C mc cc (HW.out.alloc _) (u5b ((Below.refl _ _).alloc (by omega) _) HS.out) (u1v ((Below.refl _ _).alloc (by omega) _) HS1.out) (u1v ((Below.refl _ _).alloc (by omega) _) HS2.out) (by simp [txs] at hlen ⊢; omega)).mono ?_
 rintro e w1 ⟨rfl,v1,hw1,hf1⟩
 have hz:=hf1.size
 (try simp only [u0c] at hz)
 obtain ⟨_,_,_,l1⟩:=u2f (q:=w.heap.size) hf1 tLOC (by omega) (fun e=>by have:=(HW.out.olt _ e).2; omega)
 have hF1:=hid (((Wf.refl bw v w).alloc _).trans hf1)
 have hB1:=hid (hF1.out.bel HW.out)
 have hW1:=hid hw1
 clear hf1 hw1 hz
 go_wp2
 go_end0
 exact ⟨rfl,v1,by simpa [txs,sg] using hW1.out,hF1.out⟩
theorem smp_atomic {nm:List UInt8→Bool} (op:Int) (hop:u7r op=true) (name:List UInt8) (a b:Ex) (ia:WE nm a) (ib:WE nm b) (oa:okE nm a=true) (ob:okE nm b=true):WS 203 #[] 9 op name [a,b] [] [] (sg wAtomic :: sg (u3s op) :: (0,name,0) :: sg [91] :: (tE dgL a++sg [93] :: sg [44] :: tE dgL b)):=by
 intro bw base w v L A m c B mb cb C mc cc hw hs hb1 hb2 hlen
 have HW:=hid hw
 have hlb:=hw.lb
 have hb10:=hw.b10
 have hbl:=hw.lt
 have hLl:=hw.len
 have HS:=hid hs
 have HS1:=hid hb1
 have HS2:=hid hb2
 have HCW:=hid (cell_w 9 op name [44] a b ia ib oa ob)
 have HFO:=hid (foldK_ok hop)
 clear hw hs hb1 hb2 ia ib oa ob hop
 show Calls Tryz.prog 203 #[_,_] w _
 go_enter Tryz.func203,Tryz.ntmps203
 go_wp2_with fail
 refine (u6a op _ (HW.out.alloc _).g.fold).mono ?_
 rw [HFO.out]
 rintro e w1 ⟨rfl,hbk⟩
 unfold foldR
 have hz:=hbk.size
 (try simp only [u0c] at hz)
 have hgk:=u0f hbk (some bw)
 obtain ⟨_,_,_,l1⟩:=u0a (q:=w.heap.size) hgk tLOC (by omega)
 have hW1:=hid ((HW.out.alloc _).below hbk)
 have hF1:=hid (((Wf.refl bw v w).alloc _).trans (Wf.ofBelow (v:=v) hbk))
 have hB1:=hid (hF1.out.bel HW.out)
 clear hbk hgk hz
 go_wp2_with fail
 refine (u0y _ v _ (hW1.out.alloc _) [wAtomic,u3s op] (w1.heap.size) 2 rfl (u0h rfl) (by simp [txs] at hlen ⊢; omega)).mono ?_
 rintro e w2 ⟨rfl,v2,hw2,hf2⟩
 have hz:=hf2.size
 (try simp only [u0c] at hz)
 obtain ⟨_,_,_,l2⟩:=u2f (q:=w.heap.size) hf2 tLOC (by omega) (hW1.out.ne l1 (by decide))
 have hF2:=hid ((hF1.out.alloc _).trans hf2)
 have hB2:=hid (hF2.out.bel HW.out)
 have hW2:=hid hw2
 clear hf2 hw2 hz
 go_wp2_with fail
 refine (HCW.out bw base _ v2 _ A m c B mb cb C mc cc hW2.out (u5b hB2.out HS.out) (u1v hB2.out HS1.out) (u1v hB2.out HS2.out) (by simp [txs] at hlen ⊢; omega)).mono ?_
 rintro e w3 ⟨rfl,v3,hw3,hf3⟩
 have hz:=hf3.size
 (try simp only [u0c] at hz)
 obtain ⟨_,_,_,l3⟩:=u2f (q:=w.heap.size) hf3 tLOC (by omega) (hW2.out.ne l2 (by decide))
 have hF3:=hid (hF2.out.trans hf3)
 have hB3:=hid (hF3.out.bel HW.out)
 have hW3:=hid hw3
 clear hf3 hw3 hz
 go_wp2
 go_end0
 exact ⟨rfl,v3,by simpa [txs,sg] using hW3.out,hF3.out⟩
theorem smp_collect {nm:List UInt8→Bool} (op:Int) (hop:u7r op=true) (name:List UInt8) (a:Ex) (ia:WE nm a) (oa:okE nm a=true):WS 203 #[] 10 op name [a] [] [] (sg u6w :: (0,name,0) :: sg [61] :: sg (u3s op) :: tE dgL a):=by
 intro bw base w v L A m c B mb cb C mc cc hw hs hb1 hb2 hlen
 have HW:=hid hw
 have hlb:=hw.lb
 have hb10:=hw.b10
 have hbl:=hw.lt
 have hLl:=hw.len
 obtain ⟨g,o,rfl,rfl,hPg,hrows⟩:=u4j hs (by simp)
 obtain ⟨xk,xo,xn,xx,xA,xm,xc,⟨c0,c1,c2,c3,c4⟩,hrx⟩:=hrows 0 a rfl
 simp only [Nat.zero_mul,Nat.add_zero] at c0 c1 c2 c3 c4
 have HX:=hid hrx
 have HA:=hid ia
 have HOA:=hid oa
 have C0:=hid c0
 have C1:=hid c1
 have C2:=hid c2
 have C3:=hid c3
 have C4:=hid c4
 clear hrows hrx ia oa c0 c1 c2 c3 c4
 have HFO:=hid (foldK_ok hop)
 clear hw hs hb1 hb2 hop
 show Calls Tryz.prog 203 #[_,_] w _
 go_enter Tryz.func203,Tryz.ntmps203
 go_wp2_with fail
 refine (u6a op _ (HW.out.alloc _).g.fold).mono ?_
 rw [HFO.out]
 rintro e w1 ⟨rfl,hbk⟩
 unfold foldR
 have hz:=hbk.size
 (try simp only [u0c] at hz)
 have hgk:=u0f hbk (some bw)
 obtain ⟨_,_,_,l1⟩:=u0a (q:=w.heap.size) hgk tLOC (by omega)
 have hW1:=hid ((HW.out.alloc _).below hbk)
 have hF1:=hid (((Wf.refl bw v w).alloc _).trans (Wf.ofBelow (v:=v) hbk))
 have hB1:=hid (hF1.out.bel HW.out)
 clear hbk hgk hz
 go_wp2_with fail
 refine (u0y _ v _ (hW1.out.alloc _) [u6w,name,[61],u3s op] (w1.heap.size) 4 rfl (u0h rfl) (by simp [txs] at hlen ⊢; omega)).mono ?_
 rintro e w2 ⟨rfl,v2,hw2,hf2⟩
 have hz:=hf2.size
 (try simp only [u0c] at hz)
 obtain ⟨_,_,_,l2⟩:=u2f (q:=w.heap.size) hf2 tLOC (by omega) (hW1.out.ne l1 (by decide))
 have hF2:=hid ((hF1.out.alloc _).trans hf2)
 have hB2:=hid (hF2.out.bel HW.out)
 have hW2:=hid hw2
 clear hf2 hw2 hz
 have d0:=(hB2.out.cell (p:=⟨g,o,none⟩) hPg).trans C0.out
 have d1:=(hB2.out.cell (p:=⟨g,o+1,none⟩) hPg).trans C1.out
 have d2:=(hB2.out.cell (p:=⟨g,o+2,none⟩) hPg).trans C2.out
 have d3:=(hB2.out.cell (p:=⟨g,o+3,none⟩) hPg).trans C3.out
 have d4:=(hB2.out.cell (p:=⟨g,o+4,none⟩) hPg).trans C4.out
 go_wp2_with fail
 refine (HA.out.call bw base _ v2 _ _ _ _ _ _ _ _ hW2.out (u2c hB2.out HX.out) HOA.out (by simp [txs] at hlen ⊢; omega)).mono ?_
 rintro e w3 ⟨rfl,v3,hw3,hf3⟩
 have hz:=hf3.size
 (try simp only [u0c] at hz)
 obtain ⟨_,_,_,l3⟩:=u2f (q:=w.heap.size) hf3 tLOC (by omega) (hW2.out.ne l2 (by decide))
 have hF3:=hid (hF2.out.trans hf3)
 have hB3:=hid (hF3.out.bel HW.out)
 have hW3:=hid hw3
 clear hf3 hw3 hz
 go_wp2
 go_end0
 exact ⟨rfl,v3,by simpa [txs,sg] using hW3.out,hF3.out⟩
theorem smp_ret0 {nm:List UInt8→Bool}:WS 203 #[] 7 0 [] [] [] [] ([sg u6l]):=by
 intro bw base w v L A m c B mb cb C mc cc hw hs hb1 hb2 hlen
 have HW:=hid hw
 have hlb:=hw.lb
 have hb10:=hw.b10
 have hbl:=hw.lt
 have hLl:=hw.len
 have hm:m=0:=by
  rcases hs with ⟨h1,_⟩ | ⟨x,c',h1,_⟩
  ·injection h1
  ·injection h1
 subst hm
 clear hw hs hb1 hb2
 show Calls Tryz.prog 203 #[_,_] w _
 go_enter Tryz.func203,Tryz.ntmps203
 go_wp2_with fail
 refine (u0y _ v _ ((HW.out.alloc _).alloc _) [u6l] (w.heap.size+1) 1 rfl (u0h (by rw [u0c])) (by simp [txs] at hlen ⊢; omega)).mono ?_
 rintro e w1 ⟨rfl,v1,hw1,hf1⟩
 have hz:=hf1.size
 (try simp only [u0c] at hz)
 obtain ⟨_,_,_,l1⟩:=u2f (q:=w.heap.size) hf1 tLOC (by omega) (fun e=>by have:=(HW.out.olt _ e).2; omega)
 have hF1:=hid ((((Wf.refl bw v w).alloc _).alloc _).trans hf1)
 have hB1:=hid (hF1.out.bel HW.out)
 have hW1:=hid hw1
 clear hf1 hw1 hz
 go_wp2_with fail
 refine wp_loop_rounds 1 ?_
 rw [rounds_succ]
 go_wp2
 go_end0
 exact ⟨rfl,v1,by simpa [txs,sg] using hW1.out,hF1.out⟩
theorem smp_ret1 {nm:List UInt8→Bool} (a:Ex) (ia:WE nm a) (oa:okE nm a=true):WS 203 #[] 7 0 [] [a] [] [] (sg u6l :: tE dgL a):=by
 intro bw base w v L A m c B mb cb C mc cc hw hs hb1 hb2 hlen
 have HW:=hid hw
 have hlb:=hw.lb
 have hb10:=hw.b10
 have hbl:=hw.lt
 have hLl:=hw.len
 obtain ⟨g,o,rfl,rfl,hPg,hrows⟩:=u4j hs (by simp)
 obtain ⟨xk,xo,xn,xx,xA,xm,xc,⟨c0,c1,c2,c3,c4⟩,hrx⟩:=hrows 0 a rfl
 simp only [Nat.zero_mul,Nat.add_zero] at c0 c1 c2 c3 c4
 have HX:=hid hrx
 have HA:=hid ia
 have HOA:=hid oa
 have C0:=hid c0
 have C1:=hid c1
 have C2:=hid c2
 have C3:=hid c3
 have C4:=hid c4
 clear hrows hrx ia oa c0 c1 c2 c3 c4
 clear hw hs hb1 hb2
 show Calls Tryz.prog 203 #[_,_] w _
 go_enter Tryz.func203,Tryz.ntmps203
 go_wp2_with fail
 refine (u0y _ v _ ((HW.out.alloc _).alloc _) [u6l] (w.heap.size+1) 1 rfl (u0h (by rw [u0c])) (by simp [txs] at hlen ⊢; omega)).mono ?_
 rintro e w1 ⟨rfl,v1,hw1,hf1⟩
 have hz:=hf1.size
 (try simp only [u0c] at hz)
 obtain ⟨_,_,_,l1⟩:=u2f (q:=w.heap.size) hf1 tLOC (by omega) (fun e=>by have:=(HW.out.olt _ e).2; omega)
 have hF1:=hid ((((Wf.refl bw v w).alloc _).alloc _).trans hf1)
 have hB1:=hid (hF1.out.bel HW.out)
 have hW1:=hid hw1
 clear hf1 hw1 hz
 have d0:=(hB1.out.cell (p:=⟨g,o,none⟩) hPg).trans C0.out
 have d1:=(hB1.out.cell (p:=⟨g,o+1,none⟩) hPg).trans C1.out
 have d2:=(hB1.out.cell (p:=⟨g,o+2,none⟩) hPg).trans C2.out
 have d3:=(hB1.out.cell (p:=⟨g,o+3,none⟩) hPg).trans C3.out
 have d4:=(hB1.out.cell (p:=⟨g,o+4,none⟩) hPg).trans C4.out
 go_wp2_with fail
 refine wp_loop_rounds 2 ?_
 rw [rounds_succ]
 go_wp2_with fail
 refine (HA.out.call bw base _ v1 _ _ _ _ _ _ _ _ (hW1.out.alloc _) (u2c (hB1.out.alloc (by have:=hB1.out.size; omega) _) HX.out) HOA.out (by simp [txs] at hlen ⊢; omega)).mono ?_
 rintro e w2 ⟨rfl,v2,hw2,hf2⟩
 have hF2:=hid ((hF1.out.alloc _).trans hf2)
 have hW2:=hid hw2
 clear hf2 hw2
 go_wp2_with fail
 rw [rounds_succ]
 go_wp2
 go_end0
 exact ⟨rfl,v2,by simpa [txs,sg] using hW2.out,hF2.out⟩
def WSt:St→Prop
 | .mk kind op name exprs body els=>WS 187 #[] kind op name exprs body els (tS dgL (.mk kind op name exprs body els))
def WBo (f:Nat) (l:List St) (T:List K):Prop:=∀ (bw base:Nat) (w:World) (v:Value) (L:List Tok) (B:Option Addr) (mb cb:Nat),Ws bw base w v L→SlS w (fun g=>g<base) (.slice B mb cb) l→L.length+T.length≤500000 →
 Calls Tryz.prog f #[.pointer (some ⟨bw,0,none⟩),.slice B mb cb] w (Wrote bw base w v L (txs T))
theorem WSt.call {s:St} (h:WSt s) (bw base:Nat) (w:World) (v:Value) (L:List Tok) (k o:Int) (x:List UInt8) (A:Option Addr) (m c:Nat) (B:Option Addr) (mb cb:Nat) (C:Option Addr) (mc cc:Nat) (hw:Ws bw base w v L)
  (hr:RS w (fun g=>g<base) [.int .i64 k,.int .i64 o,.string (bs x),.slice A m c,.slice B mb cb,.slice C mc cc] s) (hl:L.length+(tS dgL s).length≤500000) :
  Calls Tryz.prog 187 #[.pointer (some ⟨bw,0,none⟩),.agg #[.int .i64 k,.int .i64 o,.string (bs x),.slice A m c,.slice B mb cb,.slice C mc cc]] w (Wrote bw base w v L (txs (tS dgL s))):=by
 cases s with
 | mk kind op name exprs body els =>
  rw [RS_eq] at hr
  obtain ⟨E,F,G,hc,h1,h2,h3⟩:=hr
  simp only [stRow,List.cons.injEq,Value.int.injEq,Value.string.injEq,true_and,and_true] at hc
  obtain ⟨e1,e2,e3,e4,e5,e6⟩:=hc
  have e3:=bs_inj e3
  subst e1; subst e2; subst e3; subst e4; subst e5; subst e6
  exact h bw base w v L A m c B mb cb C mc cc hw h1 h2 h3 hl
theorem srow_form {w:World} {P:Nat→Prop} {cs:List Value} {a:St} (h:RS w P cs a):∃ (k o:Int) (x:List UInt8) (A:Option Addr) (m c:Nat) (B:Option Addr) (mb cb:Nat) (C:Option Addr) (mc cc:Nat),cs=[.int .i64 k,.int .i64 o,.string (bs x),.slice A m c,.slice B mb cb,.slice C mc cc]:=by
 cases a with
 | mk kind op name exprs body els =>
  rw [RS_eq] at h
  obtain ⟨E,F,G,hc,h1,h2,h3⟩:=h
  obtain ⟨A,m,c,rfl⟩:=h1.form
  obtain ⟨B,mb,cb,rfl⟩:=h2.form
  obtain ⟨C,mc,cc,rfl⟩:=h3.form
  exact ⟨_,_,_,_,_,_,_,_,_,_,_,_,hc⟩
theorem stmts_at {w:World} {P:Nat→Prop} {A:Option Addr} {m c:Nat} {l:List St} (h:SlS w P (.slice A m c) l) (hk:0<l.length):∃ g o,A=some ⟨g,o,none⟩∧m=l.length∧P g∧∀ k a,l[k]? = some a→∃ (sk so:Int) (x:List UInt8) (A:Option Addr) (m c:Nat) (B:Option Addr) (mb cb:Nat) (C:Option Addr) (mc cc:Nat),
  (w.cell? ⟨g,o+k * 6,none⟩=some (.int .i64 sk)∧w.cell? ⟨g,o+k * 6+1,none⟩=some (.int .i64 so)∧w.cell? ⟨g,o+k * 6+2,none⟩=some (.string (bs x))∧w.cell? ⟨g,o+k * 6+3,none⟩=some (.slice A m c) ∧
  w.cell? ⟨g,o+k * 6+4,none⟩=some (.slice B mb cb)∧w.cell? ⟨g,o+k * 6+5,none⟩=some (.slice C mc cc))∧RS w P [.int .i64 sk,.int .i64 so,.string (bs x),.slice A m c,.slice B mb cb,.slice C mc cc] a:=by
 rcases h with ⟨_,h⟩ | ⟨x,c',hv,hx,hr⟩
 ·rw [h] at hk; cases hk
 ·injection hv with h3 h4 h5
  have hsp:x.spot=none:=by
   obtain ⟨a0,ha0⟩:∃ a,l[0]? = some a:=⟨l[0],List.getElem?_eq_getElem hk⟩
   obtain ⟨cs,hat,hre⟩:=RSs.get l x hr 0 a0 ha0
   obtain ⟨_,_,_,_,_,_,_,_,_,_,_,_,rfl⟩:=srow_form hre
   have:=hat 0 _ rfl
   simpa [Addr.add] using World.cell?_spot this
  refine ⟨x.block,x.off,by rw [h3]; congr 1; cases x; simp at hsp; subst hsp; rfl,h4,hx (fun e=>by rw [e] at hk; cases hk),fun k a ha=>?_⟩
  obtain ⟨cs,hat,hre⟩:=RSs.get l x hr k a ha
  obtain ⟨sk,so,y,A',m',c2,B,mb,cb,C,mc,cc,rfl⟩:=srow_form hre
  have ad:∀ j,(x.add (k * 6)).add j=⟨x.block,x.off+k * 6+j,none⟩:=by
   intro j
   rw [add_add]
   unfold Addr.add
   split
   ·rename_i h0
    have:k=0∧j=0:=by omega
    obtain ⟨rfl,rfl⟩:=this
    cases x; simp at hsp; subst hsp; rfl
   ·simp [Nat.add_assoc]
  have c0:=hat 0 _ rfl
  have c1:=hat 1 _ rfl
  have c2':=hat 2 _ rfl
  have c3:=hat 3 _ rfl
  have c4:=hat 4 _ rfl
  have c5:=hat 5 _ rfl
  rw [ad] at c0 c1 c2' c3 c4 c5
  exact ⟨sk,so,y,A',m',c2,B,mb,cb,C,mc,cc,⟨c0,c1,c2',c3,c4,c5⟩,hre⟩
theorem below_rs {w w':World} {base:Nat} (h:Below base w w'):∀ {cs:List Value} {a:St},RS w (fun g=>g<base) cs a→RS w' (fun g=>g<base) cs a:=fun hr=>RS.keeps (u0z h fun _ hb=>hb) (fun _ hb=>hb) _ _ hr
theorem tSs_take (l:List St):∀ k s,l[k]? = some s→tSs dgL (l.take (k+1))=tSs dgL (l.take k)++tS dgL s:=by
 induction l with
 | nil=>intro k s h; simp at h
 | cons a r ih =>
  intro k s h
  cases k with
  | zero=>simp at h; subst h; simp [tSs]
  | succ k =>
   simp at h
   rw [List.take_succ_cons,tSs,ih k s h,List.take_succ_cons,tSs,List.append_assoc]
theorem tSs_le (l:List St):∀ n k,k+n=l.length→(tSs dgL (l.take k)).length≤(tSs dgL l).length
 | 0,k,h=>by rw [List.take_of_length_le (by omega)]; exact Nat.le_refl _
 | n+1,k,h=>by
  have h1:=tSs_le l n (k+1) (by omega)
  rw [tSs_take l k _ (List.getElem?_eq_getElem (show k<l.length by omega)),List.length_append] at h1
  omega
theorem tSs_room {l:List St} {k:Nat} {s:St} (h:l[k]? = some s):(tSs dgL (l.take k)).length+(tS dgL s).length≤(tSs dgL l).length:=by
 have hk:=(List.getElem?_eq_some_iff.1 h).1
 have h1:=tSs_le l (l.length - (k+1)) (k+1) (by omega)
 rw [tSs_take l k s h,List.length_append] at h1
 exact h1
theorem tS_pos (s:St):0<(tS dgL s).length:=by
 cases s with
 | mk kind op name exprs body els =>
  rw [tS]; unfold stT
  repeat' split
  all_goals simp
theorem tSs_count:∀ l:List St,l.length≤(tSs dgL l).length
 | []=>by simp
 | s :: r=>by
  have h1:=tSs_count r
  have h2:=tS_pos s
  rw [tSs,List.length_append,List.length_cons]; omega
theorem rest_w (l:List St) (hl:∀ s∈l,WSt s):WBo 161 l (tSs dgL l++[sg [125]]):=by
 intro bw base w v L B mb cb hw hs hlen
 have hm:mb=l.length:=by
  rcases hs with ⟨h1,h2⟩ | ⟨x,c',h1,_⟩
  ·injection h1 with _ h1 _; rw [h1,h2]; rfl
  ·injection h1
 subst hm
 have HW:=hid hw
 have HS:=hid hs
 have hlb:=hw.lb
 have hbl:=hw.lt
 have hcount:=tSs_count l
 have hlen':L.length+(tSs dgL l).length+1≤500000:=by simpa [Nat.add_assoc] using hlen
 clear hw hs
 go_enter Tryz.func161,Tryz.ntmps161
 go_wp2_with fail
 go_loopw [8] (fun i wr=>∃ (k:Nat) (v':Value),k≤l.length∧i=.int .i64 k∧Ws bw base wr v' (L++(txs (tSs dgL (l.take k))).map tk)∧Wf bw v w wr v') (fun i _=>l.length - (intOf i).toNat)
 case atStart=>exact ⟨0,v,Nat.zero_le _,rfl,by simpa [txs,tSs] using HW.out,Wf.refl _ _ _⟩
 case round =>
  obtain ⟨k,v',hkk,rfl,hs,hf⟩:=hrel
  have HSr:=hid hs
  have HFr:=hid hf
  have hbr:=hf.bel HW.out
  have hblr:=hs.lt
  have hzr:=hf.size
  by_cases hlt:k<l.length
  ·obtain ⟨a,ha⟩:∃ a,l[k]? = some a:=⟨l[k],List.getElem?_eq_getElem hlt⟩
   obtain ⟨g,o,rfl,_,hPg,hrows⟩:=stmts_at (u1v hbr HS.out) (by omega)
   obtain ⟨sk,so,x,A1,m1,c1,B1,m2,c2,C1,m3,c3,⟨d0,d1,d2,d3,d4,d5⟩,hre⟩:=hrows k a ha
   have hin:(0:Int)≤k∧(k:Int)<l.length:=⟨by omega,by omega⟩
   have hmem:=List.mem_of_getElem? ha
   have hroom:=hid (tSs_room ha)
   have HA:=hid ha
   have HR:=hid hre
   have HK:=hid (hl a hmem)
   clear hs hf hrows ha hre
   go_wp2_with fail
   refine (HK.out.call bw base _ v' _ _ _ _ _ _ _ _ _ _ _ _ _ (HSr.out.alloc _) (below_rs ((Below.refl _ _).alloc (by omega) _) HR.out) (by have:=hroom.out; simp [txs] at this ⊢; omega)).mono ?_
   rintro e w3 ⟨rfl,v3,hw3,hf3⟩
   have hF3:=hid ((HFr.out.alloc _).trans hf3)
   have hW3:=hid hw3
   clear hw3 hf3
   go_wp2
   go_roundw
   case rel =>
    refine ⟨k+1,v3,by omega,by go_num,?_,hF3.out⟩
    rw [tSs_take l k a HA.out]
    have:=hW3.out
    simpa [txs] using this
   case measure=>simp [intOf]; omega
  ·go_wp2_with fail
   refine (u0y _ v' _ (HSr.out.alloc _) [[125]] wr.heap.size 1 rfl (u0h rfl) (by rw [List.take_of_length_le (by omega)]; simp [txs]; omega)).mono ?_
   rintro e w2 ⟨rfl,v2,hw2,hf2⟩
   have hF2:=hid ((HFr.out.alloc _).trans hf2)
   have hW2:=hid hw2
   clear hw2 hf2
   go_wp2
   go_end0
   refine ⟨rfl,v2,?_,hF2.out⟩
   have:=hW2.out
   rw [List.take_of_length_le (by omega)] at this
   simpa [txs,sg] using this
theorem block_w (l:List St) (hl:WBo 161 l (tSs dgL l++[sg [125]])):WBo 157 l (u1j (tSs dgL l)):=by
 intro bw base w v L B mb cb hw hs hlen
 have HW:=hid hw
 have HS:=hid hs
 have HL:=hid hl
 have hlb:=hw.lb
 have hbl:=hw.lt
 have hlen':L.length+(tSs dgL l).length+2≤500000:=by
  unfold u1j at hlen; simp at hlen; omega
 clear hw hs hl
 go_enter Tryz.func157,Tryz.ntmps157
 go_wp2_with fail
 refine (u0y _ v _ (HW.out.alloc _) [[123]] w.heap.size 1 rfl (u0h rfl) (by simp; omega)).mono ?_
 rintro e w1 ⟨rfl,v1,hw1,hf1⟩
 have hF1:=hid (((Wf.refl bw v w).alloc _).trans hf1)
 have hB1:=hid (hF1.out.bel HW.out)
 have hW1:=hid hw1
 clear hw1 hf1
 go_wp2_with fail
 refine (HL.out bw base _ v1 _ B mb cb hW1.out (u1v hB1.out HS.out) (by simp; omega)).mono ?_
 rintro e w2 ⟨rfl,v2,hw2,hf2⟩
 have hF2:=hid (hF1.out.trans hf2)
 clear hf2
 go_wp2
 go_end0
 exact ⟨rfl,v2,by unfold u1j; simpa [txs,sg] using hw2,hF2.out⟩
end Go.Proofs.YtbkhnilbgocpnaaGreatDoor.SynC
