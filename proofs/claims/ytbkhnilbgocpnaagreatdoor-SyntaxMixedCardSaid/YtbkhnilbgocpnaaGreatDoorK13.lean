import Derived.Deep.RegionHeld3
import Derived.Test.YtbkhnilbgocpnaaGreatDoorK0
import Derived.Test.YtbkhnilbgocpnaaGreatDoorK12
set_option linter.unusedVariables false
set_option linter.unusedSimpArgs false
set_option maxRecDepth 100000
set_option maxHeartbeats 2000000
open Go.Lib (hid)
namespace Go.Proofs.YtbkhnilbgocpnaaGreatDoor.SynC
open Go.Proofs.YtbkhnilbgocpnaaGreatDoor.LexC
open Go Go.ChangeShapes Go.WideShapes Go.ChangeAt Go.RowKit Go.Deep
def plainK (kind:Int):Bool:=!(kind == 3)&&!(kind == 4)
theorem end_w (kind op:Int) (name:List UInt8) (exprs:List Ex) (body els:List St) (T:List K) (hk:plainK kind=true) (hS:WS 203 #[] kind op name exprs body els T):WS 187 #[] kind op name exprs body els (T++[sg [59]]):=by
 intro bw base w v L A m c B mb cb C mc cc hw hs hb1 hb2 hlen
 have HW:=hid hw
 have HS:=hid hs
 have HS1:=hid hb1
 have HS2:=hid hb2
 have hlb:=hw.lb
 have hb10:=hw.b10
 have hbl:=hw.lt
 have hLl:=hw.len
 have HT:=hid hS
 have hlen':L.length+T.length+1≤500000:=by simpa [Nat.add_assoc] using hlen
 unfold plainK at hk
 simp only [Bool.and_eq_true,Bool.not_eq_true'] at hk
 obtain ⟨k3,k4⟩:=hk
 clear hw hs hb1 hb2 hS
 show Calls Tryz.prog 187 #[_,_] w _
 go_enter Tryz.func187,Tryz.ntmps187
 go_wp2_with fail
 refine (show Calls Tryz.prog 203 #[.pointer (some ⟨bw,0,none⟩),.agg #[.int .i64 kind,.int .i64 op,.string (bs name),.slice A m c,.slice B mb cb,.slice C mc cc]] _ _ from HT.out bw base _ v _ A m c B mb cb C mc cc (HW.out.alloc _) (u5b ((Below.refl _ _).alloc (by omega) _) HS.out) (u1v ((Below.refl _ _).alloc (by omega) _) HS1.out) (u1v ((Below.refl _ _).alloc (by omega) _) HS2.out) (by omega)).mono ?_
 rintro e w1 ⟨rfl,v1,hw1,hf1⟩
 have hF1:=hid (((Wf.refl bw v w).alloc _).trans hf1)
 have hW1:=hid hw1
 clear hf1 hw1
 go_wp2_with fail
 refine (u0y _ v1 _ (hW1.out.alloc _) [[59]] w1.heap.size 1 rfl (u0h rfl) (by simp [txs]; omega)).mono ?_
 rintro e w2 ⟨rfl,v2,hw2,hf2⟩
 have hF2:=hid ((hF1.out.alloc _).trans hf2)
 clear hf2
 go_wp2
 go_end0
 exact ⟨rfl,v2,by simpa [txs,sg] using hw2,hF2.out⟩
theorem while_w {nm:List UInt8→Bool} (a:Ex) (ia:WE nm a) (oa:okE nm a=true) (b:List St) (hb:WBo 157 b (u1j (tSs dgL b))):WS 187 #[] 4 0 [] [a] b [] (sg wWhile :: (tE dgL a++u1j (tSs dgL b))):=by
 intro bw base w v L A m c B mb cb C mc cc hw hs hb1 hb2 hlen
 have HW:=hid hw
 have HS:=hid hs
 have HS1:=hid hb1
 have HS2:=hid hb2
 have hlb:=hw.lb
 have hb10:=hw.b10
 have hbl:=hw.lt
 have hLl:=hw.len
 obtain ⟨g,o,rfl,rfl,hPg,hrows⟩:=u4j hs (by simp)
 obtain ⟨xk,xo,xn,xx,xA,xm,xc,⟨c0,c1,c2,c3,c4⟩,hrx⟩:=hrows 0 a rfl
 simp only [Nat.zero_mul,Nat.add_zero] at c0 c1 c2 c3 c4
 have HX:=hid hrx
 have HA:=hid ia
 have HOA:=hid oa
 have C0:=hid c0
 have C1:=hid c1
 have C2:=hid c2
 have C3:=hid c3
 have C4:=hid c4
 clear hrows hrx ia oa c0 c1 c2 c3 c4
 have HBB:=hid hb
 clear hw hs hb1 hb2 hb
 show Calls Tryz.prog 187 #[_,_] w _
 go_enter Tryz.func187,Tryz.ntmps187
 go_wp2_with fail
 refine (u0y _ v _ ((HW.out.alloc _).alloc _) [wWhile] (w.heap.size+1) 1 rfl (u0h (by rw [u0c])) (by simp [txs,u1j] at hlen ⊢; omega)).mono ?_
 rintro e w1 ⟨rfl,v1,hw1,hf1⟩
 have hz:=hf1.size
 (try simp only [u0c] at hz)
 obtain ⟨_,_,_,l1⟩:=u2f (q:=w.heap.size) hf1 tLOC (by omega) (fun e=>by have:=(HW.out.olt _ e).2; omega)
 have hF1:=hid ((((Wf.refl bw v w).alloc _).alloc _).trans hf1)
 have hB1:=hid (hF1.out.bel HW.out)
 have hW1:=hid hw1
 clear hf1 hw1 hz
 have d0:=(hB1.out.cell (p:=⟨g,o,none⟩) hPg).trans C0.out
 have d1:=(hB1.out.cell (p:=⟨g,o+1,none⟩) hPg).trans C1.out
 have d2:=(hB1.out.cell (p:=⟨g,o+2,none⟩) hPg).trans C2.out
 have d3:=(hB1.out.cell (p:=⟨g,o+3,none⟩) hPg).trans C3.out
 have d4:=(hB1.out.cell (p:=⟨g,o+4,none⟩) hPg).trans C4.out
 go_wp2_with fail
 refine (HA.out.call bw base _ v1 _ _ _ _ _ _ _ _ hW1.out (u2c hB1.out HX.out) HOA.out (by simp [txs,u1j] at hlen ⊢; omega)).mono ?_
 rintro e w2 ⟨rfl,v2,hw2,hf2⟩
 have hz:=hf2.size
 (try simp only [u0c] at hz)
 obtain ⟨_,_,_,l2⟩:=u2f (q:=w.heap.size) hf2 tLOC (by omega) (hW1.out.ne l1 (by decide))
 have hF2:=hid (hF1.out.trans hf2)
 have hB2:=hid (hF2.out.bel HW.out)
 have hW2:=hid hw2
 clear hf2 hw2 hz
 go_wp2_with fail
 refine (HBB.out bw base _ v2 _ B mb cb hW2.out (u1v hB2.out HS1.out) (by simp [txs,u1j] at hlen ⊢; omega)).mono ?_
 rintro e w3 ⟨rfl,v3,hw3,hf3⟩
 have hz:=hf3.size
 (try simp only [u0c] at hz)
 obtain ⟨_,_,_,l3⟩:=u2f (q:=w.heap.size) hf3 tLOC (by omega) (hW2.out.ne l2 (by decide))
 have hF3:=hid (hF2.out.trans hf3)
 have hB3:=hid (hF3.out.bel HW.out)
 have hW3:=hid hw3
 clear hf3 hw3 hz
 go_wp2
 go_end0
 exact ⟨rfl,v3,by simpa [txs,sg,u1j] using hW3.out,hF3.out⟩
theorem if_w {nm:List UInt8→Bool} (a:Ex) (ia:WE nm a) (oa:okE nm a=true) (b:List St) (hb:WBo 157 b (u1j (tSs dgL b))):WS 187 #[] 3 0 [] [a] b [] (sg wIf :: (tE dgL a++u1j (tSs dgL b))):=by
 intro bw base w v L A m c B mb cb C mc cc hw hs hb1 hb2 hlen
 have HW:=hid hw
 have HS:=hid hs
 have HS1:=hid hb1
 have HS2:=hid hb2
 have hlb:=hw.lb
 have hb10:=hw.b10
 have hbl:=hw.lt
 have hLl:=hw.len
 obtain ⟨g,o,rfl,rfl,hPg,hrows⟩:=u4j hs (by simp)
 obtain ⟨xk,xo,xn,xx,xA,xm,xc,⟨c0,c1,c2,c3,c4⟩,hrx⟩:=hrows 0 a rfl
 simp only [Nat.zero_mul,Nat.add_zero] at c0 c1 c2 c3 c4
 have HX:=hid hrx
 have HA:=hid ia
 have HOA:=hid oa
 have C0:=hid c0
 have C1:=hid c1
 have C2:=hid c2
 have C3:=hid c3
 have C4:=hid c4
 clear hrows hrx ia oa c0 c1 c2 c3 c4
 have HBB:=hid hb
 have hmc:mc=0:=by
  rcases hb2 with ⟨h1,_⟩ | ⟨x,c',h1,_⟩
  ·injection h1
  ·injection h1
 subst hmc
 clear hw hs hb1 hb2 hb
 show Calls Tryz.prog 187 #[_,_] w _
 go_enter Tryz.func187,Tryz.ntmps187
 go_wp2_with fail
 refine (u0y _ v _ ((HW.out.alloc _).alloc _) [wIf] (w.heap.size+1) 1 rfl (u0h (by rw [u0c])) (by simp [txs,u1j] at hlen ⊢; omega)).mono ?_
 rintro e w1 ⟨rfl,v1,hw1,hf1⟩
 have hz:=hf1.size
 (try simp only [u0c] at hz)
 obtain ⟨_,_,_,l1⟩:=u2f (q:=w.heap.size) hf1 tLOC (by omega) (fun e=>by have:=(HW.out.olt _ e).2; omega)
 have hF1:=hid ((((Wf.refl bw v w).alloc _).alloc _).trans hf1)
 have hB1:=hid (hF1.out.bel HW.out)
 have hW1:=hid hw1
 clear hf1 hw1 hz
 have d0:=(hB1.out.cell (p:=⟨g,o,none⟩) hPg).trans C0.out
 have d1:=(hB1.out.cell (p:=⟨g,o+1,none⟩) hPg).trans C1.out
 have d2:=(hB1.out.cell (p:=⟨g,o+2,none⟩) hPg).trans C2.out
 have d3:=(hB1.out.cell (p:=⟨g,o+3,none⟩) hPg).trans C3.out
 have d4:=(hB1.out.cell (p:=⟨g,o+4,none⟩) hPg).trans C4.out
 go_wp2_with fail
 refine (HA.out.call bw base _ v1 _ _ _ _ _ _ _ _ hW1.out (u2c hB1.out HX.out) HOA.out (by simp [txs,u1j] at hlen ⊢; omega)).mono ?_
 rintro e w2 ⟨rfl,v2,hw2,hf2⟩
 have hz:=hf2.size
 (try simp only [u0c] at hz)
 obtain ⟨_,_,_,l2⟩:=u2f (q:=w.heap.size) hf2 tLOC (by omega) (hW1.out.ne l1 (by decide))
 have hF2:=hid (hF1.out.trans hf2)
 have hB2:=hid (hF2.out.bel HW.out)
 have hW2:=hid hw2
 clear hf2 hw2 hz
 go_wp2_with fail
 refine (HBB.out bw base _ v2 _ B mb cb hW2.out (u1v hB2.out HS1.out) (by simp [txs,u1j] at hlen ⊢; omega)).mono ?_
 rintro e w3 ⟨rfl,v3,hw3,hf3⟩
 have hz:=hf3.size
 (try simp only [u0c] at hz)
 obtain ⟨_,_,_,l3⟩:=u2f (q:=w.heap.size) hf3 tLOC (by omega) (hW2.out.ne l2 (by decide))
 have hF3:=hid (hF2.out.trans hf3)
 have hB3:=hid (hF3.out.bel HW.out)
 have hW3:=hid hw3
 clear hf3 hw3 hz
 go_wp2
 go_end0
 exact ⟨rfl,v3,by simpa [txs,sg,u1j] using hW3.out,hF3.out⟩
theorem else_w {nm:List UInt8→Bool} (a:Ex) (ia:WE nm a) (oa:okE nm a=true) (b e:List St) (he:e≠[]) (hb:WBo 157 b (u1j (tSs dgL b))) (hc:WBo 157 e (u1j (tSs dgL e))):WS 187 #[] 3 0 [] [a] b e (sg wIf :: (tE dgL a++(u1j (tSs dgL b)++sg wElse :: u1j (tSs dgL e)))):=by
 intro bw base w v L A m c B mb cb C mc cc hw hs hb1 hb2 hlen
 have HW:=hid hw
 have HS:=hid hs
 have HS1:=hid hb1
 have HS2:=hid hb2
 have hlb:=hw.lb
 have hb10:=hw.b10
 have hbl:=hw.lt
 have hLl:=hw.len
 obtain ⟨g,o,rfl,rfl,hPg,hrows⟩:=u4j hs (by simp)
 obtain ⟨xk,xo,xn,xx,xA,xm,xc,⟨c0,c1,c2,c3,c4⟩,hrx⟩:=hrows 0 a rfl
 simp only [Nat.zero_mul,Nat.add_zero] at c0 c1 c2 c3 c4
 have HX:=hid hrx
 have HA:=hid ia
 have HOA:=hid oa
 have C0:=hid c0
 have C1:=hid c1
 have C2:=hid c2
 have C3:=hid c3
 have C4:=hid c4
 clear hrows hrx ia oa c0 c1 c2 c3 c4
 have HBB:=hid hb
 have HCC:=hid hc
 have hmc:mc=e.length:=by
  rcases hb2 with ⟨_,h2⟩ | ⟨x,c',h1,_⟩
  ·exact absurd h2 he
  ·injection h1
 have hpos:0<e.length:=List.length_pos_iff.2 he
 subst hmc
 have hmc0:(0:Int)<(e.length:Int):=by omega
 clear hw hs hb1 hb2 hb hc
 show Calls Tryz.prog 187 #[_,_] w _
 go_enter Tryz.func187,Tryz.ntmps187
 go_wp2_with fail
 refine (u0y _ v _ ((HW.out.alloc _).alloc _) [wIf] (w.heap.size+1) 1 rfl (u0h (by rw [u0c])) (by simp [txs,u1j] at hlen ⊢; omega)).mono ?_
 rintro e w1 ⟨rfl,v1,hw1,hf1⟩
 have hz:=hf1.size
 (try simp only [u0c] at hz)
 obtain ⟨_,_,_,l1⟩:=u2f (q:=w.heap.size) hf1 tLOC (by omega) (fun e=>by have:=(HW.out.olt _ e).2; omega)
 have hF1:=hid ((((Wf.refl bw v w).alloc _).alloc _).trans hf1)
 have hB1:=hid (hF1.out.bel HW.out)
 have hW1:=hid hw1
 clear hf1 hw1 hz
 have d0:=(hB1.out.cell (p:=⟨g,o,none⟩) hPg).trans C0.out
 have d1:=(hB1.out.cell (p:=⟨g,o+1,none⟩) hPg).trans C1.out
 have d2:=(hB1.out.cell (p:=⟨g,o+2,none⟩) hPg).trans C2.out
 have d3:=(hB1.out.cell (p:=⟨g,o+3,none⟩) hPg).trans C3.out
 have d4:=(hB1.out.cell (p:=⟨g,o+4,none⟩) hPg).trans C4.out
 go_wp2_with fail
 refine (HA.out.call bw base _ v1 _ _ _ _ _ _ _ _ hW1.out (u2c hB1.out HX.out) HOA.out (by simp [txs,u1j] at hlen ⊢; omega)).mono ?_
 rintro e w2 ⟨rfl,v2,hw2,hf2⟩
 have hz:=hf2.size
 (try simp only [u0c] at hz)
 obtain ⟨_,_,_,l2⟩:=u2f (q:=w.heap.size) hf2 tLOC (by omega) (hW1.out.ne l1 (by decide))
 have hF2:=hid (hF1.out.trans hf2)
 have hB2:=hid (hF2.out.bel HW.out)
 have hW2:=hid hw2
 clear hf2 hw2 hz
 go_wp2_with fail
 refine (HBB.out bw base _ v2 _ B mb cb hW2.out (u1v hB2.out HS1.out) (by simp [txs,u1j] at hlen ⊢; omega)).mono ?_
 rintro e w3 ⟨rfl,v3,hw3,hf3⟩
 have hz:=hf3.size
 (try simp only [u0c] at hz)
 obtain ⟨_,_,_,l3⟩:=u2f (q:=w.heap.size) hf3 tLOC (by omega) (hW2.out.ne l2 (by decide))
 have hF3:=hid (hF2.out.trans hf3)
 have hB3:=hid (hF3.out.bel HW.out)
 have hW3:=hid hw3
 clear hf3 hw3 hz
 go_wp2_with fail
 refine (u0y _ v3 _ (hW3.out.alloc _) [wElse] (w3.heap.size) 1 rfl (u0h rfl) (by simp [txs,u1j] at hlen ⊢; omega)).mono ?_
 rintro e w4 ⟨rfl,v4,hw4,hf4⟩
 have hz:=hf4.size
 (try simp only [u0c] at hz)
 obtain ⟨_,_,_,l4⟩:=u2f (q:=w.heap.size) hf4 tLOC (by omega) (hW3.out.ne l3 (by decide))
 have hF4:=hid ((hF3.out.alloc _).trans hf4)
 have hB4:=hid (hF4.out.bel HW.out)
 have hW4:=hid hw4
 clear hf4 hw4 hz
 go_wp2_with fail
 refine (HCC.out bw base _ v4 _ C e.length cc hW4.out (u1v hB4.out HS2.out) (by simp [txs,u1j] at hlen ⊢; omega)).mono ?_
 rintro e w5 ⟨rfl,v5,hw5,hf5⟩
 have hz:=hf5.size
 (try simp only [u0c] at hz)
 obtain ⟨_,_,_,l5⟩:=u2f (q:=w.heap.size) hf5 tLOC (by omega) (hW4.out.ne l4 (by decide))
 have hF5:=hid (hF4.out.trans hf5)
 have hB5:=hid (hF5.out.bel HW.out)
 have hW5:=hid hw5
 clear hf5 hw5 hz
 go_wp2
 go_end0
 exact ⟨rfl,v5,by simpa [txs,sg,u1j] using hW5.out,hF5.out⟩
theorem tS_eq (kind op:Int) (name:List UInt8) (exprs:List Ex) (body els:List St):tS dgL (.mk kind op name exprs body els)=stT kind op name (exprs.map (tE dgL)) (tSs dgL body) (tSs dgL els) els.isEmpty:=by rw [tS]
mutual
theorem ws_all {nm:List UInt8→Bool} (hF:FmtU):(s:St)→okS nm s=true→WSt s
 | .mk kind op name exprs body els,h=>by
  rw [okS] at h
  simp only [Bool.and_eq_true] at h
  obtain ⟨⟨⟨hsh,hex⟩,hb⟩,he⟩:=h
  have hbl:WBo 157 body (u1j (tSs dgL body)):=block_w body (rest_w body (ws_kids hF body hb))
  have hel:WBo 157 els (u1j (tSs dgL els)):=block_w els (rest_w els (ws_kids hF els he))
  have hE:∀ a∈exprs,WE nm a∧okE nm a=true:=fun a ha=>by
   have:=List.all_eq_true.1 hex a ha
   exact ⟨we_all hF a this,this⟩
  show WS 187 #[] kind op name exprs body els (tS dgL (.mk kind op name exprs body els))
  rw [tS_eq]
  unfold u3x at hsh
  split at hsh
  ·rename_i e
   simp at hsh
   obtain ⟨⟨⟨⟨rfl,hn⟩,hl⟩,rfl⟩,rfl⟩:=hsh
   obtain ⟨a,rfl⟩:=one_len hl
   obtain ⟨h1,h2⟩:=hE a (by simp)
   rcases e with rfl | rfl
   ·exact end_w 0 0 name [a] [] [] _ rfl (smp_let (nm:=nm) name a h1 h2)
   ·exact end_w 1 0 name [a] [] [] _ rfl (smp_set (nm:=nm) name a h1 h2)
  ·split at hsh
   ·rename_i e; subst e
    simp at hsh
    obtain ⟨⟨⟨⟨rfl,hn⟩,hl⟩,rfl⟩,rfl⟩:=hsh
    obtain ⟨a,b,rfl⟩:=two_len hl
    have h1:=hE a (by simp)
    have h2:=hE b (by simp)
    have:=end_w 2 0 name [a,b] [] [] _ rfl (smp_put (nm:=nm) name a b h1.1 h2.1 h1.2 h2.2)
    simpa [stT] using this
   ·split at hsh
    ·rename_i e; subst e
     simp at hsh
     obtain ⟨⟨rfl,rfl⟩,hl⟩:=hsh
     obtain ⟨a,rfl⟩:=one_len hl
     obtain ⟨h1,h2⟩:=hE a (by simp)
     cases els with
     | nil=>simpa [stT] using if_w (nm:=nm) a h1 h2 body hbl
     | cons s r=>simpa [stT] using else_w (nm:=nm) a h1 h2 body (s :: r) (by simp) hbl hel
    ·split at hsh
     ·rename_i e; subst e
      simp at hsh
      obtain ⟨⟨⟨rfl,rfl⟩,hl⟩,rfl⟩:=hsh
      obtain ⟨a,rfl⟩:=one_len hl
      obtain ⟨h1,h2⟩:=hE a (by simp)
      simpa [stT] using while_w (nm:=nm) a h1 h2 body hbl
     ·split at hsh
      ·rename_i e
       simp at hsh
       obtain ⟨⟨⟨⟨rfl,rfl⟩,hl⟩,rfl⟩,rfl⟩:=hsh
       subst hl
       rcases e with rfl | rfl | rfl
       ·exact end_w 5 0 [] [] [] [] _ rfl (smp_break (nm:=nm))
       ·exact end_w 6 0 [] [] [] [] _ rfl (smp_continue (nm:=nm))
       ·exact end_w 8 0 [] [] [] [] _ rfl (smp_barrier (nm:=nm))
      ·split at hsh
       ·rename_i e; subst e
        simp at hsh
        obtain ⟨⟨⟨⟨rfl,rfl⟩,hl⟩,rfl⟩,rfl⟩:=hsh
        cases exprs with
        | nil=>simpa [stT] using end_w 7 0 [] [] [] [] _ rfl (smp_ret0 (nm:=nm))
        | cons a r =>
         have:r=[]:=by simpa using hl
         subst this
         obtain ⟨h1,h2⟩:=hE a (by simp)
         simpa [stT] using end_w 7 0 [] [a] [] [] _ rfl (smp_ret1 (nm:=nm) a h1 h2)
       ·split at hsh
        ·rename_i e; subst e
         simp at hsh
         obtain ⟨⟨⟨⟨hop,hn⟩,hl⟩,rfl⟩,rfl⟩:=hsh
         obtain ⟨a,b,rfl⟩:=two_len hl
         have h1:=hE a (by simp)
         have h2:=hE b (by simp)
         simpa [stT] using end_w 9 op name [a,b] [] [] _ rfl (smp_atomic (nm:=nm) op hop name a b h1.1 h2.1 h1.2 h2.2)
        ·split at hsh
         ·rename_i e; subst e
          simp at hsh
          obtain ⟨⟨⟨⟨hop,hn⟩,hl⟩,rfl⟩,rfl⟩:=hsh
          obtain ⟨a,rfl⟩:=one_len hl
          obtain ⟨h1,h2⟩:=hE a (by simp)
          simpa [stT] using end_w 10 op name [a] [] [] _ rfl (smp_collect (nm:=nm) op hop name a h1 h2)
         ·cases hsh
theorem ws_kids {nm:List UInt8→Bool} (hF:FmtU):(l:List St)→okSs nm l=true→∀ s∈l,WSt s
 | [],_,a,h=>by cases h
 | b :: l,ho,a,h=>by
  rw [okSs,Bool.and_eq_true] at ho
  rcases List.mem_cons.1 h with e | h
  ·rw [e]; exact ws_all hF b ho.1
  ·exact ws_kids hF l ho.2 a h
end
theorem RG.get {α:Type} {rd:Rd α} {sz:Nat} {P:Nat→Prop} {w:World}:∀ (l:List α) (x:Addr),RG rd sz P w x l→∀ i e,l[i]? = some e→∃ cs,At w (x.add (i * sz)) cs∧rd P w cs e
 | [],_,_,_,_,h=>by simp at h
 | a :: r,x,h,i,e,hi=>by
  cases i with
  | zero=>simp at hi; subst hi; obtain ⟨cs,h1,h2⟩:=h.1; exact ⟨cs,by rw [Nat.zero_mul,add_zero']; exact h1,h2⟩
  | succ i =>
   obtain ⟨cs,h1,h2⟩:=RG.get r _ h.2 i e (by simpa using hi)
   rw [add_add] at h1
   exact ⟨cs,by rw [show (i+1) * sz=sz+i * sz by rw [Nat.add_mul]; omega]; exact h1,h2⟩
theorem u2i {α:Type} {rd:Rd α} {sz:Nat} (hsz:0<sz) (hne:∀ P w cs a,rd P w cs a→∃ u,cs[0]? = some u) {P:Nat→Prop} {w:World} {A:Option Addr} {m c:Nat} {l:List α} (h:SlR rd sz P w (.slice A m c) l) (hk:0<l.length) :
  ∃ g o,A=some ⟨g,o,none⟩∧m=l.length∧P g∧∀ k a,l[k]? = some a→∃ cs,(∀ (j:Nat) (u:Value),cs[j]? = some u→w.cell? ⟨g,o+k * sz+j,none⟩=some u)∧rd P w cs a:=by
 rcases h with ⟨_,h⟩ | ⟨x,c',hv,hx,hr⟩
 ·rw [h] at hk; cases hk
 ·injection hv with h3 h4 h5
  have hsp:x.spot=none:=by
   obtain ⟨a0,ha0⟩:∃ a,l[0]? = some a:=⟨l[0],List.getElem?_eq_getElem hk⟩
   obtain ⟨cs,hat,hre⟩:=RG.get l x hr 0 a0 ha0
   obtain ⟨u,hu⟩:=hne _ _ _ _ hre
   have:=hat 0 _ hu
   simpa [Addr.add] using World.cell?_spot this
  refine ⟨x.block,x.off,by rw [h3]; congr 1; cases x; simp at hsp; subst hsp; rfl,h4,hx (fun e=>by rw [e] at hk; cases hk),fun k a ha=>?_⟩
  obtain ⟨cs,hat,hre⟩:=RG.get l x hr k a ha
  refine ⟨cs,fun j u hu=>?_,hre⟩
  have:=hat j u hu
  rw [add_add] at this
  unfold Addr.add at this
  split at this
  ·rename_i h0
   have h1:k * sz=0∧j=0:=by omega
   rw [h1.1,h1.2]
   cases x; simp at hsp; subst hsp; exact this
  ·rw [Nat.add_assoc]; exact this
theorem SlR.len {α:Type} {rd:Rd α} {sz:Nat} {P:Nat→Prop} {w:World} {A:Option Addr} {m c:Nat} {l:List α} (h:SlR rd sz P w (.slice A m c) l):m=l.length:=by
 rcases h with ⟨h1,h2⟩ | ⟨x,c',h1,_⟩
 ·injection h1 with _ h1 _; rw [h1,h2]; rfl
 ·injection h1
theorem u1m {α:Type} {rd:Rd α} {sz:Nat} (ok:rd.Ok) {w w':World} {base:Nat} (h:Below base w w') {v:Value} {l:List α} (hs:SlR rd sz (fun g=>g<base) w v l):SlR rd sz (fun g=>g<base) w' v l:=hs.keeps ok (u0z h fun _ hb=>hb) (fun _ hb=>hb)
def nameT (y:List UInt8):List K:=[((0:Int),y,(0:Int))]
def paramTx (a:List UInt8 × Bool):List (List UInt8):=[if a.2 then wBuffer else wInt,a.1]
theorem param_w (a:List UInt8 × Bool) (bw base:Nat) (w:World) (v:Value) (L:List Tok) (hw:Ws bw base w v L) (hlen:L.length+2≤500000) :
  Calls Tryz.prog 159 #[.pointer (some ⟨bw,0,none⟩),.agg #[.string (bs a.1),.bool a.2]] w (Wrote bw base w v L (paramTx a)):=by
 have HW:=hid hw
 have hlb:=hw.lb
 have hbl:=hw.lt
 obtain ⟨x,b⟩:=a
 clear hw
 cases b
 ·go_enter Tryz.func159,Tryz.ntmps159
  go_wp2_with fail
  refine (u0y _ v _ ((HW.out.alloc _).alloc _) [wInt,x] (w.heap.size+1) 2 rfl (u0h (by rw [u0c])) (by simp; omega)).mono ?_
  rintro e w1 ⟨rfl,v1,hw1,hf1⟩
  have hF1:=hid (((Wf.refl bw v w).alloc _).alloc _ |>.trans hf1)
  clear hf1
  go_wp2
  go_end0
  exact ⟨rfl,v1,by simpa [paramTx] using hw1,hF1.out⟩
 ·go_enter Tryz.func159,Tryz.ntmps159
  go_wp2_with fail
  refine (u0y _ v _ ((HW.out.alloc _).alloc _) [wBuffer,x] (w.heap.size+1) 2 rfl (u0h (by rw [u0c])) (by simp; omega)).mono ?_
  rintro e w1 ⟨rfl,v1,hw1,hf1⟩
  have hF1:=hid (((Wf.refl bw v w).alloc _).alloc _ |>.trans hf1)
  clear hf1
  go_wp2
  go_end0
  exact ⟨rfl,v1,by simpa [paramTx] using hw1,hF1.out⟩
theorem name_w (x:List UInt8) (bw base:Nat) (w:World) (v:Value) (L:List Tok) (q:Nat) (hq:w.heap[q]? = some (.cells #[.pointer (some ⟨bw,0,none⟩)] 183 (0,0))) (hw:Ws bw base w v L) (hlen:L.length+1≤500000) :
  Calls Tryz.prog 156 #[.string (bs x),.pointer (some ⟨q,0,none⟩)] w (Wrote bw base w v L [x]):=by
 have HW:=hid hw
 have hlb:=hw.lb
 have hbl:=hw.lt
 have hc:w.cell? ⟨q,0,none⟩=some (.pointer (some ⟨bw,0,none⟩)):=by rw [cell_of_row _ _ 0 _ _ _ hq]; rfl
 clear hw hq
 go_enter Tryz.func156,Tryz.ntmps156
 go_wp2_with fail
 refine (u0y _ v _ (HW.out.alloc _) [x] w.heap.size 1 rfl (u0h rfl) (by simp; omega)).mono ?_
 rintro e w1 ⟨rfl,v1,hw1,hf1⟩
 have hF1:=hid (((Wf.refl bw v w).alloc _).trans hf1)
 clear hf1
 go_wp2
 go_end0
 exact ⟨rfl,v1,hw1,hF1.out⟩
theorem plName (l:List (List UInt8)) (bw base:Nat) (w:World) (v:Value) (L:List Tok) (A:Option Addr) (m c:Nat) (q:Nat) (hqb:q≠bw) (hq0:w.heap[q]? = some (.cells #[.pointer (some ⟨bw,0,none⟩)] 183 (0,0))) (hw:Ws bw base w v L) (hs:SlR rdN 1 (fun g=>g<base) w (.slice A m c) l)
  (hlen:L.length+(u1h (l.map nameT)).length+2≤500000) (h6:l.length≤1000) :
  Calls Tryz.prog 155 #[.pointer (some ⟨bw,0,none⟩),.slice A m c,.func (.func 156) #[] #[.pointer (some ⟨q,0,none⟩)]] w (Wrote bw base w v L (txs (sg [40] :: (u1h (l.map nameT)++[sg [41]])))):=by
 have hm:=hs.len
 subst hm
 have HW:=hid hw
 have HS:=hid hs
 have hlb:=hw.lb
 have hbl:=hw.lt
 have hlL:=hw.len
 have hql:q<w.heap.size:=(Array.getElem?_eq_some_iff.1 hq0).1
 have hqv:=hid (hw.ne hq0 (by decide))
 clear hw hs
 go_enter Tryz.func155,Tryz.ntmps155
 go_wp2_with fail
 refine (u0y _ v L (HW.out.alloc _) [[40]] w.heap.size 1 rfl (u0h rfl) (by simp; omega)).mono ?_
 rintro e w1 ⟨rfl,v1,hw1,hf1⟩
 have hF1:=hid (((Wf.refl bw v w).alloc _).trans hf1)
 have hW1:=hid hw1
 have hq1:=hid ((hF1.out.block q hql hqb hqv.out).trans hq0)
 clear hf1 hw1
 go_wp2_with fail
 go_loopw [13] (fun i wr=>∃ (k:Nat) (v':Value),k≤l.length∧i=.int .i64 k∧Ws bw base wr v' (L++(txs (sg [40] :: u1h ((l.map nameT).take k))).map tk)∧Wf bw v w wr v'∧wr.heap[q]? = some (.cells #[.pointer (some ⟨bw,0,none⟩)] 183 (0,0))) (fun i _=>l.length - (intOf i).toNat)
 case atStart=>exact ⟨0,v1,Nat.zero_le _,rfl,by simpa [txs,sg,u1h] using hW1.out,hF1.out,hq1.out⟩
 case round =>
  obtain ⟨k,v',hkk,rfl,hs,hf,hqr⟩:=hrel
  have HSr:=hid hs
  have HFr:=hid hf
  have hbr:=hf.bel HW.out
  have hblr:=hs.lt
  have hzr:=hf.size
  by_cases hlt:k<l.length
  ·obtain ⟨a,ha⟩:∃ a,l[k]? = some a:=⟨l[k],List.getElem?_eq_getElem hlt⟩
   obtain ⟨g,o,rfl,_,hPg,hrows⟩:=u2i (by decide) (fun P w cs a h=>⟨.string (bs a),by unfold rdN at h; subst h; rfl⟩) (u1m u4a hbr HS.out) (by omega)
   obtain ⟨cs,hcs,hrd⟩:=hrows k a ha
   have hrd:cs=[.string (bs a)]:=hrd
   subst hrd
   have c0:=hcs 0 _ rfl
   have hin:(0:Int)≤k∧(k:Int)<l.length:=⟨by omega,by omega⟩
   have hroom:=hid (commas_room (ts:=l.map nameT) (k:=k) (t:=nameT a) (by simp [ha]))
   have HA:=hid ha
   clear hs hf hrows ha hcs
   cases k with
   | zero =>
    simp only [Nat.zero_mul,Nat.add_zero] at c0
    go_wp2_with fail
    refine (name_w a bw base _ v' _ q hqr HSr.out (by have:=hroom.out; simp [txs,nameT] at this ⊢; omega)).mono ?_
    rintro e w2 ⟨rfl,v3,hw3,hf3⟩
    have hF3:=hid (HFr.out.trans hf3)
    have hW3:=hid hw3
    clear hw3 hf3
    go_wp2
    go_roundw
    case rel =>
     refine ⟨1,v3,by omega,by go_num,?_,hF3.out,(hF3.out.block q hql hqb hqv.out).trans hq0⟩
     rw [u4c (ts:=l.map nameT) (k:=0) (t:=nameT a) (by simp [HA.out])]
     have:=hW3.out
     simpa [txs,sg,nameT] using this
    case measure=>simp [intOf]; omega
   | succ k =>
    have h0:(0:Int)<((k+1:Nat):Int):=by omega
    simp only [Nat.mul_one,Nat.add_zero] at c0
    go_wp2_with fail
    refine (u0y _ v' _ (HSr.out.alloc _) [[44]] (wr.heap.size) 1 rfl (u0h rfl) (by have:=hroom.out; simp [txs,nameT] at this ⊢; omega)).mono ?_
    rintro e w2 ⟨rfl,v2,hw2,hf2⟩
    have hz2:=hf2.size
    (try simp only [u0c] at hz2)
    have hF2:=hid ((HFr.out.alloc _).trans hf2)
    have hW2:=hid hw2
    have hq2:=hid ((hF2.out.block q hql hqb hqv.out).trans hq0)
    clear hw2 hf2
    go_wp2_with fail
    refine (name_w a bw base _ v2 _ q hq2.out hW2.out (by have:=hroom.out; simp [txs,nameT] at this ⊢; omega)).mono ?_
    rintro e w3 ⟨rfl,v3,hw3,hf3⟩
    have hF3:=hid (hF2.out.trans hf3)
    have hW3:=hid hw3
    clear hw3 hf3
    go_wp2
    go_roundw
    case rel =>
     refine ⟨k+1+1,v3,by omega,by go_num,?_,hF3.out,(hF3.out.block q hql hqb hqv.out).trans hq0⟩
     rw [u4c (ts:=l.map nameT) (k:=k+1) (t:=nameT a) (by simp [HA.out])]
     have:=hW3.out
     simpa [txs,sg,nameT] using this
    case measure=>simp [intOf]; omega
  ·go_wp2_with fail
   refine (u0y _ v' _ (HSr.out.alloc _) [[41]] wr.heap.size 1 rfl (u0h rfl) (by rw [List.take_of_length_le (by simp; omega)]; simp [txs]; omega)).mono ?_
   rintro e w2 ⟨rfl,v2,hw2,hf2⟩
   have hF2:=hid ((HFr.out.alloc _).trans hf2)
   have hW2:=hid hw2
   clear hw2 hf2
   go_wp2
   go_end0
   refine ⟨rfl,v2,?_,hF2.out⟩
   have:=hW2.out
   rw [List.take_of_length_le (by simp; omega)] at this
   simpa [txs,sg] using this
theorem plParam (l:List (List UInt8 × Bool)) (bw base:Nat) (w:World) (v:Value) (L:List Tok) (A:Option Addr) (m c:Nat) (hw:Ws bw base w v L) (hs:SlR rdP 2 (fun g=>g<base) w (.slice A m c) l)
  (hlen:L.length+(u1h (l.map u4u)).length+2≤500000) (h6:l.length≤1000) :
  Calls Tryz.prog 158 #[.pointer (some ⟨bw,0,none⟩),.slice A m c,.func (.func 159) #[.pointer (some ⟨bw,0,none⟩)] #[]] w (Wrote bw base w v L (txs (sg [40] :: (u1h (l.map u4u)++[sg [41]])))):=by
 have hm:=hs.len
 subst hm
 have HW:=hid hw
 have HS:=hid hs
 have hlb:=hw.lb
 have hbl:=hw.lt
 have hlL:=hw.len
 clear hw hs
 go_enter Tryz.func158,Tryz.ntmps158
 go_wp2_with fail
 refine (u0y _ v L (HW.out.alloc _) [[40]] w.heap.size 1 rfl (u0h rfl) (by simp; omega)).mono ?_
 rintro e w1 ⟨rfl,v1,hw1,hf1⟩
 have hF1:=hid (((Wf.refl bw v w).alloc _).trans hf1)
 have hW1:=hid hw1
 clear hf1 hw1
 go_wp2_with fail
 go_loopw [13] (fun i wr=>∃ (k:Nat) (v':Value),k≤l.length∧i=.int .i64 k∧Ws bw base wr v' (L++(txs (sg [40] :: u1h ((l.map u4u).take k))).map tk)∧Wf bw v w wr v') (fun i _=>l.length - (intOf i).toNat)
 case atStart=>exact ⟨0,v1,Nat.zero_le _,rfl,by simpa [txs,sg,u1h] using hW1.out,hF1.out⟩
 case round =>
  obtain ⟨k,v',hkk,rfl,hs,hf⟩:=hrel
  have HSr:=hid hs
  have HFr:=hid hf
  have hbr:=hf.bel HW.out
  have hblr:=hs.lt
  have hzr:=hf.size
  by_cases hlt:k<l.length
  ·obtain ⟨a,ha⟩:∃ a,l[k]? = some a:=⟨l[k],List.getElem?_eq_getElem hlt⟩
   obtain ⟨g,o,rfl,_,hPg,hrows⟩:=u2i (by decide) (fun P w cs a h=>⟨.string (bs a.1),by unfold rdP at h; subst h; rfl⟩) (u1m u3d hbr HS.out) (by omega)
   obtain ⟨cs,hcs,hrd⟩:=hrows k a ha
   have hrd:cs=[.string (bs a.1),.bool a.2]:=hrd
   subst hrd
   have c0:=hcs 0 _ rfl
   have c1:=hcs 1 _ rfl
   have hin:(0:Int)≤k∧(k:Int)<l.length:=⟨by omega,by omega⟩
   have hroom:=hid (commas_room (ts:=l.map u4u) (k:=k) (t:=u4u a) (by simp [ha]))
   have HA:=hid ha
   clear hs hf hrows ha hcs
   cases k with
   | zero =>
    simp only [Nat.zero_mul,Nat.add_zero] at c0 c1
    go_wp2_with fail
    refine (param_w a bw base _ v' _ (HSr.out.alloc _) (by have:=hroom.out; simp [txs,u4u] at this ⊢; omega)).mono ?_
    rintro e w2 ⟨rfl,v3,hw3,hf3⟩
    have hF3:=hid ((HFr.out.alloc _).trans hf3)
    have hW3:=hid hw3
    clear hw3 hf3
    go_wp2
    go_roundw
    case rel =>
     refine ⟨1,v3,by omega,by go_num,?_,hF3.out⟩
     rw [u4c (ts:=l.map u4u) (k:=0) (t:=u4u a) (by simp [HA.out])]
     have:=hW3.out
     simpa [txs,sg,u4u,paramTx] using this
    case measure=>simp [intOf]; omega
   | succ k =>
    have h0:(0:Int)<((k+1:Nat):Int):=by omega
    simp only [Nat.add_zero] at c0 c1
    go_wp2_with fail
    refine (u0y _ v' _ ((HSr.out.alloc _).alloc _) [[44]] (wr.heap.size+1) 1 rfl (u0h (by rw [u0c])) (by have:=hroom.out; simp [txs,u4u,paramTx] at this ⊢; omega)).mono ?_
    rintro e w2 ⟨rfl,v2,hw2,hf2⟩
    have hz2:=hf2.size
    (try simp only [u0c] at hz2)
    obtain ⟨_,_,_,l7⟩:=u2f (q:=wr.heap.size) hf2 tLOC (by omega) (fun e=>by have:=(HSr.out.olt _ e).2; omega)
    have hF2:=hid (((HFr.out.alloc _).alloc _).trans hf2)
    have hW2:=hid hw2
    clear hw2 hf2
    go_wp2_with fail
    refine (param_w a bw base _ v2 _ hW2.out (by have:=hroom.out; simp [txs,u4u] at this ⊢; omega)).mono ?_
    rintro e w3 ⟨rfl,v3,hw3,hf3⟩
    have hF3:=hid (hF2.out.trans hf3)
    have hW3:=hid hw3
    clear hw3 hf3
    go_wp2
    go_roundw
    case rel =>
     refine ⟨k+1+1,v3,by omega,by go_num,?_,hF3.out⟩
     rw [u4c (ts:=l.map u4u) (k:=k+1) (t:=u4u a) (by simp [HA.out])]
     have:=hW3.out
     simpa [txs,sg,u4u,paramTx] using this
    case measure=>simp [intOf]; omega
  ·go_wp2_with fail
   refine (u0y _ v' _ (HSr.out.alloc _) [[41]] wr.heap.size 1 rfl (u0h rfl) (by rw [List.take_of_length_le (by simp; omega)]; simp [txs]; omega)).mono ?_
   rintro e w2 ⟨rfl,v2,hw2,hf2⟩
   have hF2:=hid ((HFr.out.alloc _).trans hf2)
   have hW2:=hid hw2
   clear hw2 hf2
   go_wp2
   go_end0
   refine ⟨rfl,v2,?_,hF2.out⟩
   have:=hW2.out
   rw [List.take_of_length_le (by simp; omega)] at this
   simpa [txs,sg] using this
theorem Ws.drew {bw base:Nat} {w:World} {v:Value} {L:List Tok} (h:Ws bw base w v L):Ws bw base w.drew v L:=h.below ((Below.refl _ _).drew)
theorem Wf.drew {bw:Nat} {u v:Value} {a b:World} (h:Wf bw u a b v):Wf bw u a b.drew v:=⟨h.os,h.tape,h.output,h.size,h.block,h.own⟩
def ItoS:Prop:=∀ (n:Nat) (w:World),n<100→Calls Tryz.prog 160 #[.int .i64 n] w fun e w'=>e=.returned (.string (bs (digL n)))∧w'=w
theorem function_w (f:Fn) (hb:WBo 157 f.body (u1j (tSs dgL f.body))) (bw base:Nat) (w:World) (v:Value) (L:List Tok) (A:Option Addr) (m c:Nat) (B:Option Addr) (mb cb:Nat) (hw:Ws bw base w v L)
  (hp:SlR rdN 1 (fun g=>g<base) w (.slice A m c) f.params) (hs:SlS w (fun g=>g<base) (.slice B mb cb) f.body) (h6:f.params.length≤1000) (hlen:L.length+(tI dgL f.it).length≤500000) :
  Calls Tryz.prog 100 #[.pointer (some ⟨bw,0,none⟩),.agg #[.string (bs f.name),.slice A m c,.slice B mb cb]] w (Wrote bw base w v L (txs (tI dgL f.it))):=by
 obtain ⟨name,params,body⟩:=f
 have HW:=hid hw
 have HP:=hid hp
 have HS:=hid hs
 have HB:=hid hb
 have hlb:=hw.lb
 have hbl:=hw.lt
 have hlen':L.length+2+1+(u1h (params.map nameT)).length+1+(tSs dgL body).length+2≤500000:=by
  unfold Fn.it tI u1j at hlen; simp at hlen; unfold nameT; omega
 clear hw hp hs hb hlen
 go_enter Tryz.func100,Tryz.ntmps100
 go_wp2_with fail
 refine (u0y _ v _ (((HW.out.alloc _).alloc _).alloc _) [wFunc,name] (w.heap.size+2) 2 rfl (u0h (by simp only [u0c])) (by simp; omega)).mono ?_
 rintro e w1 ⟨rfl,v1,hw1,hf1⟩
 have hz:=hf1.size
 (try simp only [u0c] at hz)
 obtain ⟨_,_,_,l1⟩:=u2f (q:=w.heap.size) hf1 tLOC (by omega) (fun e=>by have:=(HW.out.olt _ e).2; omega)
 obtain ⟨_,_,_,m1⟩:=u2f (q:=w.heap.size+1) hf1 tLOC (by omega) (fun e=>by have:=(HW.out.olt _ e).2; omega)
 have hF1:=hid (((((Wf.refl bw v w).alloc _).alloc _).alloc _).trans hf1)
 have hB1:=hid (hF1.out.bel HW.out)
 have hW1:=hid hw1
 clear hf1 hw1
 go_wp2_with fail
 refine (plName params bw base _ v1 _ A m c w.heap.size (by omega) l1 hW1.out (u1m u4a hB1.out HP.out) (by simp; omega) h6).mono ?_
 rintro e w2 ⟨rfl,v2,hw2,hf2⟩
 have hz2:=hf2.size
 (try simp only [u0c] at hz2)
 obtain ⟨_,_,_,l2⟩:=u2f (q:=w.heap.size) hf2 tLOC (by omega) (hW1.out.ne l1 (by decide))
 obtain ⟨_,_,_,m2⟩:=u2f (q:=w.heap.size+1) hf2 tLOC (by omega) (hW1.out.ne m1 (by decide))
 have hF2:=hid (hF1.out.trans hf2)
 have hB2:=hid (hF2.out.bel HW.out)
 have hW2:=hid hw2
 clear hf2 hw2
 go_wp2_with fail
 refine (HB.out bw base _ v2 _ B mb cb hW2.out (u1v hB2.out HS.out) (by simp [txs,u1j]; omega)).mono ?_
 rintro e w3 ⟨rfl,v3,hw3,hf3⟩
 have hF3:=hid (hF2.out.trans hf3)
 have hW3:=hid hw3
 clear hf3 hw3
 go_wp2
 go_end0
 refine ⟨rfl,v3,?_,hF3.out⟩
 have:=hW3.out
 unfold Fn.it
 simp only [tI]
 rw [show (fun y:List UInt8=>[((0:Int),y,(0:Int))])=nameT from rfl]
 simpa [txs,sg,u1j] using this
theorem shared_room {l:List (List UInt8 × Int)} {k:Nat} (h:k≤l.length):((l.take k).flatMap (u5l dgL)).length=6 * k:=by
 induction k with
 | zero=>simp
 | succ k ih=>rw [List.take_succ_eq_append_getElem (by omega),List.flatMap_append,List.length_append,ih (by omega)]; simp [u5l]; omega
theorem shared_step {l:List (List UInt8 × Int)} {k:Nat} {a:List UInt8 × Int} (h:l[k]? = some a):(l.take (k+1)).flatMap (u5l dgL)=(l.take k).flatMap (u5l dgL)++u5l dgL a:=by
 obtain ⟨h1,h2⟩:=List.getElem?_eq_some_iff.1 h
 rw [List.take_succ_eq_append_getElem h1,List.flatMap_append,h2]; simp
theorem kernel_w (hI:ItoS) (f:Kr) (hb:WBo 161 f.body (tSs dgL f.body++[sg [125]])) (bw base:Nat) (w:World) (v:Value) (L:List Tok) (A:Option Addr) (m c:Nat) (B:Option Addr) (mb cb:Nat) (C:Option Addr) (mc cc:Nat) (hw:Ws bw base w v L)
  (hp:SlR rdP 2 (fun g=>g<base) w (.slice A m c) f.params) (hd:SlR rdA 2 (fun g=>g<base) w (.slice B mb cb) f.shared) (hs:SlS w (fun g=>g<base) (.slice C mc cc) f.body)
  (h6:f.params.length≤1000) (h4:∀ a∈f.shared,1≤a.2∧a.2≤64) (hlen:L.length+(tI dgL f.it).length≤500000) :
  Calls Tryz.prog 101 #[.pointer (some ⟨bw,0,none⟩),.agg #[.string (bs f.name),.slice A m c,.slice B mb cb,.slice C mc cc]] w (Wrote bw base w v L (txs (tI dgL f.it))):=by
 obtain ⟨name,params,shared,body⟩:=f
 have hmb:=hd.len
 simp only at hmb
 subst hmb
 have HW:=hid hw
 have HP:=hid hp
 have HD:=hid hd
 have HS:=hid hs
 have HB:=hid hb
 have HI:=hid hI
 have hlb:=hw.lb
 have hbl:=hw.lt
 have hsl:=shared_room (l:=shared) (k:=shared.length) (Nat.le_refl _)
 rw [List.take_of_length_le (Nat.le_refl _)] at hsl
 have hlen':L.length+2+1+(u1h (params.map u4u)).length+1+6 * shared.length+(tSs dgL body).length+2≤500000:=by
  rw [← hsl]; unfold Kr.it tI u1j at hlen; simp at hlen ⊢; omega
 clear hw hp hs hb hlen hI hd
 go_enter Tryz.func101,Tryz.ntmps101
 go_wp2_with fail
 refine (u0y _ v _ ((HW.out.alloc _).alloc _) [u7u,name] (w.heap.size+1) 2 rfl (u0h (by simp only [u0c])) (by simp; omega)).mono ?_
 rintro e w1 ⟨rfl,v1,hw1,hf1⟩
 have hz:=hf1.size
 (try simp only [u0c] at hz)
 obtain ⟨_,_,_,l1⟩:=u2f (q:=w.heap.size) hf1 tLOC (by omega) (fun e=>by have:=(HW.out.olt _ e).2; omega)
 have hF1:=hid ((((Wf.refl bw v w).alloc _).alloc _).trans hf1)
 have hB1:=hid (hF1.out.bel HW.out)
 have hW1:=hid hw1
 clear hf1 hw1
 go_wp2_with fail
 refine (plParam params bw base _ v1 _ A m c hW1.out (u1m u3d hB1.out HP.out) (by simp; omega) h6).mono ?_
 rintro e w2 ⟨rfl,v2,hw2,hf2⟩
 have hz2:=hf2.size
 (try simp only [u0c] at hz2)
 obtain ⟨_,_,_,l2⟩:=u2f (q:=w.heap.size) hf2 tLOC (by omega) (hW1.out.ne l1 (by decide))
 have hF2:=hid (hF1.out.trans hf2)
 have hB2:=hid (hF2.out.bel HW.out)
 have hW2:=hid hw2
 clear hf2 hw2
 go_wp2_with fail
 refine (u0y _ v2 _ (hW2.out.alloc _) [[123]] w2.heap.size 1 rfl (u0h rfl) (by simp [txs]; omega)).mono ?_
 rintro e w3 ⟨rfl,v3,hw3,hf3⟩
 have hz3:=hf3.size
 (try simp only [u0c] at hz3)
 obtain ⟨_,_,_,l3⟩:=u2f (q:=w.heap.size) hf3 tLOC (by omega) (hW2.out.ne l2 (by decide))
 have hF3:=hid ((hF2.out.alloc _).trans hf3)
 have hB3:=hid (hF3.out.bel HW.out)
 have hW3:=hid hw3
 clear hf3 hw3
 go_wp2_with fail
 go_loopw [23] (fun i wr=>∃ (k:Nat) (v':Value),k≤shared.length∧i=.int .i64 k∧Ws bw base wr v' (L++(txs (sg u7u :: (0,name,0) :: sg [40] :: (u1h (params.map u4u)++sg [41] :: sg [123] :: (shared.take k).flatMap (u5l dgL)))).map tk)∧Wf bw v w wr v'∧wr.heap[w.heap.size]? = some (.cells #[.string (bs name),.slice A m c,.slice B shared.length cb,.slice C mc cc] 75 (0,0))) (fun i _=>shared.length - (intOf i).toNat)
 case atStart=>exact ⟨0,v3,Nat.zero_le _,rfl,by simpa [txs,sg] using hW3.out,hF3.out,l3⟩
 case round =>
  obtain ⟨k,v',hkk,rfl,hs,hf,hqr⟩:=hrel
  have HSr:=hid hs
  have HFr:=hid hf
  have HQr:=hid hqr
  have hbr:=hid (hf.bel HW.out)
  have hblr:=hs.lt
  have hzr:=hf.size
  obtain ⟨_,_,_,_⟩:=u2f (Wf.refl bw v' wr) hqr (by omega) (hs.ne hqr (by decide))
  by_cases hlt:k<shared.length
  ·obtain ⟨a,ha⟩:∃ a,shared[k]? = some a:=⟨shared[k],List.getElem?_eq_getElem hlt⟩
   obtain ⟨g,o,rfl,_,hPg,hrows⟩:=u2i (by decide) (fun P w cs a h=>⟨.string (bs a.1),by unfold rdA at h; subst h; rfl⟩) (u1m u4g hbr.out HD.out) (by omega)
   obtain ⟨cs,hcs,hrd⟩:=hrows k a ha
   have hrd:cs=[.string (bs a.1),.int .i64 a.2]:=hrd
   subst hrd
   have c0:=hcs 0 _ rfl
   have c1:=hcs 1 _ rfl
   simp only [Nat.add_zero] at c0 c1
   have hin:(0:Int)≤k∧(k:Int)<shared.length:=⟨by omega,by omega⟩
   have hroom:=hid (shared_room (l:=shared) (k:=k) (by omega))
   have HA:=hid ha
   have hr:=h4 a (List.mem_of_getElem? ha)
   obtain ⟨x,num⟩:=a
   simp only at hr c0 c1
   obtain ⟨u,rfl⟩:∃ u:Nat,num=u:=⟨num.toNat,by omega⟩
   clear hs hf hrows ha hcs
   go_wp2_with fail
   go_region_held3 (fun w'=>w'.cell? ⟨wr.heap.size,0,none⟩=some (.string (bs x))∧w'.cell? ⟨wr.heap.size,1,none⟩=some (.int .i64 u)) (first | exact ⟨by simp,by simp⟩ | exact ⟨(qc 0).trans rfl,(qc 1).trans rfl⟩) ((first | (go_at_call 160; refine (HI.out u _ (by omega)).mono ?_; rintro e w' ⟨rfl,rfl⟩) | (go_at_call 154; (refine (u0y _ v' _ (((HSr.out.alloc _).alloc _).drew) [u3o,x,[91],digL u,[93],[59]] (wr.heap.size+1) 6 rfl ?_ ?_).mono ?_); (exact u0h (by simp only [u0c])); (simp [txs,hroom.out] at hroom ⊢; omega); (rintro e w4 ⟨rfl,v4,hw4,hf4⟩); (obtain ⟨qc,_,_,_⟩:=u2f (q:=wr.heap.size) (cs:=#[.string (bs x),.int .i64 u]) (T:=94) hf4 (by show ((wr.alloc _).alloc _).heap[wr.heap.size]? = _; exact u0e (by simp only [u0c]; omega) (u0h rfl)) (by omega) (fun e=>by have:=(HSr.out.olt _ e).2; omega)))))
   have hz4:=hf4.size
   (try simp only [u0c,u0p] at hz4)
   obtain ⟨_,_,_,l4⟩:=u2f (q:=w.heap.size) hf4 (by show ((wr.alloc _).alloc _).heap[w.heap.size]? = _; exact u0e (by simp only [u0c]; omega) (u0e (by omega) HQr.out)) (by omega) (HSr.out.ne HQr.out (by decide))
   have hF4:=hid ((((HFr.out.alloc _).alloc _).drew).trans hf4)
   have hW4:=hid hw4
   clear hw4 hf4
   go_wp2
   go_roundw
   case rel =>
    refine ⟨k+1,v4,by omega,by go_num,?_,hF4.out,l4⟩
    rw [shared_step HA.out]
    have:=hW4.out
    simpa [txs,sg,u5l,dgL] using this
   case measure=>simp [intOf]; omega
  ·go_wp2_with fail
   refine (HB.out bw base _ v' _ C mc cc HSr.out (u1v hbr.out HS.out) (by simp [txs,shared_room hkk]; omega)).mono ?_
   rintro e w4 ⟨rfl,v4,hw4,hf4⟩
   have hF4:=hid (HFr.out.trans hf4)
   have hW4:=hid hw4
   clear hw4 hf4
   go_wp2
   go_end0
   refine ⟨rfl,v4,?_,hF4.out⟩
   have:=hW4.out
   rw [List.take_of_length_le (by omega)] at this
   unfold Kr.it
   simp only [tI]
   simpa [txs,sg,u1j] using this
end Go.Proofs.YtbkhnilbgocpnaaGreatDoor.SynC
