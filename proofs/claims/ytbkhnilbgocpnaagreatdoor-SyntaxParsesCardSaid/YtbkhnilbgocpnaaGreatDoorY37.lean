import Derived.Deep.RegionHeld3
import Derived.Handy
import Derived.Deep.RegionLaw
import Derived.Deep.AppendLies
import Derived.Test.YtbkhnilbgocpnaaGreatDoorY0
import Derived.Test.YtbkhnilbgocpnaaGreatDoorY35
set_option linter.unusedVariables false
set_option linter.unusedSimpArgs false
set_option maxRecDepth 100000
set_option maxHeartbeats 2000000
open Go.Lib (hid)
namespace Go.Proofs.YtbkhnilbgocpnaaGreatDoor.SynC
open Go.Proofs.YtbkhnilbgocpnaaGreatDoor.LexC
open Go Go.ChangeShapes Go.WideShapes Go.ChangeAt Go.RowKit Go.Deep
def RxC (E:Rv) (i:Nat) (b:Bool):Prop:=∀ (n:Nat) (w:World),1≤n→n≤11→Rp E w i b→Calls Tryz.prog 49 #[.pointer (some ⟨E.b,0,none⟩),.int .i64 n] w (Ro E w (at0 E i b (PE (.ex n))) (RxV w.heap.size))
def RuC (E:Rv) (i:Nat) (b:Bool):Prop:=∀ (w:World),Rp E w i b→Calls Tryz.prog 93 #[.pointer (some ⟨E.b,0,none⟩)] w (Ro E w (at0 E i b (PE .un)) (RxV w.heap.size))
theorem rexpr_bad {E:Rv} (hE:E.Ok) (i:Nat):RxC E i true:=by
 intro n w h1 h2 hp
 obtain ⟨c0,c1,c2,_,_⟩:=(hp.keepB hE (u0j w (.cells #[.int .i64 0,.int .i64 0,.int .i32 0,.string ⟨#[]⟩,.slice none 0 0] 34))).c
 have HP:=hid hp
 have hsz:=hp.sz
 have hlt:=hE.lt
 clear hp
 go_enter Tryz.func49,Tryz.ntmps49
 go_wp2
 refine u3c rfl rfl rfl tRES ?_
 refine ⟨tGB,true,i,_,.mk 0 0 0 [] [],rfl,HP.out.keepB hE tBEL,rfl,u8p (name:=[]) u5p⟩
theorem rexpr_11 {E:Rv} (hE:E.Ok) (i:Nat) (hU:RuC E i false) (w:World) (hp:Rp E w i false):Calls Tryz.prog 49 #[.pointer (some ⟨E.b,0,none⟩),.int .i64 11] w (Ro E w (at0 E i false (PE (.ex 11))) (RxV w.heap.size)):=by
 obtain ⟨c0,c1,c2,_,_⟩:=(hp.keepB hE (u0j w (.cells #[.int .i64 0,.int .i64 0,.int .i32 0,.string ⟨#[]⟩,.slice none 0 0] 34))).c
 have HP:=hid hp
 have HU:=hid hU
 have hsz:=hp.sz
 have hlt:=hE.lt
 clear hp hU
 go_enter Tryz.func49,Tryz.ntmps49
 go_wp2_with fail
 refine (HU.out _ (HP.out.keepB hE tBEL)).mono ?_
 rintro e w1 ⟨hg1,b1,j1,v1,a1,hR,hp1,rfl,⟨ak,ao,an,ax,aA,am,ac,rfl,ha⟩⟩
 have HR:=hid hR
 clear hR
 have hz:=hg1.size
 (try simp only [u0e,u0h,u0m] at hz)
 obtain ⟨_,_,_,l1⟩:=u0a (q:=w.heap.size) hg1 tLOC tSZ
 go_wp2
 refine u3c rfl rfl rfl tRES ?_
 refine ⟨tGB,b1,j1,_,a1,?_,hp1.keep hE tBEL,rfl,⟨ak,ao,an,ax,aA,am,ac,rfl,u1s ha tKP tSZ tSZ⟩⟩
 have:=HR.out
 rw [u0l] at this ⊢
 rw [ex11]; exact this
def muR (E:Rv) (w:World):Nat:=match w.cell? ⟨E.b,2,none⟩ with
 | some (.bool true)=>0
 | _=>match w.cell? ⟨E.b,1,none⟩ with
  | some v=>E.L.length+1 - (intOf v).toNat
  | none=>0
theorem Rp.mu {E:Rv} {w:World} {i:Nat} {b:Bool} (h:Rp E w i b):muR E w=if b then 0 else E.L.length+1 - i:=by
 obtain ⟨_,c1,c2,_,_⟩:=h.c
 unfold muR
 rw [c2,c1]
 cases b <;> simp [intOf]
def ReRel (E:Rv) (w:World) (n i q:Nat) (wr:World):Prop:=∃ (j:Nat) (b:Bool) (a:Ex) (ak ao an:Int) (ax:List UInt8) (aA:Option Addr) (am ac:Nat),(b=false→i<j)∧w.grownBy wr (some E.b)∧Rp E wr j b∧PE (.ex n) (E.ks.drop i)=(mkR b a (E.ks.drop j)).bind (fun a r=>PE (.tail n a) r) ∧
 wr.heap[w.heap.size]? = some (.cells #[.int .i64 0,.int .i64 0,.int .i32 0,.string ⟨#[]⟩,.slice none 0 0] 34 (0,0))∧wr.heap[q]? = some (.cells #[.int .i64 ak,.int .i64 ao,.int .i32 an,.string (bs ax),.slice aA am ac] 34 (0,0)) ∧
 RE wr (fun g=>(w.heap.size+1≤g∧g≠q)∧g<wr.heap.size) [.int .i64 ak,.int .i64 ao,.int .i32 an,.string (bs ax),.slice aA am ac] a
theorem tail_no {n:Nat} {a:Ex} {E:Rv} {j:Nat} {t:Tok} (hj:j≤E.L.length) (ht:nxt E j false=t) (h:(t.kind == 2)=false∨inL ((lev n).map (·.1)) t.text=false):PE (.tail n a) (E.ks.drop j)=.ok a (E.ks.drop j):=by
 refine tail_stop fun t' r e=>?_
 rcases Rv.next_ hj with ⟨_,u,hu,_,hd⟩ | ⟨_,_,hd⟩
 ·have e2:nxt E j false=u:=by simp [nxt,hu]
  rw [ht] at e2
  subst e2
  rw [hd] at e
  cases e
  unfold opOf key
  rcases h with h | h
  ·simp only [h]; rfl
  ·split
   ·refine u6e _ fun x hx e=>?_
    unfold inL at h
    have:((lev n).map (·.1)).contains t.text=true:=List.contains_iff_mem.2 (List.mem_map.2 ⟨x,hx,e⟩)
    rw [h] at this; cases this
   ·rfl
 ·rw [hd] at e; cases e
theorem tail_yes {n:Nat} {a:Ex} {E:Rv} {j:Nat} {t:Tok} (hj:j≤E.L.length) (ht:nxt E j false=t) (h:(t.kind == 2)=true) (h2:inL ((lev n).map (·.1)) t.text=true) :
  ∃ op,(lev n).lookup t.text=some op∧j<E.L.length∧PE (.tail n a) (E.ks.drop j)=(PE (.ex (n+1)) (E.ks.drop (j+1))).bind fun b q=>PE (.tail n (bin op t.text a b)) q:=by
 rcases Rv.next_ hj with ⟨hl,u,hu,_,hd⟩ | ⟨_,hn,_⟩
 ·have e2:nxt E j false=u:=by simp [nxt,hu]
  rw [ht] at e2
  subst e2
  unfold inL at h2
  obtain ⟨x,hx,e⟩:=List.mem_map.1 (List.contains_iff_mem.1 h2)
  have:∀ (M:List (List UInt8 × Int)),x∈M→∃ op,M.lookup t.text=some op:=by
   intro M
   induction M with
   | nil=>intro h; cases h
   | cons y M ih =>
    intro h
    by_cases hy:t.text=y.1
    ·exact ⟨y.2,by rw [List.lookup_cons,hy]; simp⟩
    ·rcases List.mem_cons.1 h with rfl | h
     ·exact absurd e.symm hy
     ·obtain ⟨op,ho⟩:=ih h
      exact ⟨op,by rw [List.lookup_cons,beq_false_of_ne hy]; exact ho⟩
  obtain ⟨op,ho⟩:=this _ hx
  refine ⟨op,ho,hl,?_⟩
  rw [hd,u6z]
  have hop:opOf n (key t)=some op:=by unfold opOf key; simp only [h,if_true]; exact ho
  simp only [step,hop]
  rfl
 ·have:t=⟨0,0,[],0⟩:=by rw [← ht]; simp [nxt,hn]
  subst this; cases h
theorem at0_ex {E:Rv} {i j:Nat} {b':Bool} {a:Ex} {n:Nat} (hj:j≤E.L.length) {b:Bool} (h:at0 E i b (PE (.ex n))=mkR b' a (E.ks.drop j)) (hb:b'=false):i<j :=
 mk_adv hj (fun l a r h=>by have:=PE_len _ _ _ _ h; simp only [dl] at this; omega) h hb
theorem rexpr_lv {E:Rv} (hE:E.Ok) (n:Nat) (hn1:1≤n) (hn2:n≤10) (w:World) (i:Nat) (hN:∀ j,i≤j→∀ w,Rp E w j false→Calls Tryz.prog 49 #[.pointer (some ⟨E.b,0,none⟩),.int .i64 ((n:Int)+1)] w (Ro E w (at0 E j false (PE (.ex (n+1)))) (RxV w.heap.size))) (hp:Rp E w i false) :
  Calls Tryz.prog 49 #[.pointer (some ⟨E.b,0,none⟩),.int .i64 n] w (Ro E w (at0 E i false (PE (.ex n))) (RxV w.heap.size)):=by
 obtain ⟨c0,c1,c2,_,_⟩:=(hp.keepB hE (u0j w (.cells #[.int .i64 0,.int .i64 0,.int .i32 0,.string ⟨#[]⟩,.slice none 0 0] 34))).c
 have HP:=hid hp
 have HN:=hid hN
 have hsz:=hp.sz
 have hlt:=hE.lt
 have hlen:=hE.len
 have hd10:decide ((10:Int)<n)=false:=by simp; omega
 clear hp hN
 go_enter Tryz.func49,Tryz.ntmps49
 go_wp2_with fail
 refine (HN.out i (Nat.le_refl _) _ (HP.out.keepB hE tBEL)).mono ?_
 rintro e w1 ⟨hg1,b1,j1,v1,a1,hR,hp1,rfl,⟨ak,ao,an,ax,aA,am,ac,rfl,ha⟩⟩
 have HR1:=hid hR
 clear hR c0 c1 c2 hd10
 have hz1:=hg1.size
 simp only [u0e] at hz1
 obtain ⟨_,_,_,l1⟩:=u0a (q:=w.heap.size) hg1 tLOC tSZ
 go_wp2_with fail
 go_loopw [6] (fun _ wr=>ReRel E w n i w1.heap.size wr) (fun _ wr=>muR E wr)
 case atStart =>
  refine ⟨j1,b1,a1,ak,ao,an,ax,aA,am,ac,fun hb=>at0_ex hp1.hi HR1.out hb,tGB,hp1.keep hE tBEL,?_,tLOC,tLOC,RE.keeps (P:=fun g=>(w.alloc _).heap.size≤g∧g<w1.heap.size) (fun p u hp hu=>past hu _) (fun g hg=>⟨⟨by have:=hg.1; simpa using this,by have:=hg.2; omega⟩,by have:=hg.2; simp; omega⟩) _ _ ha⟩
  rw [u6z,step,if_neg (by omega)]
  exact u1y HR1.out _
 case round =>
  obtain ⟨j,b,a,ak,ao,an,ax,aA,am,ac,hij,hgr,hp,hTL,hq0,hq5,hre⟩:=hrel
  have HT:=hid hTL
  have HRE:=hid hre
  have hz0:=hgr.size
  have hs5:w1.heap.size<wr.heap.size:=(Array.getElem?_eq_some_iff.1 hq5).1
  have hs0:w.heap.size<wr.heap.size:=(Array.getElem?_eq_some_iff.1 hq0).1
  have HP2:=hid hp
  obtain ⟨c0,c1,c2,f1,f2⟩:=hp.c
  clear hTL hre hp
  cases b
  rotate_left 1
  ·have r5:∀ k,wr.cell? ⟨w1.heap.size,k,none⟩=#[.int .i64 ak,.int .i64 ao,.int .i32 an,.string (bs ax),.slice aA am ac][k]?:=fun k=>cell_of_row _ _ k _ _ _ hq5
   have r0:∀ k,wr.cell? ⟨w.heap.size,k,none⟩=#[.int .i64 0,.int .i64 0,.int .i32 0,.string ⟨#[]⟩,.slice none 0 0][k]?:=fun k=>cell_of_row _ _ k _ _ _ hq0
   have f0:∀ k,wr.frozen? ⟨w.heap.size,k,none⟩=false:=fun k=>by simp [World.frozen?,hq0]
   go_wp2
   refine u3c rfl rfl rfl tRES ?_
   refine ⟨tGB,true,j,_,a,by rw [u0l,HT.out]; rfl,HP2.out.keep hE tBEL,rfl,⟨ak,ao,an,ax,aA,am,ac,rfl,rq_keep HRE.out tKQ tSZ tSZ⟩⟩
  have hij:=hij rfl
  obtain ⟨t,ht⟩:∃ t,nxt E j false=t:=⟨_,rfl⟩
  have HTK:=hid ht
  clear ht
  go_wp2_with fail
  refine (rlevel n hn1 hn2 _).mono ?_
  rintro e w2 ⟨g1,g2,rfl,hb2,hg1a,hg1b,hg2a,hg2b,hcs⟩
  have hp2:=HP2.out.keepB hE hb2
  have hz2:=hb2.size
  have hg2:=u0d hb2 (some E.b)
  obtain ⟨_,_,_,l02⟩:=u0a (q:=w.heap.size) hg2 hq0 tSZ
  obtain ⟨_,_,_,l52⟩:=u0a (q:=w1.heap.size) hg2 hq5 tSZ
  have HCS:=hid hcs
  clear hcs c0 c1 c2 f1 f2
  go_wp2_with fail
  refine (rnext hE _ j false hp2 t HTK.out).mono ?_
  rintro e w3 ⟨rfl,hb3⟩
  have hp3:=hp2.keepB hE hb3
  have hz3:=hb3.size
  have hg3:=u0d hb3 (some E.b)
  obtain ⟨_,_,_,l03⟩:=u0a (q:=w.heap.size) hg3 l02 tSZ
  obtain ⟨_,_,_,l53⟩:=u0a (q:=w1.heap.size) hg3 l52 tSZ
  have hRs:Rs (w3.alloc (.cells #[.int .i64 t.kind,.int .i64 t.pos,.string (bs t.text),.int .i32 t.num] 67)) g1 ((lev n).map (·.1)):=by
   intro k hk
   simp only [List.length_map] at hk
   have:=(HCS.out k _ (List.getElem?_eq_getElem hk)).1
   rw [show ((lev n).map (·.1)).getD k []=(lev n)[k].1 by simp [List.getD,hk]]
   exact past ((hb3.cell (p:=⟨g1,k,none⟩) hg1b).trans this) _
  obtain ⟨q,hq⟩:∃ q,inL ((lev n).map (·.1)) t.text=q:=⟨_,rfl⟩
  have hIn:=in_any (bs t.text) ((lev n).map (·.1)) (lev n).length g1 (by simp) (by
   have h:n=1∨n=2∨n=3∨n=4∨n=5∨n=6∨n=7∨n=8∨n=9∨n=10:=by omega
   rcases h with rfl | rfl | rfl | rfl | rfl | rfl | rfl | rfl | rfl | rfl <;> decide) _ hRs
  rw [u3g,hq] at hIn
  have HIN:=hid hIn
  have HQ:=hid hq
  have HP3:=hid hp3
  clear hIn hRs hq hp3 hp2
  have hgA:w.grownBy w3 (some E.b):=u0b (u0b hgr hg2) hg3
  have KA:Kq (w.heap.size+1) w1.heap.size wr w3:=fun p u hp hu=>(hb3.cell (by have:=World.block_lt_of_cell? wr _ hu; omega)).trans ((hb2.cell (World.block_lt_of_cell? wr _ hu)).trans hu)
  have hre3:=rq_same HRE.out KA (by omega)
  have HRE3:=hid hre3
  have HGA:=hid hgA
  clear hgA hre3 KA hgr hg2 hg3 hb2 hb3 l02 l52 hq0 hq5
  cases hk:(t.kind == 2)
  ·have hk':(t.kind != 2)=true:=by simp [bne,hk]
   have HNO:=hid (tail_no (n:=n) (a:=a) HP3.out.hi HTK.out (.inl hk))
   clear hk
   go_wp2
   refine u3c rfl rfl rfl tRES ?_
   refine ⟨?_,false,j,_,a,by rw [u0l,HT.out,u1p,u0z,HNO.out],HP3.out.keep hE tBEL,rfl,⟨ak,ao,an,ax,aA,am,ac,rfl,rq_keep HRE3.out tKQ tSZ tSZ⟩⟩
   have hg:=HGA.out
   exact tGB
  have hk':(t.kind != 2)=false:=by simp [bne,hk]
  cases q
  ·have HNO:=hid (tail_no (n:=n) (a:=a) HP3.out.hi HTK.out (.inr HQ.out))
   clear hk
   go_wp2_with fail
   refine HIN.out.mono ?_
   rintro e w4 ⟨rfl,rfl⟩
   go_wp2
   refine u3c rfl rfl rfl tRES ?_
   refine ⟨?_,false,j,_,a,by rw [u0l,HT.out,u1p,u0z,HNO.out],HP3.out.keep hE tBEL,rfl,⟨ak,ao,an,ax,aA,am,ac,rfl,rq_keep HRE3.out tKQ tSZ tSZ⟩⟩
   have hg:=HGA.out
   exact tGB
  ·obtain ⟨op,hlk,hjl,hpe⟩:=tail_yes (n:=n) (a:=a) HP3.out.hi HTK.out hk HQ.out
   have HLK:=hid hlk
   have HPE:=hid hpe
   obtain ⟨c0,c1,c2,f1,f2⟩:=(HP3.out.keep hE (show Below E.base w3 (w3.alloc (.cells #[.int .i64 t.kind,.int .i64 t.pos,.string (bs t.text),.int .i32 t.num] 67)) from tBEL)).c
   have l1:E.b<w3.heap.size:=HP3.out.lt
   clear hk hlk hpe c0 c2 f2
   go_wp2_with fail
   refine HIN.out.mono ?_
   rintro e w4 ⟨rfl,rfl⟩
   go_wp2_with fail
   generalize hW:World.alloc (World.setCell _ _ _) _=W4
   have hp4:Rp E W4 (j+1) false:=by
    rw [← hW]
    have:=HP3.out.step hE (j:=j+1) (by omega)
    exact (show Rp E (w3.setCell ⟨E.b,1,none⟩ (.int .i64 ((j:Int)+1))) (j+1) false by simpa using this).keep hE tBEL
   have t4:W4.heap[w3.heap.size]? = some (.cells #[.int .i64 t.kind,.int .i64 t.pos,.string (bs t.text),.int .i32 t.num] 67 (0,0)):=by rw [← hW]; exact tLOC
   have a4:W4.heap[w1.heap.size]? = some (.cells #[.int .i64 ak,.int .i64 ao,.int .i32 an,.string (bs ax),.slice aA am ac] 34 (0,0)):=by rw [← hW]; exact tLOC
   have z4:W4.heap[w.heap.size]? = some (.cells #[.int .i64 0,.int .i64 0,.int .i32 0,.string ⟨#[]⟩,.slice none 0 0] 34 (0,0)):=by rw [← hW]; exact tLOC
   have hz4:W4.heap.size=w3.heap.size+1:=by rw [← hW]; simp only [u0e,u0h]
   have hg4:w.grownBy W4 (some E.b):=by
    rw [← hW]
    have hg:=HGA.out
    exact tGB
   have hre4:RE W4 (fun g=>(w.heap.size+1≤g∧g≠w1.heap.size)∧g<W4.heap.size) [.int .i64 ak,.int .i64 ao,.int .i32 an,.string (bs ax),.slice aA am ac] a:=by rw [← hW]; exact rq_same HRE3.out tKQ tSZ
   have HP4:=hid hp4
   have HG4:=hid hg4
   have HRE4:=hid hre4
   have T4:=hid t4
   have A4:=hid a4
   have Z4:=hid z4
   have q2:W4.cell? ⟨w3.heap.size,2,none⟩=some (.string (bs t.text)):=by rw [cell_of_row _ _ 2 _ _ _ t4]; rfl
   have x0:W4.cell? ⟨w1.heap.size,0,none⟩=some (.int .i64 ak):=by rw [cell_of_row _ _ 0 _ _ _ a4]; rfl
   have x1:W4.cell? ⟨w1.heap.size,1,none⟩=some (.int .i64 ao):=by rw [cell_of_row _ _ 1 _ _ _ a4]; rfl
   have x2:W4.cell? ⟨w1.heap.size,2,none⟩=some (.int .i32 an):=by rw [cell_of_row _ _ 2 _ _ _ a4]; rfl
   have x3:W4.cell? ⟨w1.heap.size,3,none⟩=some (.string (bs ax)):=by rw [cell_of_row _ _ 3 _ _ _ a4]; rfl
   have x4:W4.cell? ⟨w1.heap.size,4,none⟩=some (.slice aA am ac):=by rw [cell_of_row _ _ 4 _ _ _ a4]; rfl
   have HNW:=hid (show ∀ w,Rp E w (j+1) false→Calls Tryz.prog 49 #[.pointer (some ⟨E.b,0,none⟩),.int .i64 (IntKind.i64.wrap ((n:Int)+1))] w (Ro E w (at0 E (j+1) false (PE (.ex (n+1)))) (RxV w.heap.size)) from fun w h=>by rw [show IntKind.i64.wrap ((n:Int)+1)=(n:Int)+1 by rw [IntKind.wrap_i64]; omega]; exact HN.out (j+1) (by omega) w h)
   clear hp4 t4 a4 z4 hg4 hre4 hW c1 f1 HIN HRE HRE3 HGA HCS
   go_region_law (first | (go_simp; go_at_call 49; refine (HNW.out _ (HP4.out.keep hE tBEL)).mono ?_; rintro e w5 ⟨hg5,b5,j5,v5,a5,hR,hp5,rfl,⟨bk,bo,bn,bx,bA,bm,bc,rfl,hb⟩⟩; have HR5:=hid hR; clear hR; obtain ⟨qt5,_,_,t5⟩:=u0a (q:=w3.heap.size) hg5 (u2d T4.out) (by omega); obtain ⟨qa5,_,_,a5'⟩:=u0a (q:=w1.heap.size) hg5 (u2d A4.out) (by omega)) | (go_simp; go_at_call 60; refine (rbinary n hn1 hn2 t.text op HLK.out _ ak ao an ax aA am ac bk bo bn bx bA bm bc).mono ?_; rintro e w6 ⟨nb,hb6,hnb,rfl,hnq⟩; obtain ⟨qt6,_,_,_⟩:=u0a (q:=w3.heap.size) (u0d hb6 (some E.b)) t5 (by omega); obtain ⟨qa6,_,_,a6'⟩:=u0a (q:=w1.heap.size) (u0d hb6 (some E.b)) a5' (by omega)))
   all_goals
    obtain ⟨_,_,_,z5⟩:=u0a (q:=w.heap.size) hg5 (u2d Z4.out) (by omega)
    obtain ⟨_,_,_,z6⟩:=u0a (q:=w.heap.size) (u0d hb6 (some E.b)) z5 (by omega)
    have hnl:=(Array.getElem?_eq_some_iff.1 hnq).1
    have hz5:=hg5.size
    have hz6:=hb6.size
    simp only [u0m] at hz5
    have K5:Kq (w.heap.size+1) w1.heap.size W4 w5:=kq_call (b:=E.b) (show Kq _ _ W4 W4.drew from fun _ _ _ hu=>hu) hg5 (by omega)
    have K65:Kq (w.heap.size+1) w1.heap.size w5 w6:=kq_call (b:=E.b) (kq_refl _ _ _) (u0d hb6 _) (by omega)
    have K6:Kq (w.heap.size+1) w1.heap.size W4 w6:=kq_call (b:=E.b) K5 (u0d hb6 _) (by omega)
    have G6:w.grownBy w6 (some E.b):=u0b (u0b (u8t HG4.out) hg5) (u0d hb6 _)
    have P6:=hp5.keepB hE hb6
    have RA:=rq_same HRE4.out K6 (by omega)
    have RB:=rq_new (h:=w.heap.size+1) (q:=w1.heap.size) hb K65 (by simp only [u0m]; omega) (by simp only [u0m]; omega) (by omega)
    have hne:nb≠w1.heap.size:=by omega
    generalize hV:World.setCell _ ⟨w1.heap.size,4,none⟩ _=V
    have gV:w.grownBy V (some E.b):=by
     rw [← hV]
     refine u1a (u1a (u1a (u1a (u1a G6 ?_ _) ?_ _) ?_ _) ?_ _) ?_ _ <;> exact .inr (show w.heap.size≤w1.heap.size by omega)
    have pV:Rp E V j5 b5:=by rw [← hV]; exact P6.keep hE tBEL
    have zV:V.heap[w.heap.size]? = some (.cells #[.int .i64 0,.int .i64 0,.int .i32 0,.string ⟨#[]⟩,.slice none 0 0] 34 (0,0)):=by rw [← hV]; exact tLOC
    have cV:V.heap[w1.heap.size]? = some (.cells #[.int .i64 4,.int .i64 op,.int .i32 0,.string (bs []),.slice (some ⟨nb,0,none⟩) 2 2] 34 (0,0)):=by rw [← hV]; exact put5 _ _ _ _ _ a6'
    have rV:RE V (fun g=>(w.heap.size+1≤g∧g≠w1.heap.size)∧g<V.heap.size) [.int .i64 4,.int .i64 op,.int .i32 0,.string (bs []),.slice (some ⟨nb,0,none⟩) 2 2] (bin op t.text a a5):=by
     have szV:V.heap.size=w6.heap.size:=by rw [← hV]; simp only [u0h]
     refine RE.keeps (w:=w6) (P:=fun g=>(w.heap.size+1≤g∧g≠w1.heap.size)∧g<w6.heap.size) (fun p u hp hu=>by rw [← hV]; exact (show Kq (w.heap.size+1) w1.heap.size w6 _ from tKQ) p u hp.1 hu) (fun g hg=>⟨hg.1,by rw [szV]; exact hg.2⟩) _ _ ?_
     rw [show bin op t.text a a5=if (t.text == [62] || t.text == [62,61]) then .mk 4 op 0 [] [a5,a] else .mk 4 op 0 [] [a,a5] from rfl]
     cases htu:(t.text == [62] || t.text == [62,61])
     ·rw [htu] at hnq
      exact rq_mk (name:=[]) (slq_two (nb:=nb) _ _ _ _ _ _ _ _ _ _ _ _ _ _ (by simpa using hnq) ⟨⟨by omega,hne⟩,hnl⟩ RA RB)
     ·rw [htu] at hnq
      exact rq_mk (name:=[]) (slq_two (nb:=nb) _ _ _ _ _ _ _ _ _ _ _ _ _ _ (by simpa using hnq) ⟨⟨by omega,hne⟩,hnl⟩ RB RA)
    have hj5:=fun hb:b5=false=>at0_ex hp5.hi HR5.out hb
    have MM:PE (.ex n) (E.ks.drop i)=(mkR b5 (bin op t.text a a5) (E.ks.drop j5)).bind (fun a r=>PE (.tail n a) r):=by
     have h5:=HR5.out
     rw [u0l] at h5
     rw [HT.out,u1p,u0z,HPE.out,h5]
     cases b5 <;> rfl
    have hmu:=HP2.out.mu
    have hmv:=pV.mu
    have HRELS:=hid (show ReRel E w n i w1.heap.size V from ⟨j5,b5,_,_,_,_,_,_,_,_,fun hb=>by have:=hj5 hb; omega,gV,pV,MM,zV,cV,rV⟩)
    have HMU:muR E V<muR E wr:=by
     rw [hmu,hmv]
     have:=HP2.out.hi
     cases b5
     ·have:=hj5 rfl
      simp; omega
     ·simp; omega
    clear hV gV pV zV cV rV MM hmu hmv RA RB K5 K6 K65 G6 P6 hnq hb
    go_wp2
    go_roundw
    case rel=>exact HRELS.out
    case measure=>exact HMU
def RpC (E:Rv) (i:Nat) (b:Bool):Prop:=∀ (w:World),Rp E w i b→Calls Tryz.prog 147 #[.pointer (some ⟨E.b,0,none⟩)] w (Ro E w (at0 E i b (PE .prim)) (RxV w.heap.size))
theorem u6p {E:Rv} {i:Nat} {s:List UInt8} (hi:i≤E.L.length) (h:hit s (E.ks.drop i)=true):∃ n,E.ks.drop i=(2,s,n) :: E.ks.drop (i+1):=by
 rcases Rv.next_ hi with ⟨_,t,_,_,hd⟩ | ⟨e,_,hd⟩
 ·obtain ⟨n,r,e⟩:=hit_cons h
  rw [hd] at e
  injection e with e1 e2
  exact ⟨n,by rw [hd,e1]⟩
 ·rw [hd] at h; cases h
theorem unText_unL:∀ k,k<3→u7y (k:Nat)=unL.getD k []:=by
 repeat (first | exact u4p | refine u4q ?_ (by decide))
theorem runary {E:Rv} (hE:E.Ok) (w:World) (i:Nat) (b:Bool) (hU:∀ j,i<j→RuC E j false) (hPr:RpC E i b) (hp0:Rp E w i b) :
  Calls Tryz.prog 93 #[.pointer (some ⟨E.b,0,none⟩)] w (Ro E w (at0 E i b (PE .un)) (RxV w.heap.size)):=by
 have HU:=hid hU
 have HPr:=hid hPr
 have hsz:=hp0.sz
 have hlt:=hE.lt
 have hi:=hp0.hi
 have HP:=hid hp0
 clear hU hPr hp0
 go_enter Tryz.func93,Tryz.ntmps93
 go_wp2_with fail
 go_loopw [3] (fun n wr=>∃ k:Nat,k≤3∧n=.int .i64 k∧(∀ m,m<k→hitB E i b (unL.getD m [])=false)∧w.grownBy wr (some E.b)∧Rp E wr i b∧wr.heap[w.heap.size]? = some (.cells #[.int .i64 0,.int .i64 0,.int .i32 0,.string ⟨#[]⟩,.slice none 0 0] 34 (0,0))) (fun n _=>3 - (intOf n).toNat)
 case atStart=>exact ⟨0,Nat.zero_le _,rfl,fun m hm=>absurd hm (Nat.not_lt_zero m),tGB,HP.out.keep hE tBEL,tLOC⟩
 case round =>
  obtain ⟨k,hk,rfl,hno,hgr,hp,hq⟩:=hrel
  have HK:=hid hno
  have hz0:=hgr.size
  have r3:w.heap.size<wr.heap.size:=(Array.getElem?_eq_some_iff.1 hq).1
  have HPr2:=hid hp
  clear hno hp
  by_cases hlt4:k<3
  ·obtain ⟨g,hg⟩:∃ g,u7y (k:Nat)=g:=⟨_,rfl⟩
   have HG:=hid ((unText_unL k hlt4).symm.trans hg)
   have HT:=hid (unText_112 (k:Nat) (by omega) (by omega))
   rw [hg] at HT
   clear hg
   go_wp2_with fail
   refine (HT.out _).mono ?_
   rintro e w1 ⟨rfl,hb1⟩
   have hz1:=hb1.size
   have hg1:=u0d hb1 (some E.b)
   obtain ⟨_,_,_,l1⟩:=u0a (q:=w.heap.size) hg1 hq tSZ
   go_wp2_with fail
   refine (reat hE _ i b (HPr2.out.keepB hE hb1) g).mono ?_
   rintro e w2 ⟨hg2,⟨hh,rfl,hp2⟩ | ⟨hh,rfl,hp2⟩⟩
   all_goals (have HH:=hid hh; clear hh; have hz2:=hg2.size; have hl:=u0a (q:=w.heap.size) hg2 l1 tSZ; obtain ⟨_,_,_,l2⟩:=hl)
   ·have hd0:=HH.out
    rw [← HG.out] at hd0
    obtain ⟨rfl,hd1,hil⟩:=u2n hd0
    obtain ⟨nn,hd⟩:=u6p hi hd1
    have HD:=hid (show PE .un (E.ks.drop i)=(PE .un (E.ks.drop (i+1))).bind fun a q=>.ok (.mk 3 k 0 [] [a]) q by rw [hd]; exact un_hit k hlt4)
    clear hd hd0 hd1
    go_wp2_with fail
    refine (HU.out (i+1) (by omega) _ (hp2.keep hE tBEL)).mono ?_
    rintro e w3 ⟨hg3,b3,j,v,a,hR,hp3,rfl,⟨ak,ao,an,ax,aA,am,ac,rfl,ha⟩⟩
    have HR:=hid hR
    clear hR
    have hz3:=hg3.size
    (try simp only [u0e,u0h,u0m] at hz3)
    obtain ⟨_,_,_,l3⟩:=u0a (q:=w.heap.size) hg3 tLOC tSZ
    go_wp2
    refine u3c rfl rfl rfl tRES ?_
    refine ⟨tGB,b3,j,_,.mk 3 k 0 [] [a],?_,hp3.keep hE tBEL,rfl,u8p (name:=[]) (sl_one (nb:=w3.heap.size) _ _ _ _ _ _ _ tLOC tSZ (u1s ha tKP tSZ tSZ))⟩
    have h:=HR.out
    rw [u0l] at h ⊢
    rw [HD.out,h]
    exact u3j fun a=>Ex.mk 3 k 0 [] [a]
   ·go_wp2
    go_roundw
    case rel=>exact ⟨k+1,by omega,by go_num,fun m hm=>(by
     by_cases e:m=k
     ·rw [e,HG.out]; exact HH.out
     ·exact HK.out m (by omega)),tGB,hp2,l2⟩
    case measure=>simp [intOf]; omega
  ·have HD:Hid (at0 E i b (PE .un)=at0 E i b (PE .prim)):=hid (by
    cases b
    ·rw [u0l,u0l]
     exact un_no fun m hm=>by have:=HK.out m (by omega); simpa [hitB] using this
    ·rfl)
   go_wp2_with fail
   refine (HPr.out _ (HPr2.out.keep hE tBEL)).mono ?_
   rintro e w2 ⟨hg2,b2,j,v,a,hR,hp2,rfl,⟨ak,ao,an,ax,aA,am,ac,rfl,ha⟩⟩
   have HR:=hid hR
   clear hR
   have hz2:=hg2.size
   (try simp only [u0e,u0h,u0m] at hz2)
   obtain ⟨_,_,_,l2⟩:=u0a (q:=w.heap.size) hg2 hq tSZ
   go_wp2
   refine u3c rfl rfl rfl tRES ?_
   exact ⟨tGB,b2,j,_,a,by rw [HD.out,HR.out],hp2.keep hE tBEL,rfl,⟨ak,ao,an,ax,aA,am,ac,rfl,u1s ha tKP tSZ tSZ⟩⟩
section
variable {α:Type} {rd:Rd α} {T sz:Nat}
theorem run_append_L (ok:rd.Ok) (w:World) (t ty:TypeId) (z:Value) (bytes:Nat)
  (info:(Tryz.prog.info? T).map (fun i=>(i.zero,i.size,i.bytes))=some (some z,sz,bytes)) (ht:Tryz.prog.underlying t=some (.slice T)) (hzs:z.cells.size=sz) (hsz:0<sz) (hby:bytes≤1000)
  (base:Nat) (v:Value) (L:List α) (hown:OwnL rd T sz w base v L) (g:Nat) (cs:Array Value) (fr:Nat × Nat) (hq:w.heap[g]? = some (.cells cs T fr)) (hcs:cs.size=sz)
  (h1:∀ u∈cs.toList,u.oneCell'=true) (e:α) (h:Nat) (he:rd (fun g=>h≤g∧g<w.heap.size) w cs.toList e) (hbh:base≤h) (hvh:∀ g,v.ownBlock=some g→g<h) (hl:L.length≤1000000) (hbase:base≤w.heap.size) :
  ∃ g' cap w',(Builtin.append_ #[t,t] ty #[v,.slice (some ⟨g,0,none⟩) 1 1]).run Tryz.prog w=.ok (.slice (some ⟨g',0,none⟩) (L.length+1) cap) w'∧OwnL rd T sz w' base (.slice (some ⟨g',0,none⟩) (L.length+1) cap) (L++[e])∧w.grownBy w' v.ownBlock ∧
   (v.ownBlock=some g'∨g'=w.heap.size)∧g' < w'.heap.size:=by
 obtain ⟨rows,r1,r2,r3⟩:=hown
 obtain ⟨i,hi,hz,hs1,hb⟩:=info_parts info
 obtain ⟨g',cap,w',hr,k1,k2,k4,k5⟩:=run_append_lies (P:=Tryz.prog) w t ty base T i z sz bytes ht hi hz hs1 hb hzs hsz v L.length rows.flatten r3 ⟨g,0,none⟩ 1 1 cs.toList (by simp [hcs]) (fun j u hu=>(at_row hq 0 cs.toList (fun j u hu=>by simpa using hu)) j u hu) h1 (by omega) (by unfold maxLen; omega) (by
  calc (L.length+1) * bytes≤1000001 * 1000:=Nat.mul_le_mul (by omega) hby
   _≤140737488355328:=by decide) hbase w.heap.size rfl
 refine ⟨g',cap,w',hr,⟨rows++[cs.toList],by simp [r1],fun j r b hr hb'=>?_,by simpa using k1⟩,k2,k4,k5⟩
 have own':∀ g,g<w.heap.size→v.ownBlock≠some g→(Value.slice (some ⟨g',0,none⟩) (L.length+1) cap).ownBlock≠some g:=by
  intro g hg1 hg2 e
  have e:g'=g:=by simpa [Value.ownBlock] using e
  rcases k4 with k | k
  ·exact hg2 (e ▸ k)
  ·omega
 have kp:u8b (fun g=>(base≤g∧v.ownBlock≠some g)∧g<w.heap.size) w w':=fun p u hp hu=>k2.cell hu (fun e=>hp.1.2 e.symm)
 by_cases hj:j<L.length
 ·rw [List.getElem?_append_left (by omega)] at hr hb'
  obtain ⟨m1,m2⟩:=r2 j r b hr hb'
  exact ⟨m1,ok _ _ w w' r b kp (fun g hg=>⟨⟨hg.1.1,own' g hg.2 hg.1.2⟩,Nat.lt_of_lt_of_le hg.2 k2.size⟩) m2⟩
 ·have hj2:=(List.getElem?_eq_some_iff.1 hb').1
  simp at hj2
  have e1:j=L.length:=by omega
  subst e1
  rw [List.getElem?_append_right (by omega)] at hr hb'
  simp [r1] at hr hb'
  subst hr; subst hb'
  refine ⟨by simp [hcs],ok _ _ w w' _ _ (fun p u hp hu=>kp p u ⟨⟨Nat.le_trans hbh hp.1,fun e=>by have:=hvh _ e; have:=hp.1; omega⟩,hp.2⟩ hu) (fun g hg=>⟨⟨Nat.le_trans hbh hg.1,own' g hg.2 (fun e=>by have:=hvh _ e; have:=hg.1; omega)⟩,Nat.lt_of_lt_of_le hg.2 k2.size⟩) he⟩
theorem u9u (ok:rd.Ok) {ops:Array Oper} {o:Oper} {a:Act} {w:World} {K:Act→World→Prop} {Q:Exit→Act→World→Prop} {E:Prop} (hgd:o.guard=none) (s x:Operand) (t:TypeId)
  (ho:o.op=.call { callee:=.builtin .append,args:=#[s,x],argTypes:=#[t,t] }) (z:Value) (bytes:Nat)
  (info:(Tryz.prog.info? T).map (fun i=>(i.zero,i.size,i.bytes))=some (some z,sz,bytes)) (ht:Tryz.prog.underlying t=some (.slice T)) (hzs:z.cells.size=sz) (hsz:0<sz) (hby:bytes≤1000)
  (base:Nat) (v:Value) (L:List α) (hs:a.eval s=v) (hown:OwnL rd T sz w base v L) (g:Nat) (hx:a.eval x=.slice (some ⟨g,0,none⟩) 1 1) (cs:Array Value) (fr:Nat × Nat) (hq:w.heap[g]? = some (.cells cs T fr)) (hcs:cs.size=sz)
  (h1:∀ u∈cs.toList,u.oneCell'=true) (e:α) (h:Nat) (he:rd (fun g=>h≤g∧g<w.heap.size) w cs.toList e) (hbh:base≤h) (hvh:∀ g,v.ownBlock=some g→g<h) (hl:L.length≤1000000) (hbase:base≤w.heap.size)
  (hK:∀ g' cap w',OwnL rd T sz w' base (.slice (some ⟨g',0,none⟩) (L.length+1) cap) (L++[e])→w.grownBy w' v.ownBlock→(v.ownBlock=some g'∨g'=w.heap.size)→g' < w'.heap.size→K (a.put o.dst (.slice (some ⟨g',0,none⟩) (L.length+1) cap)) w') :
  if Region.wanted o (yielded ops a.tmps)=true then Oper.wp Tryz.prog o a w K Q else E:=by
 have hw:Region.wanted o (yielded ops a.tmps)=true:=by simp [Region.wanted,hgd]
 rw [if_pos hw]
 obtain ⟨g',cap,w',hr,h2,h3,h4,h5⟩:=run_append_L ok w t o.type z bytes info ht hzs hsz hby base v L hown g cs fr hq hcs h1 e h he hbh hvh hl hbase
 unfold Oper.wp execOp
 simp only [ho,resolve,invoke,builtin,Sem.run_bind,Sem.run_pure,Result.andThen_ok,List.map_toArray,List.map_cons,List.map_nil,hs,hx,hr]
 exact hK g' cap w' h2 h3 h4 h5
end
theorem rx_any {E:Rv} (hE:E.Ok) {i:Nat} (h:∀ j,i<j→RxC E j false) (j:Nat) (b:Bool) (hb:b=false→i<j):RxC E j b:=by
 cases b
 ·exact h j (hb rfl)
 ·exact rexpr_bad hE j
theorem rS_adv {E:Rv} {i j:Nat} {b b':Bool} {s:List UInt8} {u:Unit} (hj:j≤E.L.length) (h:at0 E i b (u1k s)=mkR b' u (E.ks.drop j)) (hb:b'=false):i<j :=
 mk_adv hj (fun l a r h=>lenS h) h hb
theorem nxt_other {E:Rv} (hE:E.Ok) {i:Nat} (hi:i≤E.L.length) {t:Tok} (ht:nxt E i false=t) (h1:((t.kind == 1)&&!(decide (t.text=[])))=false) (h0:((t.kind == 0)&&!(decide (t.text=[])))=false):Other (E.ks.drop i):=by
 subst ht
 rcases Rv.next_ hi with ⟨hl,t,ht,hm,hd⟩ | ⟨e,hn,hd⟩
 ·have e:nxt E i false=t:=by simp [nxt,ht]
  rw [e] at h1 h0
  obtain ⟨hw,hx⟩:=hE.wf t hm
  simp only [hx,decide_false,Bool.not_false,Bool.and_true,beq_eq_false_iff_ne] at h1 h0
  have k2:t.kind=2:=by omega
  exact .inr ⟨t.text,t.num,_,by rw [hd]; unfold key; rw [k2]⟩
 ·exact .inl hd
end Go.Proofs.YtbkhnilbgocpnaaGreatDoor.SynC
