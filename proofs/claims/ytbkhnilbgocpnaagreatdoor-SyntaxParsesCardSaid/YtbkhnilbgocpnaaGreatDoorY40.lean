import Derived.Test.YtbkhnilbgocpnaaGreatDoorY0
import Derived.Test.YtbkhnilbgocpnaaGreatDoorY39
set_option linter.unusedVariables false
set_option linter.unusedSimpArgs false
set_option maxRecDepth 100000
set_option maxHeartbeats 2000000
open Go.Lib (hid)
namespace Go.Proofs.YtbkhnilbgocpnaaGreatDoor.SynC
open Go.Proofs.YtbkhnilbgocpnaaGreatDoor.LexC
open Go Go.ChangeShapes Go.WideShapes Go.ChangeAt Go.RowKit Go.Deep
theorem prim_I {E:Rv} {i:Nat} {t:Tok} (hi:i≤E.L.length) (ht:nxt E i false=t) (hk:(t.kind == 1)=true):PE .prim (E.ks.drop i)=(needI' (E.ks.drop i)).bind fun n r=>.ok (.mk 0 0 n [] []) r:=by
 rcases Rv.next_ hi with ⟨hl,u,hu,hm,hd⟩ | ⟨e,hn,hd⟩
 ·have:nxt E i false=u:=by simp [nxt,hu]
  rw [ht] at this; subst this
  have:t.kind=1:=by simpa using hk
  rw [hd,show key t=(1,t.text,t.num) by unfold key; rw [this],prim_int]; rfl
 ·have:t=⟨0,0,[],0⟩:=by rw [← ht]; simp [nxt,hn]
  subst this; cases hk
theorem prim_N {E:Rv} {i:Nat} {t:Tok} (hi:i≤E.L.length) (ht:nxt E i false=t) (hk:(t.kind == 0)=true) (hx:t.text≠[]):PE .prim (E.ks.drop i)=(needN' (E.ks.drop i)).bind fun x r=>PE (.named x) r:=by
 rcases Rv.next_ hi with ⟨hl,u,hu,hm,hd⟩ | ⟨e,hn,hd⟩
 ·have:nxt E i false=u:=by simp [nxt,hu]
  rw [ht] at this; subst this
  have:t.kind=0:=by simpa using hk
  rw [hd,show key t=(0,t.text,t.num) by unfold key; rw [this],prim_name]; rfl
 ·have:t=⟨0,0,[],0⟩:=by rw [← ht]; simp [nxt,hn]
  subst this; exact absurd rfl hx
theorem nxt_one {E:Rv} (hE:E.Ok) {i:Nat} {t:Tok} (hi:i≤E.L.length) (ht:nxt E i false=t) (hk:(t.kind == 1)=true):t.text≠[]:=by
 rcases Rv.next_ hi with ⟨hl,u,hu,hm,hd⟩ | ⟨e,hn,hd⟩
 ·have:nxt E i false=u:=by simp [nxt,hu]
  rw [ht] at this; subst this
  exact (hE.wf _ hm).2
 ·have:t=⟨0,0,[],0⟩:=by rw [← ht]; simp [nxt,hn]
  subst this; cases hk
theorem hit_one {l:List K} {s t:List UInt8} (h:hit s l=true) (hst:s≠t):hit t l=false:=by
 obtain ⟨n,r,rfl⟩:=hit_cons h
 unfold hit isS
 simp [hst]
theorem rprim_int {E:Rv} (hE:E.Ok) (w:World) (i:Nat) (hp0:Rp E w i false) (t:Tok) (ht:nxt E i false=t) (hk:(t.kind == 1)=true) :
  Calls Tryz.prog 147 #[.pointer (some ⟨E.b,0,none⟩)] w (Ro E w (at0 E i false (PE .prim)) (RxV w.heap.size)):=by
 have hsz:=hp0.sz
 have hlt:=hE.lt
 have hi:=hp0.hi
 have HT:=hid ht
 have HR0:=hid (prim_I hi ht hk)
 have hq:(bs t.text).toList.isEmpty=false:=by rw [bs_isE]; simp [nxt_one hE hi ht hk]
 obtain ⟨c0,c1,c2,_,_⟩:=(hp0.keepB hE (u0j w (.cells #[.int .i64 0,.int .i64 0,.int .i32 0,.string ⟨#[]⟩,.slice none 0 0] 34))).c
 have HP:=hid hp0
 clear hp0 ht
 go_enter Tryz.func147,Tryz.ntmps147
 go_wp2_with fail
 refine (rnext hE _ i false (HP.out.keep hE tBEL) t HT.out).mono ?_
 rintro e w1 ⟨rfl,hb1⟩
 have hg1:=u0d hb1 (some E.b)
 have hp1:=(HP.out.keep hE (show Below E.base w (w.alloc (.cells #[.int .i64 0,.int .i64 0,.int .i32 0,.string ⟨#[]⟩,.slice none 0 0] 34)) from tBEL)).keepB hE hb1
 have hz1:=hg1.size
 (try simp only [u0e,u0h,u0m] at hz1)
 obtain ⟨_,_,_,l1⟩:=u0a (q:=w.heap.size) hg1 tLOC tSZ
 go_wp2_with fail
 refine (rint hE _ i false (hp1.keep hE tBEL)).mono ?_
 rintro e w2 ⟨hg2,b2,j2,v2,n2,hR,hp2,rfl,rfl⟩
 have HR2:=hid hR
 clear hR
 have hz2:=hg2.size
 (try simp only [u0e,u0h,u0m] at hz2)
 obtain ⟨_,_,_,l2⟩:=u0a (q:=w.heap.size) hg2 tLOC tSZ
 go_wp2
 refine u3c rfl rfl rfl tRES ?_
 refine ⟨tGB,b2,j2,_,.mk 0 0 n2 [] [],?_,hp2.keep hE tBEL,rfl,u8p (name:=[]) u5p⟩
 have h2:=HR2.out
 rw [u0l] at h2
 rw [u0l,HR0.out,h2]
 exact u3j fun n=>Ex.mk 0 0 n [] []
theorem rprim_name {E:Rv} (hE:E.Ok) (w:World) (i:Nat) (hL:∀ j,i<j→RxC E j false) (hp0:Rp E w i false) (t:Tok) (ht:nxt E i false=t) (hk:(t.kind == 0)=true) (hx:t.text≠[]) :
  Calls Tryz.prog 147 #[.pointer (some ⟨E.b,0,none⟩)] w (Ro E w (at0 E i false (PE .prim)) (RxV w.heap.size)):=by
 have hsz:=hp0.sz
 have hlt:=hE.lt
 have hi:=hp0.hi
 have HL:=hid hL
 have HT:=hid ht
 have HR0:=hid (prim_N hi ht hk hx)
 have hq:(bs t.text).toList.isEmpty=false:=by rw [bs_isE]; simp [hx]
 have hk1:(t.kind == 1)=false:=by
  have:t.kind=0:=by simpa using hk
  simp [this]
 have HOK:Hid (∃ x,needN' (E.ks.drop i)=.ok x (E.ks.drop (i+1))):=hid (by
  rcases nxt_name hE hi ht with ⟨_,_,_,_,h⟩ | ⟨h,_⟩
  ·exact ⟨_,h⟩
  ·rcases h with h | h
   ·rw [hk] at h; cases h
   ·exact absurd h hx)
 obtain ⟨c0,c1,c2,_,_⟩:=(hp0.keepB hE (u0j w (.cells #[.int .i64 0,.int .i64 0,.int .i32 0,.string ⟨#[]⟩,.slice none 0 0] 34))).c
 have HP:=hid hp0
 clear hp0 ht hL hx
 go_enter Tryz.func147,Tryz.ntmps147
 go_wp2_with fail
 refine (rnext hE _ i false (HP.out.keep hE tBEL) t HT.out).mono ?_
 rintro e w1 ⟨rfl,hb1⟩
 have hg1:=u0d hb1 (some E.b)
 have hp1:=(HP.out.keep hE (show Below E.base w (w.alloc (.cells #[.int .i64 0,.int .i64 0,.int .i32 0,.string ⟨#[]⟩,.slice none 0 0] 34)) from tBEL)).keepB hE hb1
 have hz1:=hg1.size
 (try simp only [u0e,u0h,u0m] at hz1)
 obtain ⟨_,_,_,l1⟩:=u0a (q:=w.heap.size) hg1 tLOC tSZ
 go_wp2_with fail
 refine (rname hE _ i false (hp1.keep hE tBEL)).mono ?_
 rintro e w2 ⟨hg2,b2,j2,v2,x2,hR,hp2,rfl,rfl⟩
 have HR2:=hid hR
 clear hR
 have hz2:=hg2.size
 (try simp only [u0e,u0h,u0m] at hz2)
 obtain ⟨_,_,_,l2⟩:=u0a (q:=w.heap.size) hg2 tLOC tSZ
 have hij:i<j2:=mk_adv hp2.hi (fun l a r h=>lenN h) HR2.out (by
  obtain ⟨x,hx⟩:=HOK.out
  have h:=HR2.out
  rw [u0l,hx] at h
  cases b2
  ·rfl
  ·cases h)
 go_wp2_with fail
 refine (rnamed hE x2 _ j2 b2 (fun j hj=>HL.out j (by omega)) hp2).mono ?_
 rintro e w3 ⟨hg3,b3,j3,v3,a3,hR,hp3,rfl,⟨ak,ao,an,ax,aA,am,ac,rfl,ha3⟩⟩
 have HR3:=hid hR
 clear hR
 have hz3:=hg3.size
 (try simp only [u0e,u0h,u0m] at hz3)
 obtain ⟨_,_,_,l3⟩:=u0a (q:=w.heap.size) hg3 l2 tSZ
 go_wp2
 refine u3c rfl rfl rfl tRES ?_
 refine ⟨tGB,b3,j3,_,a3,?_,hp3.keep hE tBEL,rfl,⟨ak,ao,an,ax,aA,am,ac,rfl,u1s ha3 tKP tSZ tSZ⟩⟩
 have h2:=HR2.out
 have h3:=HR3.out
 rw [u0l] at h2
 rw [u0l,HR0.out,h2,← h3]
 cases b2 <;> rfl
theorem pairR_eq (op:Int):pairR op=fun l=>(u1k [40] l).bind fun _ r1=>(PE (.ex 1) r1).bind fun a r2=>(u1k [44] r2).bind fun _ r3=>(PE (.ex 1) r3).bind fun b r4=>(u1k [41] r4).bind fun _ r5=>.ok (.mk 4 op 0 [] [a,b]) r5:=by
 funext l
 unfold pairR
 simp only [u0x]
theorem rprim_min {E:Rv} (hE:E.Ok) (w:World) (i:Nat) (hL:∀ j,i<j→RxC E j false) (hp0:Rp E w i false) (t:Tok) (ht:nxt E i false=t) (hk1:(t.kind == 1)=false) (hk0:(t.kind == 0)=false∨((t.kind == 0)=true∧t.text=[])) (hm:hitB E i false [109,105,110]=true) :
  Calls Tryz.prog 147 #[.pointer (some ⟨E.b,0,none⟩)] w (Ro E w (at0 E i false (PE .prim)) (RxV w.heap.size)):=by
 have hsz:=hp0.sz
 have hlt:=hE.lt
 have hi:=hp0.hi
 have hlen:=hE.len
 have HL:=hid (rx_any hE hL)
 have HT:=hid ht
 obtain ⟨_,hh,hil⟩:=u2n hm
 have hmx:hitB E i false [109,97,120]=false:=by unfold hitB; rw [hit_one hh (by decide)]; rfl
 have HM:=hid hm
 have HX:=hid hmx
 have HR0:Hid (PE .prim (E.ks.drop i)=pairR 18 (E.ks.drop (i+1))):=hid (by obtain ⟨n,hd⟩:=u6p hi hh; rw [hd]; exact prim_min)
 clear hm hmx hh
 have hcc:(t.kind == 0)=false∨((t.kind == 0)=true∧(bs t.text).toList.isEmpty=true):=by
  rcases hk0 with h | ⟨h,hx⟩
  ·exact .inl h
  ·exact .inr ⟨h,by rw [bs_isE]; simp [hx]⟩
 obtain ⟨c0,c1,c2,_,_⟩:=(hp0.keepB hE (u0j w (.cells #[.int .i64 0,.int .i64 0,.int .i32 0,.string ⟨#[]⟩,.slice none 0 0] 34))).c
 have HP:=hid hp0
 clear hp0 ht hL hk0
 rcases hcc with hk0 | ⟨hk0,hq⟩
 all_goals
  go_enter Tryz.func147,Tryz.ntmps147
  go_wp2_with fail
  refine (rnext hE _ i false (HP.out.keep hE tBEL) t HT.out).mono ?_
  rintro e w1 ⟨rfl,hb1⟩
  have hg1:=u0d hb1 (some E.b)
  have hp1:=((HP.out.keep hE (show Below E.base w (w.alloc (.cells #[.int .i64 0,.int .i64 0,.int .i32 0,.string ⟨#[]⟩,.slice none 0 0] 34)) from tBEL)).keepB hE hb1).keepB hE (u0j w1 (.cells #[.int .i64 t.kind,.int .i64 t.pos,.string (bs t.text),.int .i32 t.num] 67))
  have hz1:=hg1.size
  (try simp only [u0e,u0h,u0m] at hz1)
  obtain ⟨_,_,_,l1'⟩:=u0a (q:=w.heap.size) hg1 tLOC tSZ
  have l1:=u0g (o:=.cells #[.int .i64 t.kind,.int .i64 t.pos,.string (bs t.text),.int .i32 t.num] 67) tSZ l1'
  go_wp2_with fail
  refine (ris hE _ i false hp1 [109,105,110] _ HM.out).mono ?_
  rintro e w2 ⟨rfl,hb2⟩
  have hg2:=u0d hb2 (some E.b)
  have hp2:=hp1.keepB hE hb2
  have hz2:=hg2.size
  obtain ⟨_,_,_,l2⟩:=u0a (q:=w.heap.size) hg2 l1 tSZ
  go_wp2_with fail
  refine (ris hE _ i false hp2 [109,97,120] _ HX.out).mono ?_
  rintro e w3 ⟨rfl,hb3⟩
  have hg3:=u0d hb3 (some E.b)
  have hp3:=hp2.keepB hE hb3
  have hz3:=hg3.size
  obtain ⟨_,_,_,l3⟩:=u0a (q:=w.heap.size) hg3 l2 tSZ
  obtain ⟨_,_,_,f1,f2⟩:=hp3.c
  have c1:=hp3.c.2.1
  have hpS:=hp3.step hE (j:=i+1) (by omega)
  have HPS:=hid (show Rp E (w3.setCell ⟨E.b,1,none⟩ (.int .i64 ((i:Int)+1))) (i+1) false by simpa using hpS)
  have lE:=hp3.lt
  clear hpS
  go_wp2_with fail
  refine (rneed hE _ (i+1) false HPS.out [40]).mono ?_
  rintro e x1 ⟨gg1,d1,k1,v1,u1,hR,pp1,rfl,rfl⟩
  have S1:=hid hR
  clear hR
  have zz1:=gg1.size
  (try simp only [u0e,u0h,u0m] at zz1)
  obtain ⟨_,_,_,y1⟩:=u0a (q:=w.heap.size) gg1 (u5n tSZ l3) tSZ
  go_wp2_with fail
  refine (HL.out k1 d1 (fun h=>by have:=rS_adv pp1.hi S1.out h; omega) 1 _ (by decide) (by decide) pp1).mono ?_
  rintro e x2 ⟨gg2,d2,k2,v2,a2,hR,pp2,rfl,⟨ak,ao,an,ax,aA,am,ac,rfl,ha2⟩⟩
  have S2:=hid hR
  clear hR
  have zz2:=gg2.size
  obtain ⟨_,_,_,y2⟩:=u0a (q:=w.heap.size) gg2 y1 tSZ
  go_wp2_with fail
  refine (rneed hE _ k2 d2 (pp2.keep hE tBEL) [44]).mono ?_
  rintro e x3 ⟨gg3,d3,k3,v3,u3,hR,pp3,rfl,rfl⟩
  have S3:=hid hR
  clear hR
  have zz3:=gg3.size
  (try simp only [u0e,u0h,u0m] at zz3)
  obtain ⟨_,_,_,y3⟩:=u0a (q:=w.heap.size) gg3 tLOC tSZ
  obtain ⟨_,_,_,t3⟩:=u0a (q:=x2.heap.size) gg3 tLOC tSZ
  go_wp2_with fail
  refine (HL.out k3 d3 (fun h=>by
   have e1:=mk_adv pp3.hi (fun l a r h=>lenS h) S3.out h
   have e2:d2=false:=by
    cases d2
    ·rfl
    ·have h3:=S3.out; rw [u8g] at h3; subst h; cases h3
   have e3:=at0_ex pp2.hi S2.out e2
   have e4:d1=false:=by
    cases d1
    ·rfl
    ·have h3:=S2.out; rw [u8g] at h3; subst e2; cases h3
   have e5:=rS_adv pp1.hi S1.out e4
   omega) 1 _ (by decide) (by decide) pp3).mono ?_
  rintro e x4 ⟨gg4,d4,k4,v4,a4,hR,pp4,rfl,⟨bk,bo,bn,bx,bA,bm,bc,rfl,ha4⟩⟩
  have S4:=hid hR
  clear hR
  have zz4:=gg4.size
  obtain ⟨_,_,_,y4⟩:=u0a (q:=w.heap.size) gg4 y3 tSZ
  obtain ⟨_,_,_,t4⟩:=u0a (q:=x2.heap.size) gg4 t3 tSZ
  go_wp2_with fail
  refine (rneed hE _ k4 d4 (pp4.keep hE tBEL) [41]).mono ?_
  rintro e x5 ⟨gg5,d5,k5,v5,u5,hR,pp5,rfl,rfl⟩
  have S5:=hid hR
  clear hR
  have zz5:=gg5.size
  (try simp only [u0e,u0h,u0m] at zz5)
  obtain ⟨_,_,_,y5⟩:=u0a (q:=w.heap.size) gg5 tLOC tSZ
  obtain ⟨_,_,_,t5⟩:=u0a (q:=x2.heap.size) gg5 tLOC tSZ
  obtain ⟨_,_,_,s5⟩:=u0a (q:=x4.heap.size) gg5 tLOC tSZ
  go_wp2
  refine u3c rfl rfl rfl tRES ?_
  refine ⟨tGB,d5,k5,_,.mk 4 18 0 [] [a2,a4],?_,pp5.keep hE tBEL,rfl,u8p (name:=[]) (sl_two (nb:=x5.heap.size) _ _ _ _ _ _ _ _ _ _ _ _ _ _ tLOC tSZ (u1s ha2 tKP tSZ tSZ) (u1s ha4 tKP tSZ tSZ))⟩
  rw [u0l,HR0.out,← u0l (E:=E) (f:=pairR 18)]
  simp only [pairR_eq]
  rw [u1y S1.out,u1i S2.out,u1i S3.out,u1i S4.out,u1i S5.out]
  exact u3j fun _=>Ex.mk 4 18 0 [] [a2,a4]
theorem rprim_max {E:Rv} (hE:E.Ok) (w:World) (i:Nat) (hL:∀ j,i<j→RxC E j false) (hp0:Rp E w i false) (t:Tok) (ht:nxt E i false=t) (hk1:(t.kind == 1)=false) (hk0:(t.kind == 0)=false∨((t.kind == 0)=true∧t.text=[])) (hm:hitB E i false [109,97,120]=true) :
  Calls Tryz.prog 147 #[.pointer (some ⟨E.b,0,none⟩)] w (Ro E w (at0 E i false (PE .prim)) (RxV w.heap.size)):=by
 have hsz:=hp0.sz
 have hlt:=hE.lt
 have hi:=hp0.hi
 have hlen:=hE.len
 have HL:=hid (rx_any hE hL)
 have HT:=hid ht
 obtain ⟨_,hh,hil⟩:=u2n hm
 have hmx:hitB E i false [109,105,110]=false:=by unfold hitB; rw [hit_one hh (by decide)]; rfl
 have HX:=hid hm
 have HM:=hid hmx
 have HR0:Hid (PE .prim (E.ks.drop i)=pairR 19 (E.ks.drop (i+1))):=hid (by obtain ⟨n,hd⟩:=u6p hi hh; rw [hd]; exact prim_max)
 clear hm hmx hh
 have hcc:(t.kind == 0)=false∨((t.kind == 0)=true∧(bs t.text).toList.isEmpty=true):=by
  rcases hk0 with h | ⟨h,hx⟩
  ·exact .inl h
  ·exact .inr ⟨h,by rw [bs_isE]; simp [hx]⟩
 obtain ⟨c0,c1,c2,_,_⟩:=(hp0.keepB hE (u0j w (.cells #[.int .i64 0,.int .i64 0,.int .i32 0,.string ⟨#[]⟩,.slice none 0 0] 34))).c
 have HP:=hid hp0
 clear hp0 ht hL hk0
 rcases hcc with hk0 | ⟨hk0,hq⟩
 all_goals
  go_enter Tryz.func147,Tryz.ntmps147
  go_wp2_with fail
  refine (rnext hE _ i false (HP.out.keep hE tBEL) t HT.out).mono ?_
  rintro e w1 ⟨rfl,hb1⟩
  have hg1:=u0d hb1 (some E.b)
  have hp1:=((HP.out.keep hE (show Below E.base w (w.alloc (.cells #[.int .i64 0,.int .i64 0,.int .i32 0,.string ⟨#[]⟩,.slice none 0 0] 34)) from tBEL)).keepB hE hb1).keepB hE (u0j w1 (.cells #[.int .i64 t.kind,.int .i64 t.pos,.string (bs t.text),.int .i32 t.num] 67))
  have hz1:=hg1.size
  (try simp only [u0e,u0h,u0m] at hz1)
  obtain ⟨_,_,_,l1'⟩:=u0a (q:=w.heap.size) hg1 tLOC tSZ
  have l1:=u0g (o:=.cells #[.int .i64 t.kind,.int .i64 t.pos,.string (bs t.text),.int .i32 t.num] 67) tSZ l1'
  go_wp2_with fail
  refine (ris hE _ i false hp1 [109,105,110] _ HM.out).mono ?_
  rintro e w2 ⟨rfl,hb2⟩
  have hg2:=u0d hb2 (some E.b)
  have hp2:=hp1.keepB hE hb2
  have hz2:=hg2.size
  obtain ⟨_,_,_,l2⟩:=u0a (q:=w.heap.size) hg2 l1 tSZ
  go_wp2_with fail
  refine (ris hE _ i false hp2 [109,97,120] _ HX.out).mono ?_
  rintro e w3 ⟨rfl,hb3⟩
  have hg3:=u0d hb3 (some E.b)
  have hp3:=hp2.keepB hE hb3
  have hz3:=hg3.size
  obtain ⟨_,_,_,l3⟩:=u0a (q:=w.heap.size) hg3 l2 tSZ
  go_wp2_with fail
  refine (ris hE _ i false hp3 [109,97,120] _ HX.out).mono ?_
  rintro e w4 ⟨rfl,hb4⟩
  have hg4:=u0d hb4 (some E.b)
  have hp4:=hp3.keepB hE hb4
  have hz4:=hg4.size
  obtain ⟨_,_,_,l4⟩:=u0a (q:=w.heap.size) hg4 l3 tSZ
  obtain ⟨_,_,_,f1,f2⟩:=hp4.c
  have c1:=hp4.c.2.1
  have hpS:=hp4.step hE (j:=i+1) (by omega)
  have HPS:=hid (show Rp E (w4.setCell ⟨E.b,1,none⟩ (.int .i64 ((i:Int)+1))) (i+1) false by simpa using hpS)
  have lE:=hp4.lt
  clear hpS
  go_wp2_with fail
  refine (rneed hE _ (i+1) false HPS.out [40]).mono ?_
  rintro e x1 ⟨gg1,d1,k1,v1,u1,hR,pp1,rfl,rfl⟩
  have S1:=hid hR
  clear hR
  have zz1:=gg1.size
  (try simp only [u0e,u0h,u0m] at zz1)
  obtain ⟨_,_,_,y1⟩:=u0a (q:=w.heap.size) gg1 (u5n tSZ l4) tSZ
  go_wp2_with fail
  refine (HL.out k1 d1 (fun h=>by have:=rS_adv pp1.hi S1.out h; omega) 1 _ (by decide) (by decide) pp1).mono ?_
  rintro e x2 ⟨gg2,d2,k2,v2,a2,hR,pp2,rfl,⟨ak,ao,an,ax,aA,am,ac,rfl,ha2⟩⟩
  have S2:=hid hR
  clear hR
  have zz2:=gg2.size
  obtain ⟨_,_,_,y2⟩:=u0a (q:=w.heap.size) gg2 y1 tSZ
  go_wp2_with fail
  refine (rneed hE _ k2 d2 (pp2.keep hE tBEL) [44]).mono ?_
  rintro e x3 ⟨gg3,d3,k3,v3,u3,hR,pp3,rfl,rfl⟩
  have S3:=hid hR
  clear hR
  have zz3:=gg3.size
  (try simp only [u0e,u0h,u0m] at zz3)
  obtain ⟨_,_,_,y3⟩:=u0a (q:=w.heap.size) gg3 tLOC tSZ
  obtain ⟨_,_,_,t3⟩:=u0a (q:=x2.heap.size) gg3 tLOC tSZ
  go_wp2_with fail
  refine (HL.out k3 d3 (fun h=>by
   have e1:=mk_adv pp3.hi (fun l a r h=>lenS h) S3.out h
   have e2:d2=false:=by
    cases d2
    ·rfl
    ·have h3:=S3.out; rw [u8g] at h3; subst h; cases h3
   have e3:=at0_ex pp2.hi S2.out e2
   have e4:d1=false:=by
    cases d1
    ·rfl
    ·have h3:=S2.out; rw [u8g] at h3; subst e2; cases h3
   have e5:=rS_adv pp1.hi S1.out e4
   omega) 1 _ (by decide) (by decide) pp3).mono ?_
  rintro e x4 ⟨gg4,d4,k4,v4,a4,hR,pp4,rfl,⟨bk,bo,bn,bx,bA,bm,bc,rfl,ha4⟩⟩
  have S4:=hid hR
  clear hR
  have zz4:=gg4.size
  obtain ⟨_,_,_,y4⟩:=u0a (q:=w.heap.size) gg4 y3 tSZ
  obtain ⟨_,_,_,t4⟩:=u0a (q:=x2.heap.size) gg4 t3 tSZ
  go_wp2_with fail
  refine (rneed hE _ k4 d4 (pp4.keep hE tBEL) [41]).mono ?_
  rintro e x5 ⟨gg5,d5,k5,v5,u5,hR,pp5,rfl,rfl⟩
  have S5:=hid hR
  clear hR
  have zz5:=gg5.size
  (try simp only [u0e,u0h,u0m] at zz5)
  obtain ⟨_,_,_,y5⟩:=u0a (q:=w.heap.size) gg5 tLOC tSZ
  obtain ⟨_,_,_,t5⟩:=u0a (q:=x2.heap.size) gg5 tLOC tSZ
  obtain ⟨_,_,_,s5⟩:=u0a (q:=x4.heap.size) gg5 tLOC tSZ
  go_wp2
  refine u3c rfl rfl rfl tRES ?_
  refine ⟨tGB,d5,k5,_,.mk 4 19 0 [] [a2,a4],?_,pp5.keep hE tBEL,rfl,u8p (name:=[]) (sl_two (nb:=x5.heap.size) _ _ _ _ _ _ _ _ _ _ _ _ _ _ tLOC tSZ (u1s ha2 tKP tSZ tSZ) (u1s ha4 tKP tSZ tSZ))⟩
  rw [u0l,HR0.out,← u0l (E:=E) (f:=pairR 19)]
  simp only [pairR_eq]
  rw [u1y S1.out,u1i S2.out,u1i S3.out,u1i S4.out,u1i S5.out]
  exact u3j fun _=>Ex.mk 4 19 0 [] [a2,a4]
end Go.Proofs.YtbkhnilbgocpnaaGreatDoor.SynC
