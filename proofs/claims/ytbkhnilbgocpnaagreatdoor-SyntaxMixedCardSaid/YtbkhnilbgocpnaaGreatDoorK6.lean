import Derived.Test.YtbkhnilbgocpnaaGreatDoorK0
import Derived.Test.YtbkhnilbgocpnaaGreatDoorK5
set_option linter.unusedVariables false
set_option linter.unusedSimpArgs false
set_option maxRecDepth 100000
set_option maxHeartbeats 2000000
open Go.Lib (hid)
namespace Go.Proofs.YtbkhnilbgocpnaaGreatDoor.SynC
open Go.Proofs.YtbkhnilbgocpnaaGreatDoor.LexC
open Go Go.ChangeShapes Go.WideShapes Go.ChangeAt Go.RowKit Go.Deep
theorem look_spec {s:List UInt8} {o:Inf} (h:look s=some o) (n:Int) :
  o.s=s∧s∈asked∧∃ m:Nat,o.lv=m∧1≤m∧m≤10∧opOf m (2,s,n)=some o.op∧o.turned=(s == [62] || s == [62,61]):=by
 have hm:=List.mem_of_find?_eq_some h
 have hs:o.s=s:=by have:=List.find?_some h; simpa using this
 have key:∀ o∈infL,o.s∈asked∧o.lv=(o.lv.toNat:Int)∧1≤o.lv.toNat∧o.lv.toNat≤10∧(lev o.lv.toNat).lookup o.s=some o.op∧o.turned=(o.s == [62] || o.s == [62,61]):=by decide
 obtain ⟨h1,h2,h3,h4,h5,h6⟩:=key o hm
 subst hs
 exact ⟨rfl,h1,o.lv.toNat,h2,h3,h4,by unfold opOf; exact h5,h6⟩
theorem look_none {s:List UInt8} (h:look s=none) (k:Nat) (kd n:Int):opOf k (kd,s,n)=none:=by
 have key:∀ k,k<12→∀ x∈lev k,∃ o∈infL,o.s=x.1:=by
  repeat (first | exact u3l | refine u3m ?_ (by decide))
 have hl:∃ k',k' < 12∧lev k=lev k':=by
  by_cases hk:k<12
  ·exact ⟨k,hk,rfl⟩
  ·refine ⟨10,by omega,?_⟩
   match k,hk with
   | k+12,_=>rfl
 obtain ⟨k',hk',e⟩:=hl
 unfold opOf
 split
 ·rw [e]
  refine u5n _ fun x hx=>?_
  obtain ⟨o,ho,hs⟩:=key k' hk' x hx
  intro e2
  have:=List.find?_eq_none.1 h o ho
  simp [hs,e2] at this
 ·rfl
theorem look_kind {E:Env} (hE:E.Ok) {t:Tok} (ht:t∈E.L) {o:Inf} (h:look t.text=some o):t.kind=2:=by
 obtain ⟨_,_,hw,_⟩:=hE.wf t ht
 by_cases hk:t.kind=2
 ·exact hk
 ·exact absurd rfl (hw hk _ (look_spec h 0).2.1)
def Kq (h q:Nat) (u w:World):Prop:=u6u (fun g=>h≤g∧g≠q) u w
theorem kq_refl (h q:Nat) (w:World):Kq h q w w:=fun _ _ _ hu=>hu
theorem kq_alloc {h q:Nat} {u w:World} (k:Kq h q u w) (o:Obj):Kq h q u (w.alloc o):=fun p x hp hx=>past (k p x hp hx) o
theorem kq_set {h q:Nat} {u w:World} {p:Addr} (k:Kq h q u w) (hp:p.block<h∨p.block=q) (x:Value):Kq h q u (w.setCell p x):=fun y z hq hz=>by
 have e:(w.setCell p x).heap[y.block]? = w.heap[y.block]?:=Below.heap_setCell _ _ _ _ (by have h1:h≤y.block:=hq.1; have h2:y.block≠q:=hq.2; omega)
 exact (World.cell?_of_block e).trans (k y z hq hz)
theorem kq_call {h q:Nat} {u w w':World} {b:Nat} (k:Kq h q u w) (hg:w.grownBy w' (some b)) (hb:b<h):Kq h q u w':=fun y z hq hz =>
 hg.cell (k y z hq hz) (by have h1:h≤y.block:=hq.1; simp; omega)
def nextOf (E:Env) (w:World):Nat:=match w.cell? ⟨E.b,1,none⟩ with | some v=>(intOf v).toNat | none=>0
theorem Ps.nextOf {E:Env} {w:World} {i:Nat} (h:Ps E w i):nextOf E w=i:=by unfold SynC.nextOf; rw [h.c1]; simp [intOf]
theorem rq_keep {h h' q:Nat} {w w':World} {cs:List Value} {a:Ex} (ha:RE w (fun g=>(h≤g∧g≠q)∧g<w.heap.size) cs a) (k:Kq h q w w') (hh:h'≤h) (hz:w.heap.size≤w'.heap.size) :
  RE w' (fun g=>h'≤g∧g<w'.heap.size) cs a :=
 RE.keeps (fun p u hp hu=>k p u hp.1 hu) (fun _ hb=>⟨Nat.le_trans hh hb.1.1,Nat.lt_of_lt_of_le hb.2 hz⟩) a cs ha
theorem rq_same {h q:Nat} {w w':World} {cs:List Value} {a:Ex} (ha:RE w (fun g=>(h≤g∧g≠q)∧g<w.heap.size) cs a) (k:Kq h q w w') (hz:w.heap.size≤w'.heap.size) :
  RE w' (fun g=>(h≤g∧g≠q)∧g<w'.heap.size) cs a :=
 RE.keeps (fun p u hp hu=>k p u hp.1 hu) (fun _ hb=>⟨hb.1,Nat.lt_of_lt_of_le hb.2 hz⟩) a cs ha
theorem rq_new {h h' q:Nat} {w w':World} {cs:List Value} {a:Ex} (ha:RE w (fun g=>h'≤g∧g<w.heap.size) cs a) (k:Kq h q w w') (hh:h≤h') (hq:q<h') (hz:w.heap.size≤w'.heap.size) :
  RE w' (fun g=>(h≤g∧g≠q)∧g<w'.heap.size) cs a :=
 RE.keeps (fun p u hp hu=>k p u ⟨Nat.le_trans hh hp.1,by have:=hp.1; omega⟩ hu) (fun _ hb=>⟨⟨Nat.le_trans hh hb.1,by have:=hb.1; omega⟩,Nat.lt_of_lt_of_le hb.2 hz⟩) a cs ha
theorem rq_mk {h q:Nat} {w:World} {kind op num:Int} {name:List UInt8} {kids:List Ex} {A:Option Addr} {m c:Nat} (hk:SlE w (fun g=>(h≤g∧g≠q)∧g<w.heap.size) (.slice A m c) kids) :
  RE w (fun g=>(h≤g∧g≠q)∧g<w.heap.size) [.int .i64 kind,.int .i64 op,.int .i32 num,.string (bs name),.slice A m c] (.mk kind op num name kids):=by
 rw [RE_eq]; exact ⟨_,rfl,hk⟩
theorem slq_two {P:Nat→Prop} {w:World} {nb:Nat} {fr:Nat × Nat} (ak ao an:Int) (ax:List UInt8) (aA:Option Addr) (am ac:Nat) (bk bo bn:Int) (bx:List UInt8) (bA:Option Addr) (bm bc:Nat) {a b:Ex} (hq:w.heap[nb]? = some (.cells #[.int .i64 ak,.int .i64 ao,.int .i32 an,.string (bs ax),.slice aA am ac,.int .i64 bk,.int .i64 bo,.int .i32 bn,.string (bs bx),.slice bA bm bc] 34 fr)) (hn:P nb) (ha:RE w P [.int .i64 ak,.int .i64 ao,.int .i32 an,.string (bs ax),.slice aA am ac] a)
  (hb:RE w P [.int .i64 bk,.int .i64 bo,.int .i32 bn,.string (bs bx),.slice bA bm bc] b):SlE w P (.slice (some ⟨nb,0,none⟩) 2 2) [a,b]:=by
 refine .inr ⟨_,_,rfl,fun _=>hn,?_⟩
 rw [REs,REs,REs]
 have five:∀ {j:Nat} {u:Value} {v0 v1 v2 v3 v4:Value},[v0,v1,v2,v3,v4][j]? = some u→j=0∨j=1∨j=2∨j=3∨j=4:=by
  intro j u v0 v1 v2 v3 v4 h
  have:=(List.getElem?_eq_some_iff.1 h).1
  simp at this; omega
 have e:(⟨nb,0,none⟩:Addr).add 5=⟨nb,5,none⟩:=by unfold Addr.add; split <;> simp_all
 refine ⟨⟨_,at_row hq 0 _ (fun j u hu=>?_),ha⟩,⟨_,?_,hb⟩,trivial⟩
 ·rcases five hu with rfl | rfl | rfl | rfl | rfl <;> simpa using hu
 ·rw [e]
  refine at_row hq 5 _ (fun j u hu=>?_)
  rcases five hu with rfl | rfl | rfl | rfl | rfl <;> simpa using hu
theorem want_hit {E:Env} (hE:E.Ok) (w:World) (i:Nat) (h:Ps E w i) (s:List UInt8) (hs:s∈asked) (hh:hit s (E.ks.drop i)=true) :
  Calls Tryz.prog 122 #[.pointer (some ⟨E.b,0,none⟩),.string (bs s)] w fun e w'=>w.grownBy w' (some E.b)∧Ps E w' (i+1)∧e=.returned (.tuple #[]) :=
 (u1o hE w i h s hs).mono fun e w' ⟨hg,hr⟩=>⟨hg,by
  rw [u6n hh] at hr
  rcases hr with ⟨a,j,v,hR,hp,he,hv⟩ | ⟨j,hR,_⟩
  ·have:i+1=j:=by
    have h1:=hit_lt hh
    have h2:=hp.hi
    injection hR with _ hR
    have:=congrArg List.length hR
    simp [Env.ks] at this; omega
   subst this
   exact ⟨hp,by rw [he,hv]⟩
  ·cases hR⟩
theorem noOp_look {E:Env} {j n:Nat} {t:Tok} (hj:j≤E.L.length) (ht:E.all[j]? = some t) (h:∀ k,n≤k→k<11→opOf k (key t)=none):NoOp n 11 (E.ks.drop j):=by
 rcases Env.next_ hj with ⟨_,u,hu,_,hd⟩ | ⟨_,_,hd⟩
 ·rw [hu] at ht; cases ht
  intro k h1 h2 t' r e
  rw [hd] at e; injection e with e1 _
  rw [← e1]; exact h k h1 h2
 ·intro k _ _ t' r e
  rw [hd] at e; cases e
def LevRel (E:Env) (w:World) (n i q:Nat) (wr:World):Prop:=∃ (j:Nat) (a:Ex) (ak ao an:Int) (ax:List UInt8) (aA:Option Addr) (am ac:Nat),i<j∧w.grownBy wr (some E.b)∧Ps E wr j∧PE (.ex n) (E.ks.drop i)=TL n (11 - n) a (E.ks.drop j) ∧
 wr.heap[w.heap.size]? = some (.cells #[.int .i64 0,.int .i64 0,.int .i32 0,.string ⟨#[]⟩,.slice none 0 0] 34 (0,0))∧wr.heap[q]? = some (.cells #[.int .i64 ak,.int .i64 ao,.int .i32 an,.string (bs ax),.slice aA am ac] 34 (0,0)) ∧
 RE wr (fun g=>(w.heap.size+1≤g∧g≠q)∧g<wr.heap.size) [.int .i64 ak,.int .i64 ao,.int .i32 an,.string (bs ax),.slice aA am ac] a
theorem levels_any {E:Env} (hE:E.Ok) (n:Nat) (hn1:1≤n) (hn2:n≤11) (w:World) (i:Nat) (hL:∀ j,i<j→LevC E j) (hU:UnC E i) (hp0:Ps E w i) :
  Calls Tryz.prog 91 #[.pointer (some ⟨E.b,0,none⟩),.int .i64 n] w (Fin E w (PE (.ex n) (E.ks.drop i)) (RxV w.heap.size)):=by
 have HL:=hid hL
 have HU:=hid hU
 have hsz:=hp0.sz
 have hlt:=hE.lt
 have hb10:=hE.b10
 have hlen:=hE.len
 have HP:=hid hp0
 have q2:=fld2
 have HX:=hid (ex_TL (11 - n) n (by omega) (E.ks.drop i))
 clear hL hU hp0
 go_enter Tryz.func91,Tryz.ntmps91
 go_wp2_with fail
 refine (HU.out _ (HP.out.keepB hE tBEL)).mono ?_
 rintro e w1 ⟨hg1,⟨a,j,v,hR,hp1,rfl,⟨ak,ao,an,ax,aA,am,ac,rfl,ha⟩⟩ | ⟨j,hR,hp1,rfl⟩⟩
 all_goals (have HR:=hid hR; clear hR; have hz1:=hg1.size; (try simp only [u0c,u0i,u0p] at hz1); have hl:=u0a (q:=w.heap.size) hg1 tLOC tSZ; obtain ⟨_,_,_,l4⟩:=hl)
 rotate_left 1
 ·go_wp2
  exact ⟨rfl,tGB,.inr ⟨j,by rw [HX.out,HR.out]; rfl,hp1,rfl⟩⟩
 go_wp2_with fail
 go_loopw [7] (fun _ wr=>LevRel E w n i w1.heap.size wr) (fun _ wr=>E.L.length - nextOf E wr)
 case atStart=>exact ⟨j,a,ak,ao,an,ax,aA,am,ac,adv_U hp1.hi HR.out,tGB,hp1.keepB hE tBEL,by rw [HX.out,HR.out]; rfl,tLOC,tLOC,RE.keeps (P:=fun g=>(w.alloc _).heap.size≤g∧g<w1.heap.size) (fun p u hp hu=>past hu _) (fun g hg=>⟨⟨by have:=hg.1; simpa using this,by have:=hg.2; omega⟩,by have:=hg.2; simp; omega⟩) _ _ ha⟩
 case round =>
  obtain ⟨j,a,ak,ao,an,ax,aA,am,ac,hij,hgr,hp,hTL,hq0,hq5,hre⟩:=hrel
  have HT:=hid hTL
  have HRE:=hid hre
  have hz0:=hgr.size
  have hs5:w1.heap.size<wr.heap.size:=(Array.getElem?_eq_some_iff.1 hq5).1
  clear hTL hre
  obtain ⟨t,ht⟩:=Env.at_ hp.hi
  have HTok:=hid ht
  clear ht
  go_wp2_with fail
  refine (u2t _ j (hp.keepB hE tBEL) t HTok.out).mono ?_
  rintro e w2 ⟨rfl,hg2n⟩
  have hg2:=u1q (r:=some E.b) hg2n
  have hz2:=hg2.size
  have hp2:=(hp.keepB hE tBEL).keep hE hg2n
  obtain ⟨_,_,_,l42⟩:=u0a (q:=w.heap.size) hg2 hq0 tSZ
  obtain ⟨_,_,_,l52⟩:=u0a (q:=w1.heap.size) hg2 hq5 tSZ
  cases hlk:look t.text with
  | none =>
   have HLK:=hid hlk
   clear hlk
   go_wp2_with fail
   refine (infixOf_any t.text _ hp2.g.inf).mono ?_
   rw [HLK.out]
   rintro e w3 ⟨rfl,hg3n⟩
   have hg3:=u1q (r:=some E.b) hg3n
   have hz3:=hg3.size
   obtain ⟨_,_,_,l43⟩:=u0a (q:=w.heap.size) hg3 l42 tSZ
   obtain ⟨_,_,_,l53⟩:=u0a (q:=w1.heap.size) hg3 l52 tSZ
   unfold infR
   go_wp2
   refine u5c rfl rfl rfl tRES ?_
   exact ⟨tGB,.inl ⟨a,j,_,by rw [HT.out]; exact TL_stop _ _ (by rw [show n+(11 - n)=11 by omega]; exact noOp_look hp.hi HTok.out fun k _ _=>look_none HLK.out k _ _),(hp2.keep hE hg3n).keepB hE tBEL,rfl,⟨ak,ao,an,ax,aA,am,ac,rfl,rq_keep HRE.out tKQ tSZ tSZ⟩⟩⟩
  | some o =>
   obtain ⟨s,lv,op,tu⟩:=o
   obtain ⟨hs,hsa,m,hlv,hm1,hm2,hop,htu⟩:=look_spec hlk t.num
   simp only at hs hlv hop htu
   subst hlv
   have HLK:=hid hlk
   have hkey:∀ {u:Tok},E.all[j]? = some u→u∈E.L→key t=(2,t.text,t.num):=fun {u} hu hm=>by
    have:=HTok.out; rw [hu] at this; cases this
    unfold key; rw [look_kind hE hm HLK.out]
   have HOP:=hid hop
   have HTU:=hid htu
   have HS:=hid hs
   clear hlk hop htu hs
   by_cases hlv:(m:Int)<n
   ·go_wp2_with fail
    refine (infixOf_any t.text _ hp2.g.inf).mono ?_
    rw [HLK.out]
    rintro e w3 ⟨rfl,hg3n⟩
    have hg3:=u1q (r:=some E.b) hg3n
    have hz3:=hg3.size
    obtain ⟨_,_,_,l43⟩:=u0a (q:=w.heap.size) hg3 l42 tSZ
    obtain ⟨_,_,_,l53⟩:=u0a (q:=w1.heap.size) hg3 l52 tSZ
    unfold infR
    go_wp2
    refine u5c rfl rfl rfl tRES ?_
    refine ⟨tGB,.inl ⟨a,j,_,?_,(hp2.keep hE hg3n).keepB hE tBEL,rfl,⟨ak,ao,an,ax,aA,am,ac,rfl,rq_keep HRE.out tKQ tSZ tSZ⟩⟩⟩
    rw [HT.out]
    refine TL_stop _ _ ?_
    rw [show n+(11 - n)=11 by omega]
    rcases Env.next_ hp.hi with ⟨_,u,hu,hm,_⟩ | ⟨_,hu,hd⟩
    ·refine noOp_look hp.hi HTok.out fun k h1 h2=>?_
     rw [hkey hu hm]
     cases hk:opOf k (2,t.text,t.num) with
     | none=>rfl
     | some o'=>have:=opOf_one hm1 hm2 (by omega) (by omega) HOP.out hk; omega
    ·intro k _ _ t' r e; rw [hd] at e; cases e
   ·have hjl:j<E.L.length:=by
     rcases Env.next_ hp.hi with ⟨h,_⟩ | ⟨_,hu,_⟩
     ·exact h
     ·have:=HTok.out; rw [hu] at this; cases this
      have h3:look []=some (⟨s,m,op,tu⟩:Inf):=HLK.out
      rw [show look []=none by decide] at h3; cases h3
    have hhit:hit t.text (E.ks.drop j)=true∧E.ks.drop j=(2,t.text,t.num) :: E.ks.drop (j+1):=by
     rcases Env.next_ hp.hi with ⟨_,u,hu,hm,hd⟩ | ⟨h,_⟩
     ·have e:=hkey hu hm
      have:=HTok.out; rw [hu] at this; cases this
      rw [hd,e]; simp [hit,isS]
     ·omega
    have HH:=hid hhit
    have HJ:∀ w,Ps E w (j+1)→Calls Tryz.prog 91 #[.pointer (some ⟨E.b,0,none⟩),.int .i64 ((m:Int)+1)] w (Fin E w (PE (.ex (m+1)) (E.ks.drop (j+1))) (RxV w.heap.size)):=fun w h=>by
     have:=HL.out (j+1) (by omega) (m+1) w (by omega) (by omega) h
     rwa [show (((m+1:Nat)):Int)=(m:Int)+1 by omega] at this
    have HJ:=hid HJ
    clear hhit
    have hs:=HS.out
    subst hs
    clear HS
    go_wp2_with fail
    refine (infixOf_any t.text _ hp2.g.inf).mono ?_
    rw [HLK.out]
    rintro e w3 ⟨rfl,hg3n⟩
    have hg3:=u1q (r:=some E.b) hg3n
    have hz3:=hg3.size
    have hp3:=hp2.keep hE hg3n
    obtain ⟨_,_,_,l43⟩:=u0a (q:=w.heap.size) hg3 l42 tSZ
    obtain ⟨_,_,_,l53⟩:=u0a (q:=w1.heap.size) hg3 l52 tSZ
    unfold infR
    go_wp2_with fail
    refine (want_hit hE _ j (hp3.keepB hE tBEL) t.text hsa HH.out.1).mono ?_
    rintro e w4 ⟨hg4,hp4,rfl⟩
    have hz4:=hg4.size
    (try simp only [u0c,u0i,u0p] at hz4)
    obtain ⟨_,_,_,l44⟩:=u0a (q:=w.heap.size) hg4 tLOC tSZ
    obtain ⟨_,_,_,l54⟩:=u0a (q:=w1.heap.size) hg4 tLOC tSZ
    obtain ⟨_,_,_,l64⟩:=u0a (q:=w3.heap.size) hg4 tLOC tSZ
    go_wp2_with fail
    refine (HJ.out _ (hp4.keepB hE tBEL)).mono ?_
    rintro e w5 ⟨hg5,⟨b,j5,v,hR,hp5,rfl,⟨bk,bo,bn,bx,bA,bm,bc,rfl,hb⟩⟩ | ⟨j5,hR,hp5,rfl⟩⟩
    all_goals (have HR5:=hid hR; clear hR; have hz5:=hg5.size; (try simp only [u0c,u0i,u0p] at hz5); have hl4:=u0a (q:=w.heap.size) hg5 tLOC tSZ; have hl5:=u0a (q:=w1.heap.size) hg5 tLOC tSZ; have hl6:=u0a (q:=w3.heap.size) hg5 tLOC tSZ; obtain ⟨_,_,_,l45⟩:=hl4; obtain ⟨_,_,_,l55⟩:=hl5; obtain ⟨_,_,_,l65⟩:=hl6)
    ·go_wp2_with fail
     refine (tree_any ⟨t.text,m,op,tu⟩ _ _ _ _ _ _ _ _ _ _ _ _ _ _ _).mono ?_
     rintro e w6 ⟨nb,hg6n,hnb,rfl,hnq⟩
     have hg6:=u1q (r:=some E.b) hg6n
     have hz6:=hg6.size
     (try simp only [u0c,u0i,u0p] at hz6 hnb)
     obtain ⟨_,_,_,l46⟩:=u0a (q:=w.heap.size) hg6 tLOC tSZ
     obtain ⟨_,_,_,l56⟩:=u0a (q:=w1.heap.size) hg6 tLOC tSZ
     have hnl:=(Array.getElem?_eq_some_iff.1 hnq).1
     have HNQ:=hid hnq
     clear hnq
     have hj5:=adv_E hp5.hi HR5.out
     go_wp2
     go_roundw
     case rel =>
      have hne:nb≠w1.heap.size:=by omega
      refine ⟨j5,bin op t.text a b,4,op,0,[],some ⟨nb,0,none⟩,2,2,by omega,tGB,((hp5.keepB hE tBEL).keep hE hg6n).keepB hE tBEL,?_,tLOC,put5 _ _ _ _ _ l56,?_⟩
      ·rw [HT.out,HH.out.2,TL_op hm1 hm2 HOP.out a _ (11 - n) n (by omega) hn1 (by omega),HR5.out]; rfl
      ·rw [show bin op t.text a b=if tu then .mk 4 op 0 [] [b,a] else .mk 4 op 0 [] [a,b] by rw [HTU.out]; rfl]
       have ra:=rq_same HRE.out (show Kq (w.heap.size+1) w1.heap.size wr w6 from tKQ) tSZ
       have rb:=rq_new (h:=w.heap.size+1) (q:=w1.heap.size) hb (show Kq (w.heap.size+1) w1.heap.size w5 w6 from tKQ) tSZ tSZ tSZ
       refine RE.keeps (w:=w6) (P:=fun g=>(w.heap.size+1≤g∧g≠w1.heap.size)∧g<w6.heap.size) (fun p u hp hu=>(show Kq (w.heap.size+1) w1.heap.size w6 _ from tKQ) p u hp.1 hu) (fun g hg=>⟨hg.1,by simp only [u0i]; exact hg.2⟩) _ _ ?_
       have hq:=HNQ.out
       cases tu
       ·exact rq_mk (name:=[]) (slq_two (nb:=nb) _ _ _ _ _ _ _ _ _ _ _ _ _ _ (by simpa using hq) ⟨⟨by omega,hne⟩,hnl⟩ ra rb)
       ·exact rq_mk (name:=[]) (slq_two (nb:=nb) _ _ _ _ _ _ _ _ _ _ _ _ _ _ (by simpa using hq) ⟨⟨by omega,hne⟩,hnl⟩ rb ra)
     case measure =>
      have hPs:=((hp5.keepB hE (show Below E.base w5 (w5.alloc _) from tBEL)).keep hE hg6n)
      rw [hp.nextOf,(hPs.keepB hE tBEL).nextOf]
      have:=hp5.hi
      omega
    ·go_wp2
     exact ⟨rfl,tGB,.inr ⟨j5,by rw [HT.out,HH.out.2,TL_op hm1 hm2 HOP.out a _ (11 - n) n (by omega) hn1 (by omega),HR5.out]; rfl,hp5,rfl⟩⟩
section
variable {α:Type}
abbrev Rd (α:Type):=(Nat→Prop)→World→List Value→α→Prop
def Rd.Ok (rd:Rd α):Prop:=∀ (P Q:Nat→Prop) (w w':World) (r:List Value) (a:α),u6u P w w'→(∀ b,P b→Q b)→rd P w r a→rd Q w' r a
def RG (rd:Rd α) (sz:Nat) (P:Nat→Prop) (w:World) (x:Addr):List α→Prop
 | []=>True
 | a :: r=>(∃ cs,At w x cs∧rd P w cs a)∧RG rd sz P w (x.add sz) r
def OwnL (rd:Rd α) (T sz:Nat) (w:World) (base:Nat) (v:Value) (L:List α):Prop :=
 ∃ rows:List (List Value),rows.length=L.length∧(∀ (j:Nat) r a,rows[j]? = some r→L[j]? = some a→r.length=sz∧rd (fun g=>(base≤g∧v.ownBlock≠some g)∧g<w.heap.size) w r a) ∧
  w.ownsRow base T sz v L.length rows.flatten
variable {rd:Rd α} {T sz:Nat}
theorem OwnL.nil (w:World) (base:Nat):OwnL rd T sz w base (.slice none 0 0) ([]:List α):=⟨[],rfl,fun j r a h=>by simp at h,by simp [World.ownsRow]⟩
theorem OwnL.keep (ok:rd.Ok) {w w':World} {base b:Nat} {v:Value} {L:List α} (h:OwnL rd T sz w base v L) (hg:w.grownBy w' (some b)) (hb:b<base):OwnL rd T sz w' base v L:=by
 obtain ⟨rows,h1,h2,h3⟩:=h
 refine ⟨rows,h1,fun j r a hr ha=>⟨(h2 j r a hr ha).1,ok _ _ w w' r a (fun p u hp hu=>hg.cell hu (by have:=hp.1.1; simp; omega)) (fun g hg'=>⟨hg'.1,Nat.lt_of_lt_of_le hg'.2 hg.size⟩) (h2 j r a hr ha).2⟩,h3.kept hg ?_⟩
 cases hv:v.ownBlock with
 | none=>exact .inl rfl
 | some g =>
  have:=(World.ownsRow.lt h3 g hv).1
  exact .inr (by simp; omega)
theorem OwnL.alloc (ok:rd.Ok) {w:World} {base:Nat} {v:Value} {L:List α} (h:OwnL rd T sz w base v L) (hb:0<base) (o:Obj):OwnL rd T sz (w.alloc o) base v L :=
 h.keep ok (b:=0) (World.grownBy_alloc w o _) hb
theorem OwnL.lt {w:World} {base:Nat} {v:Value} {L:List α} (h:OwnL rd T sz w base v L):∀ g,v.ownBlock=some g→base≤g∧g<w.heap.size:=by
 obtain ⟨rows,_,_,h3⟩:=h
 exact World.ownsRow.lt h3
set_option maxRecDepth 100000 in
theorem u2o (ok:rd.Ok) {ops:Array Oper} {rest:List Oper} {o:Oper} {a:Act} {w:World} {Q:Exit→Act→World→Prop} (hgd:o.guard=none) (s x:Operand) (t:TypeId)
  (ho:o.op=.call { callee:=.builtin .append,args:=#[s,x],argTypes:=#[t,t] }) (z:Value) (bytes:Nat)
  (info:(Tryz.prog.info? T).map (fun i=>(i.zero,i.size,i.bytes))=some (some z,sz,bytes)) (ht:Tryz.prog.underlying t=some (.slice T)) (hzs:z.cells.size=sz) (hsz:0<sz) (hby:bytes≤1000)
  (base:Nat) (v:Value) (L:List α) (hs:a.eval s=v) (hown:OwnL rd T sz w base v L) (g:Nat) (hx:a.eval x=.slice (some ⟨g,0,none⟩) 1 1) (cs:Array Value) (fr:Nat × Nat) (hq:w.heap[g]? = some (.cells cs T fr)) (hcs:cs.size=sz)
  (h1:∀ u∈cs.toList,u.oneCell'=true) (e:α) (h:Nat) (he:rd (fun g=>h≤g∧g<w.heap.size) w cs.toList e) (hbh:base≤h) (hvh:∀ g,v.ownBlock=some g→g<h) (hl:L.length≤1000000) (hbase:base≤w.heap.size)
  (hK:∀ v' w',OwnL rd T sz w' base v' (L++[e])→w.grownBy w' v.ownBlock→(v'.ownBlock=v.ownBlock∨v'.ownBlock=some w.heap.size)→wpList Tryz.prog ops Q rest (a.put o.dst v') w'):wpList Tryz.prog ops Q (o :: rest) a w:=by
 obtain ⟨rows,r1,r2,r3⟩:=hown
 obtain ⟨i,hi,hz,hs1,hb⟩:=info_parts info
 refine wpList_append_own_at _ hgd s x t ho base T i z sz bytes ht hi hz hs1 hb hzs hsz v L.length rows.flatten hs r3 ⟨g,0,none⟩ 1 1 cs.toList hx (by simp [hcs]) ?_ h1 (by unfold maxLen; omega) (by
  calc (L.length+1) * bytes≤1000001 * 1000:=Nat.mul_le_mul (by omega) hby
   _≤140737488355328:=by decide) hbase ?_
 ·intro j u hu
  exact (at_row hq 0 cs.toList (fun j u hu=>by simpa using hu)) j u hu
 ·intro v' w' k1 k2 _ k4
  refine hK v' w' ⟨rows++[cs.toList],by simp [r1],fun j r b hr hb'=>?_,by simpa using k1⟩ k2 k4
  have own':∀ g,g<w.heap.size→v.ownBlock≠some g→v'.ownBlock≠some g:=by
   intro g hg1 hg2 e
   rcases k4 with k | k
   ·exact hg2 (k.symm.trans e)
   ·rw [k] at e; injection e with e; omega
  have kp:u6u (fun g=>(base≤g∧v.ownBlock≠some g)∧g<w.heap.size) w w':=fun p u hp hu=>k2.cell hu (fun e=>hp.1.2 e.symm)
  by_cases hj:j<L.length
  ·rw [List.getElem?_append_left (by omega)] at hr hb'
   obtain ⟨m1,m2⟩:=r2 j r b hr hb'
   exact ⟨m1,ok _ _ w w' r b kp (fun g hg=>⟨⟨hg.1.1,own' g hg.2 hg.1.2⟩,Nat.lt_of_lt_of_le hg.2 k2.size⟩) m2⟩
  ·have hj2:=(List.getElem?_eq_some_iff.1 hb').1
   simp at hj2
   have e1:j=L.length:=by omega
   subst e1
   rw [List.getElem?_append_right (by omega)] at hr hb'
   simp [r1] at hr hb'
   subst hr; subst hb'
   refine ⟨by simp [hcs],ok _ _ w w' _ _ (fun p u hp hu=>kp p u ⟨⟨Nat.le_trans hbh hp.1,fun e=>by have:=hvh _ e; have:=hp.1; omega⟩,hp.2⟩ hu) (fun g hg=>⟨⟨Nat.le_trans hbh hg.1,own' g hg.2 (fun e=>by have:=hvh _ e; have:=hg.1; omega)⟩,Nat.lt_of_lt_of_le hg.2 k2.size⟩) he⟩
theorem rg_of (ok:rd.Ok) {w:World} {P Q:Nat→Prop} (hPQ:∀ b,P b→Q b):∀ (L:List α) (rows:List (List Value)) (x:Addr),rows.length=L.length →
  (∀ (j:Nat) r a,rows[j]? = some r→L[j]? = some a→r.length=sz∧rd P w r a)→(∀ j u,rows.flatten[j]? = some u→w.cell? (x.add j)=some u)→RG rd sz Q w x L
 | [],_,_,_,_,_=>trivial
 | a :: L,[],_,h,_,_=>by simp at h
 | a :: L,r :: rows,x,h,h2,hc=>by
  have h0:=h2 0 r a (by simp) (by simp)
  refine ⟨⟨r,fun j u hu=>hc j u (by
   rw [List.flatten_cons,List.getElem?_append_left (List.getElem?_eq_some_iff.1 hu).1]; exact hu),ok _ _ w w r a (fun _ _ _ hu=>hu) hPQ h0.2⟩,?_⟩
  refine rg_of ok hPQ L rows _ (by simpa using h) (fun j r' a' hr ha=>h2 (j+1) r' a' (by simpa using hr) (by simpa using ha)) (fun j u hu=>?_)
  rw [add_add]
  refine hc _ u ?_
  rw [List.flatten_cons,List.getElem?_append_right (by omega)]
  rw [h0.1,show sz+j - sz=j by omega]; exact hu
theorem OwnL.rows (ok:rd.Ok) {w:World} {base:Nat} {v:Value} {L:List α} (h:OwnL rd T sz w base v L) :
  (v=.slice none 0 0∧L=[])∨∃ x c,v=.slice (some x) L.length c∧(base≤x.block∧x.block<w.heap.size)∧RG rd sz (fun g=>base≤g∧g<w.heap.size) w x L:=by
 obtain ⟨rows,h1,h2,h3⟩:=h
 rcases h3.2 with ⟨hv,hn⟩ | ⟨g,cap,cur,hv,hb,hgg,_⟩
 ·exact .inl ⟨hv,List.eq_nil_of_length_eq_zero hn⟩
 ·refine .inr ⟨⟨g,0,none⟩,cap,hv,⟨hb,(Array.getElem?_eq_some_iff.1 hgg).1⟩,rg_of ok (fun b hb=>⟨hb.1.1,hb.2⟩) L rows _ h1 h2 (World.ownsRow.cells h3 (by rw [hv]; rfl))⟩
end
def rdE:Rd Ex:=fun P w r a=>RE w P r a
theorem rdE_ok:rdE.Ok:=fun _ _ _ _ r a k h hr=>RE.keeps k h a r hr
theorem rg_REs {P:Nat→Prop} {w:World}:∀ (L:List Ex) (x:Addr),RG rdE 5 P w x L→REs w P x L
 | [],_,_=>by rw [REs]; trivial
 | a :: L,x,h=>by rw [REs]; exact ⟨h.1,rg_REs L _ h.2⟩
theorem OwnL.slE {w:World} {base:Nat} {v:Value} {L:List Ex} (h:OwnL rdE 34 5 w base v L):SlE w (fun g=>base≤g∧g<w.heap.size) v L:=by
 rcases h.rows rdE_ok with h | ⟨x,c,hv,hx,hr⟩
 ·exact .inl h
 ·exact .inr ⟨x,c,hv,fun _=>hx,rg_REs L x hr⟩
def rdS:Rd St:=fun P w r a=>RS w P r a
theorem rdS_ok:rdS.Ok:=fun _ _ _ _ r a k h hr=>RS.keeps k h a r hr
theorem rg_RSs {P:Nat→Prop} {w:World}:∀ (L:List St) (x:Addr),RG rdS 6 P w x L→RSs w P x L
 | [],_,_=>by rw [RSs]; trivial
 | a :: L,x,h=>by rw [RSs]; exact ⟨h.1,rg_RSs L _ h.2⟩
theorem OwnL.slS {w:World} {base:Nat} {v:Value} {L:List St} (h:OwnL rdS 136 6 w base v L):SlS w (fun g=>base≤g∧g<w.heap.size) v L:=by
 rcases h.rows rdS_ok with h | ⟨x,c,hv,hx,hr⟩
 ·exact .inl h
 ·exact .inr ⟨x,c,hv,fun _=>hx,rg_RSs L x hr⟩
def listR (x:List UInt8) (l:List K):Res Ex:=(u3j [40] l).bind fun _ r=>if hit [41] r then .ok (.mk 6 0 0 x []) (r.drop 1) else itemR x [] r
def SlV (x:List UInt8) (h:Nat) (w:World) (v:Value) (a:Ex):Prop:=∃ A m c kids,v=.slice A m c∧a=.mk 6 0 0 x kids∧SlE w (fun g=>h≤g∧g<w.heap.size) (.slice A m c) kids
theorem info34:(Tryz.prog.info? 34).map (fun i=>(i.zero,i.size,i.bytes))=some (some (.agg #[.int .i64 0,.int .i64 0,.int .i32 0,.string ⟨#[]⟩,.slice none 0 0]),5,64):=by kernel_rfl
theorem SlE.form {w:World} {P:Nat→Prop} {v:Value} {l:List Ex} (h:SlE w P v l):∃ A m c,v=.slice A m c:=by
 rcases h with ⟨h,_⟩ | ⟨x,c,h,_⟩
 ·exact ⟨_,_,_,h⟩
 ·exact ⟨_,_,_,h⟩
theorem slV_own {x:List UInt8} {h h':Nat} {w:World} {v:Value} {kids:List Ex} (hh:h'≤h) (hs:SlE w (fun g=>h≤g∧g<w.heap.size) v kids):SlV x h' w v (.mk 6 0 0 x kids):=by
 obtain ⟨A,m,c,rfl⟩:=hs.form
 exact ⟨A,m,c,kids,rfl,rfl,hs.keeps (fun _ _ _ hu=>hu) (fun b hb=>⟨Nat.le_trans hh hb.1,hb.2⟩)⟩
theorem itemR_args {E:Env} {j k:Nat} {x:List UInt8} {kids:List Ex} {a:Ex} (h:PE (.ex 1) (E.ks.drop j)=.ok a (E.ks.drop k)):itemR x kids (E.ks.drop j)=PE (.args x (kids++[a])) (E.ks.drop k):=by
 unfold itemR; rw [h]; rfl
theorem drop_one {E:Env} (i:Nat):(E.ks.drop i).drop 1=E.ks.drop (i+1):=by rw [List.drop_drop]
theorem gb_own {a W w':World} {r:Option Nat} {b:Option Nat} (h:a.grownBy W r) (k:W.grownBy w' b) (hb:∀ g,b=some g→a.heap.size≤g):a.grownBy w' r :=
 ⟨k.os.trans h.os,k.tape.trans h.tape,k.output.trans h.output,Nat.le_trans h.size k.size,fun g hg hr=>(k.block g (Nat.lt_of_lt_of_le hg h.size) (fun e=>by have:=hb g e.symm; omega)).trans (h.block g hg hr)⟩
theorem listE_any {E:Env} (hE:E.Ok) (x:List UInt8) (w:World) (i:Nat) (hL:∀ j,i<j→LevC E j) (hp0:Ps E w i) :
  Calls Tryz.prog 215 #[.pointer (some ⟨E.b,0,none⟩),.func (.func 47) #[.pointer (some ⟨E.b,0,none⟩)] #[]] w (Fin E w (listR x (E.ks.drop i)) (SlV x w.heap.size)):=by
 have HL:=hid hL
 have hsz:=hp0.sz
 have hlt:=hE.lt
 have hb10:=hE.b10
 have hlen:=hE.len
 clear hL
 go_enter Tryz.func215,Tryz.ntmps215
 go_wp2_with fail
 refine (u1o hE _ _ (hp0.keepB hE tBEL) [40] (by decide)).mono ?_
 rintro e w1 ⟨hg1,⟨u,j1,v,hR,hp1,rfl,rfl⟩ | ⟨j1,hR,hp1,rfl⟩⟩
 all_goals (have HR1:=hid hR; clear hR; have hz1:=hg1.size)
 rotate_left 1
 ·go_wp2
  exact ⟨rfl,tGB,.inr ⟨j1,by unfold listR; rw [HR1.out]; rfl,hp1,rfl⟩⟩
 have hj1:=u6h hp1.hi HR1.out
 go_wp2_with fail
 refine (u1u hE _ _ (hp1.keepB hE tBEL) [41] (by decide)).mono ?_
 rintro e w2 ⟨hg2,⟨hh,rfl,hp2⟩ | ⟨hh,rfl,hp2⟩⟩
 all_goals (have HH:=hid hh; clear hh; have hz2:=hg2.size)
 ·go_wp2
  go_ret
  exact ⟨tGB,.inl ⟨.mk 6 0 0 x [],j1+1,_,by unfold listR; rw [HR1.out]; simp only [Res.bind,HH.out,if_true,drop_one],hp2,rfl,slV_own (Nat.le_refl _) u7l⟩⟩
 go_wp2_with fail
 go_loopw [5] (fun v wr=>∃ (j:Nat) (kids:List Ex),i<j∧kids.length≤j∧w.grownBy wr (some E.b)∧Ps E wr j∧listR x (E.ks.drop i)=itemR x kids (E.ks.drop j)∧OwnL rdE 34 5 wr w.heap.size v kids) (fun _ wr=>E.L.length - nextOf E wr)
 case atStart=>exact ⟨j1,[],hj1,by simp,tGB,hp2,by unfold listR; rw [HR1.out]; simp only [Res.bind,HH.out,Bool.false_eq_true,if_false],OwnL.nil _ _⟩
 case round =>
  obtain ⟨j,kids,hij,hkl,hgr,hp,hI,hown⟩:=hrel
  have HI:=hid hI
  have HO:=hid hown
  have hz0:=hgr.size
  have hjl:=hp.hi
  clear hI hown
  go_wp2_with fail
  refine (expr_any hE _ _ (HL.out j hij) (hp.keepB hE tBEL)).mono ?_
  rintro e w3 ⟨hg3,⟨a,j3,v3,hR,hp3,rfl,⟨ak,ao,an,ax,aA,am,ac,rfl,ha⟩⟩ | ⟨j3,hR,hp3,rfl⟩⟩
  all_goals (have HR3:=hid hR; clear hR; have hz3:=hg3.size)
  rotate_left 1
  ·go_wp2
   exact ⟨rfl,tGB,.inr ⟨j3,by rw [HI.out]; unfold itemR; rw [HR3.out]; rfl,hp3,rfl⟩⟩
  have hj3:=adv_E hp3.hi HR3.out
  have HA:=hid ha
  clear ha
  go_wp2_with (refine u2o rdE_ok rfl _ _ 32 rfl _ 64 info34 Tryz.underlying32 rfl (by decide) (by decide) w.heap.size _ kids rfl (((HO.out.keep rdE_ok hg3 (by omega)).alloc rdE_ok (by omega) _).alloc rdE_ok (by omega) _) (w3.heap.size+1) rfl #[.int .i64 ak,.int .i64 ao,.int .i32 an,.string (bs ax),.slice aA am ac] (0,0) tLOC rfl (by intro u hu; simp at hu; rcases hu with rfl | rfl | rfl | rfl | rfl <;> rfl) a wr.heap.size (u3z HA.out tKP tSZ tSZ) (by omega) (fun g hg=>(HO.out.lt g hg).2) (by omega) tSZ ?_; intro v' w4 hown4 hg4 _; have HO4:=hid hown4; clear hown4)
  have hz4:=hg4.size
  (try simp only [u0c,u0i,u0p] at hz4)
  have hown0:=fun g hg=>(HO.out.lt g hg).1
  have gw4:w.grownBy w4 (some E.b):=gb_own tGB hg4 hown0
  have hp4:Ps E w4 j3:=hp3.keepB hE (Below.grown tBEL hg4 tSZ (fun k hk=>by have:=hown0 k hk; omega))
  refine (u1u hE _ _ hp4 [41] (by decide)).mono ?_
  rintro e w5 ⟨hg5,⟨hh,rfl,hp5⟩ | ⟨hh,rfl,hp5⟩⟩
  all_goals (have HH5:=hid hh; clear hh; have hz5:=hg5.size)
  ·go_wp2
   have hS:=(HO4.out.keep rdE_ok hg5 (by omega)).slE
   obtain ⟨A,m,c,hv⟩:=hS.form
   subst hv
   go_ret
   refine ⟨tGB,.inl ⟨.mk 6 0 0 x (kids++[a]),j3+1,_,?_,hp5,rfl,slV_own (Nat.le_refl _) hS⟩⟩
   rw [HI.out,itemR_args HR3.out]
   obtain ⟨n,hd⟩:=u4p HH5.out
   rw [hd]; exact args_end
  ·go_wp2_with fail
   refine (u1o hE _ _ hp5 [44] (by decide)).mono ?_
   rintro e w6 ⟨hg6,⟨u,j6,v,hR,hp6,rfl,rfl⟩ | ⟨j6,hR,hp6,rfl⟩⟩
   all_goals (have HR6:=hid hR; clear hR; have hz6:=hg6.size)
   ·have hj6:=u6h hp6.hi HR6.out
    go_wp2
    go_roundw
    case rel =>
     refine ⟨j6,kids++[a],by omega,by simp; omega,tGB,hp6,?_,(HO4.out.keep rdE_ok hg5 (by omega)).keep rdE_ok hg6 (by omega)⟩
     rw [HI.out,itemR_args HR3.out]
     have hh:hit [44] (E.ks.drop j3)=true:=by
      cases h:hit [44] (E.ks.drop j3) with
      | true=>rfl
      | false=>have:=HR6.out; rw [needS_no hp5.hi h] at this; cases this
     obtain ⟨n,hd⟩:=u4p hh
     have h6:=HR6.out
     rw [u6n hh] at h6
     injection h6 with _ h6
     rw [hd,← h6]; exact args_more
    case measure =>
     rw [hp.nextOf,hp6.nextOf]
     have:=hp6.hi
     omega
   ·go_wp2
    refine ⟨rfl,tGB,.inr ⟨j6,?_,hp6,rfl⟩⟩
    rw [HI.out,itemR_args HR3.out]
    have hh:hit [44] (E.ks.drop j3)=false:=by
     cases h:hit [44] (E.ks.drop j3) with
     | false=>rfl
     | true=>have:=HR6.out; rw [u6n h] at this; cases this
    have h6:=HR6.out
    rw [needS_no hp5.hi hh] at h6
    injection h6 with h6
    rw [← h6]; exact args_no HH5.out hh
theorem u7f {h h':Nat} {w w':World} {v:Value} {l:List Ex} (hs:SlE w (fun g=>h≤g∧g<w.heap.size) v l) (k:Kp h w w') (hh:h'≤h) (hz:w.heap.size≤w'.heap.size) :
  SlE w' (fun g=>h'≤g∧g<w'.heap.size) v l :=
 hs.keeps (fun p u hp hu=>k p u hp.1 hu) (fun _ hb=>⟨Nat.le_trans hh hb.1,Nat.lt_of_lt_of_le hb.2 hz⟩)
theorem named_any {E:Env} (hE:E.Ok) (x:List UInt8) (w:World) (i:Nat) (hL:∀ j,i<j→LevC E j) (hN:needN' (E.ks.drop i)=.ok x (E.ks.drop (i+1))) (hp0:Ps E w i) :
  Calls Tryz.prog 198 #[.pointer (some ⟨E.b,0,none⟩)] w (Fin E w (PE (.named x) (E.ks.drop (i+1))) (RxV w.heap.size)):=by
 have HL:=hid hL
 have HN:=hid hN
 have hsz:=hp0.sz
 have hlt:=hE.lt
 have hb10:=hE.b10
 clear hL hN
 go_enter Tryz.func198,Tryz.ntmps198
 go_wp2_with fail
 refine (name_any hE _ _ (hp0.keepB hE tBEL)).mono ?_
 rintro e w1 ⟨hg1,⟨y,j1,v,hR,hp1,rfl,rfl⟩ | ⟨j1,hR,hp1,rfl⟩⟩
 rotate_left 1
 ·rw [HN.out] at hR; cases hR
 rw [HN.out] at hR
 injection hR with hy hj
 have hj1:i+1=j1:=by
  have:=congrArg List.length hj
  have h2:=hp1.hi
  have h3:i<E.L.length:=by
   rcases Env.next_ hp0.hi with ⟨h,_⟩ | ⟨_,_,hd⟩
   ·exact h
   ·have:=HN.out; rw [hd] at this; cases this
  simp [Env.ks] at this; omega
 subst hj1
 subst hy
 clear hj
 have hz:=hg1.size
 (try simp only [u0c,u0i,u0p] at hz)
 obtain ⟨_,_,_,l1⟩:=u0a (q:=w.heap.size) hg1 tLOC tSZ
 go_wp2_with fail
 refine (u1u hE _ _ (hp1.keepB hE tBEL) [91] (by decide)).mono ?_
 rintro e w2 ⟨hg2,⟨hh,rfl,hp2⟩ | ⟨hh,rfl,hp2⟩⟩
 all_goals (have HH2:=hid hh; clear hh; have hz2:=hg2.size; have hl:=u0a (q:=w.heap.size) hg2 l1 tSZ; obtain ⟨_,_,_,l2⟩:=hl)
 ·obtain ⟨n,hd⟩:=u4p HH2.out
  have HR0:=hid (show PE (.named x) (E.ks.drop (i+1))=(PE (.ex 1) (E.ks.drop (i+1+1))).bind fun e r2=>need [93] r2 fun r3=>.ok (.mk 5 0 0 x [e]) r3 by rw [hd]; exact named_idx)
  clear hd
  go_wp2_with fail
  refine (expr_any hE _ _ (HL.out _ (by omega)) (hp2.keepB hE tBEL)).mono ?_
  rintro e w3 ⟨hg3,⟨a,j3,v3,hR,hp3,rfl,⟨ak,ao,an,ax,aA,am,ac,rfl,ha⟩⟩ | ⟨j3,hR,hp3,rfl⟩⟩
  all_goals (have HR3:=hid hR; clear hR; have hz3:=hg3.size; have hl:=u0a (q:=w.heap.size) hg3 l2 tSZ; obtain ⟨_,_,_,l3⟩:=hl)
  rotate_left 1
  ·go_wp2
   exact ⟨rfl,tGB,.inr ⟨j3,by rw [HR0.out,HR3.out]; rfl,hp3,rfl⟩⟩
  go_wp2_with fail
  refine (u1o hE _ _ (hp3.keepB hE tBEL) [93] (by decide)).mono ?_
  rintro e w4 ⟨hg4,⟨u,j4,v,hR,hp4,rfl,rfl⟩ | ⟨j4,hR,hp4,rfl⟩⟩
  all_goals (have HR4:=hid hR; clear hR; have hz:=hg4.size; (try simp only [u0c,u0i,u0p] at hz); have hl:=u0a (q:=w.heap.size) hg4 tLOC tSZ; have hl4:=u0a (q:=w3.heap.size) hg4 tLOC tSZ; obtain ⟨_,_,_,l4⟩:=hl; obtain ⟨_,_,_,m4⟩:=hl4)
  ·go_wp2
   refine u5c rfl rfl rfl tRES ?_
   exact ⟨tGB,.inl ⟨.mk 5 0 0 x [a],j4,_,by rw [HR0.out,HR3.out]; simp only [Res.bind,u0s,HR4.out],hp4.keepB hE tBEL,rfl,rx_mk (sl_one (nb:=w4.heap.size) _ _ _ _ _ _ _ tLOC tSZ (u3z ha tKP tSZ tSZ))⟩⟩
  ·go_wp2
   exact ⟨rfl,tGB,.inr ⟨j4,by rw [HR0.out,HR3.out]; simp only [Res.bind,u0s,HR4.out],hp4,rfl⟩⟩
 ·cases hs:hit [40] (E.ks.drop (i+1))
  ·have HS:=hid hs
   have HR0:=hid (named_plain (x:=x) HH2.out hs)
   clear hs
   go_wp2_with fail
   refine (u4w hE _ _ (hp2.keepB hE tBEL) [40] (by decide)).mono ?_
   rw [HS.out]
   rintro e w3 ⟨rfl,hg3n⟩
   have hg3:=u1q (r:=some E.b) hg3n
   have hz3:=hg3.size
   have hp3:=hp2.keep hE hg3n
   obtain ⟨_,_,_,l3⟩:=u0a (q:=w.heap.size) hg3 l2 tSZ
   go_wp2
   refine u5c rfl rfl rfl tRES ?_
   exact ⟨tGB,.inl ⟨.mk 1 0 0 x [],i+1,_,HR0.out,hp3.keepB hE tBEL,rfl,rx_mk u7l⟩⟩
  ·have HS:=hid hs
   clear hs
   go_wp2_with fail
   refine (u4w hE _ _ (hp2.keepB hE tBEL) [40] (by decide)).mono ?_
   rw [HS.out]
   rintro e w3 ⟨rfl,hg3n⟩
   have hg3:=u1q (r:=some E.b) hg3n
   have hz3:=hg3.size
   have hp3:=hp2.keep hE hg3n
   obtain ⟨_,_,_,l3⟩:=u0a (q:=w.heap.size) hg3 l2 tSZ
   have HR0:=hid (show PE (.named x) (E.ks.drop (i+1))=listR x (E.ks.drop (i+1)) by
    unfold listR
    rw [u6n HS.out]
    obtain ⟨n,hd⟩:=u4p HS.out
    rw [hd]
    show _=if hit [41] (E.ks.drop (i+1+1))=true then Res.ok (Ex.mk 6 0 0 x []) ((E.ks.drop (i+1+1)).drop 1) else itemR x [] (E.ks.drop (i+1+1))
    cases h4:hit [41] (E.ks.drop (i+1+1))
    ·rw [named_call h4]; rfl
    ·obtain ⟨m,hd2⟩:=u4p h4
     rw [hd2,named_call0]; rfl)
   go_wp2_with fail
   refine (listE_any hE x _ _ (fun j hj=>HL.out j (by omega)) (hp3.keepB hE tBEL)).mono ?_
   rintro e w4 ⟨hg4,⟨a,j4,v,hR,hp4,rfl,⟨A,m,c,kids,rfl,rfl,hk⟩⟩ | ⟨j4,hR,hp4,rfl⟩⟩
   all_goals (have HR4:=hid hR; clear hR; have hz4:=hg4.size; have hl:=u0a (q:=w.heap.size) hg4 l3 tSZ; obtain ⟨_,_,_,l4⟩:=hl)
   ·go_wp2
    refine u5c rfl rfl rfl tRES ?_
    exact ⟨tGB,.inl ⟨.mk 6 0 0 x kids,j4,_,by rw [HR0.out,HR4.out],hp4.keepB hE tBEL,rfl,rx_mk (u7f hk tKP tSZ tSZ)⟩⟩
   ·go_wp2
    exact ⟨rfl,tGB,.inr ⟨j4,by rw [HR0.out,HR4.out],hp4,rfl⟩⟩
theorem primary_any {E:Env} (hE:E.Ok) (w:World) (i:Nat) (hL:∀ j,i<j→LevC E j) (hp0:Ps E w i) :
  Calls Tryz.prog 177 #[.pointer (some ⟨E.b,0,none⟩)] w (Fin E w (PE .prim (E.ks.drop i)) (RxV w.heap.size)):=by
 have HL:=hid hL
 have hsz:=hp0.sz
 have hlt:=hE.lt
 have hb10:=hE.b10
 have q0:=fld0
 have q3:=fld3
 obtain ⟨t,ht⟩:=Env.at_ hp0.hi
 have HT:=hid ht
 have hnx:=Env.next_ hp0.hi
 clear hL
 by_cases k1:t.kind=1
 ·have hkd:E.ks.drop i=(1,t.text,t.num) :: E.ks.drop (i+1):=by
   rcases hnx with ⟨_,u,hu,hm,hd⟩ | ⟨_,hu,_⟩
   ·rw [hu] at ht; cases ht; rw [hd]; unfold key; rw [k1]
   ·rw [hu] at ht; cases ht; cases k1
  have HD:=hid hkd
  have e1:(t.kind == 1)=true:=by simp [k1]
  have K1:=hid k1
  clear hkd ht hnx k1
  go_enter Tryz.func177,Tryz.ntmps177
  go_wp2_with fail
  refine (u2t _ i (hp0.keepB hE tBEL) t HT.out).mono ?_
  rintro e w1 ⟨rfl,hg1n⟩
  have hg1:=u1q (r:=some E.b) hg1n
  have hz:=hg1.size
  (try simp only [u0c,u0i,u0p] at hz)
  have hp1:=(hp0.keepB hE tBEL).keep hE hg1n
  obtain ⟨_,_,_,l1⟩:=u0a (q:=w.heap.size) hg1 tLOC tSZ
  go_wp2_with fail
  refine (takeK hE _ i hp1 1 (by decide) t HT.out).mono ?_
  rintro e w2 ⟨hg2,⟨hk,hl,rfl,hp2⟩ | ⟨hk,rfl,hp2⟩⟩
  rotate_left 1
  ·exact absurd K1.out hk
  have HK:=hid hk
  clear hk
  have hz2:=hg2.size
  obtain ⟨_,_,_,l2⟩:=u0a (q:=w.heap.size) hg2 l1 tSZ
  go_wp2
  refine u5c rfl rfl rfl tRES ?_
  exact ⟨tGB,.inl ⟨.mk 0 0 t.num [] [],i+1,_,by rw [HD.out]; exact prim_int,hp2.keepB hE tBEL,rfl,rx_mk (name:=[]) u7l⟩⟩
 ·by_cases k0:t.kind=0
  ·have hkd:E.ks.drop i=(0,t.text,t.num) :: E.ks.drop (i+1):=by
    rcases hnx with ⟨_,u,hu,hm,hd⟩ | ⟨_,hu,_⟩
    ·rw [hu] at ht; cases ht; rw [hd]; unfold key; rw [k0]
    ·rw [hu] at ht; cases ht; cases k0
   have HD:=hid hkd
   have HN:=hid (show needN' (E.ks.drop i)=.ok t.text (E.ks.drop (i+1)) by rw [hkd]; rfl)
   have e1:(t.kind == 1)=false:=by simp [k0]
   have e0:(t.kind == 0)=true:=by simp [k0]
   clear hkd ht hnx k0 k1
   go_enter Tryz.func177,Tryz.ntmps177
   go_wp2_with fail
   refine (u2t _ i (hp0.keepB hE tBEL) t HT.out).mono ?_
   rintro e w1 ⟨rfl,hg1n⟩
   have hg1:=u1q (r:=some E.b) hg1n
   have hz:=hg1.size
   (try simp only [u0c,u0i,u0p] at hz)
   have hp1:=(hp0.keepB hE tBEL).keep hE hg1n
   obtain ⟨_,_,_,l1⟩:=u0a (q:=w.heap.size) hg1 tLOC tSZ
   go_wp2_with fail
   refine (u2t _ i hp1 t HT.out).mono ?_
   rintro e w2 ⟨rfl,hg2n⟩
   have hg2:=u1q (r:=some E.b) hg2n
   have hz2:=hg2.size
   have hp2:=hp1.keep hE hg2n
   obtain ⟨_,_,_,l2⟩:=u0a (q:=w.heap.size) hg2 l1 tSZ
   go_wp2_with fail
   refine (named_any hE t.text _ i HL.out HN.out hp2).mono ?_
   rintro e w3 ⟨hg3,⟨a,j,v,hR,hp3,rfl,⟨ak,ao,an,ax,aA,am,ac,rfl,ha⟩⟩ | ⟨j,hR,hp3,rfl⟩⟩
   all_goals (have HR:=hid hR; clear hR; have hz3:=hg3.size; have hl:=u0a (q:=w.heap.size) hg3 l2 tSZ; obtain ⟨_,_,_,l3⟩:=hl)
   ·go_wp2
    refine u5c rfl rfl rfl tRES ?_
    exact ⟨tGB,.inl ⟨a,j,_,by rw [HD.out,prim_name,HR.out],hp3.keepB hE tBEL,rfl,⟨ak,ao,an,ax,aA,am,ac,rfl,u3z ha tKP tSZ tSZ⟩⟩⟩
   ·go_wp2
    exact ⟨rfl,tGB,.inr ⟨j,by rw [HD.out,prim_name,HR.out],hp3,rfl⟩⟩
  ·have ho:Other (E.ks.drop i):=by
    rcases hnx with ⟨_,u,hu,hm,hd⟩ | ⟨_,_,hd⟩
    ·rw [hu] at ht; cases ht
     obtain ⟨hk,_⟩:=hE.wf t hm
     have k2:t.kind=2:=by omega
     exact .inr ⟨t.text,t.num,_,by rw [hd]; unfold key; rw [k2]⟩
    ·exact .inl hd
   have HO:=hid ho
   have e1:(t.kind == 1)=false:=by simp [k1]
   have e0:(t.kind == 0)=false:=by simp [k0]
   clear ht hnx k0 k1 ho
   go_enter Tryz.func177,Tryz.ntmps177
   go_wp2_with fail
   refine (u2t _ i (hp0.keepB hE tBEL) t HT.out).mono ?_
   rintro e w1 ⟨rfl,hg1n⟩
   have hg1:=u1q (r:=some E.b) hg1n
   have hz:=hg1.size
   (try simp only [u0c,u0i,u0p] at hz)
   have hp1:=(hp0.keepB hE tBEL).keep hE hg1n
   obtain ⟨_,_,_,l1⟩:=u0a (q:=w.heap.size) hg1 tLOC tSZ
   go_wp2_with fail
   refine (u2t _ i hp1 t HT.out).mono ?_
   rintro e w2 ⟨rfl,hg2n⟩
   have hg2:=u1q (r:=some E.b) hg2n
   have hz2:=hg2.size
   have hp2:=hp1.keep hE hg2n
   obtain ⟨_,_,_,l2⟩:=u0a (q:=w.heap.size) hg2 l1 tSZ
   go_wp2_with fail
   refine (u1u hE _ _ hp2 [40] (by decide)).mono ?_
   rintro e w3 ⟨hg3,⟨hh,rfl,hp3⟩ | ⟨hh,rfl,hp3⟩⟩
   all_goals (have HH3:=hid hh; clear hh; have hz3:=hg3.size; have hl:=u0a (q:=w.heap.size) hg3 l2 tSZ; obtain ⟨_,_,_,l3⟩:=hl)
   ·obtain ⟨n,hd⟩:=u4p HH3.out
    have HR0:=hid (show PE .prim (E.ks.drop i)=parenR (E.ks.drop (i+1)) by rw [hd]; exact prim_paren)
    clear hd
    go_wp2_with fail
    refine (expr_any hE _ _ (HL.out _ (by omega)) (hp3.keepB hE tBEL)).mono ?_
    rintro e w4 ⟨hg4,⟨a,j4,v4,hR,hp4,rfl,⟨ak,ao,an,ax,aA,am,ac,rfl,ha⟩⟩ | ⟨j4,hR,hp4,rfl⟩⟩
    all_goals (have HR4:=hid hR; clear hR; have hz4:=hg4.size; have hl:=u0a (q:=w.heap.size) hg4 l3 tSZ; obtain ⟨_,_,_,l4⟩:=hl)
    rotate_left 1
    ·go_wp2
     exact ⟨rfl,tGB,.inr ⟨j4,by rw [HR0.out]; unfold parenR; rw [HR4.out]; rfl,hp4,rfl⟩⟩
    go_wp2_with fail
    refine (u1o hE _ _ (hp4.keepB hE tBEL) [41] (by decide)).mono ?_
    rintro e w5 ⟨hg5,⟨u,j5,v,hR,hp5,rfl,rfl⟩ | ⟨j5,hR,hp5,rfl⟩⟩
    all_goals (have HR5:=hid hR; clear hR; have hz:=hg5.size; (try simp only [u0c,u0i,u0p] at hz); have hl:=u0a (q:=w.heap.size) hg5 tLOC tSZ; have hm:=u0a (q:=w4.heap.size) hg5 tLOC tSZ; obtain ⟨_,_,_,l5⟩:=hl; obtain ⟨_,_,_,m5⟩:=hm)
    ·go_wp2
     refine u5c rfl rfl rfl tRES ?_
     exact ⟨tGB,.inl ⟨a,j5,_,by rw [HR0.out]; unfold parenR; rw [HR4.out]; simp only [Res.bind,u0s,HR5.out],hp5.keepB hE tBEL,rfl,⟨ak,ao,an,ax,aA,am,ac,rfl,u3z ha tKP tSZ tSZ⟩⟩⟩
    ·go_wp2
     exact ⟨rfl,tGB,.inr ⟨j5,by rw [HR0.out]; unfold parenR; rw [HR4.out]; simp only [Res.bind,u0s,HR5.out],hp5,rfl⟩⟩
   ·go_wp2_with fail
    refine (u1u hE _ _ hp3 [109,105,110] (by decide)).mono ?_
    rintro e w4 ⟨hg4,⟨hh,rfl,hp4⟩ | ⟨hh,rfl,hp4⟩⟩
    all_goals (have HH4:=hid hh; clear hh; have hz4:=hg4.size; have hl:=u0a (q:=w.heap.size) hg4 l3 tSZ; obtain ⟨_,_,_,l4⟩:=hl)
    ·obtain ⟨n,hd⟩:=u4p HH4.out
     have HR0:=hid (show PE .prim (E.ks.drop i)=pairR 18 (E.ks.drop (i+1)) by rw [hd]; exact prim_min)
     clear hd
     go_wp2_with fail
     refine (pair_any hE 18 _ _ (fun j hj=>HL.out j (by omega)) hp4).mono ?_
     rintro e w5 ⟨hg5,⟨a,j5,v5,hR,hp5,rfl,⟨ak,ao,an,ax,aA,am,ac,rfl,ha⟩⟩ | ⟨j5,hR,hp5,rfl⟩⟩
     all_goals (have HR5:=hid hR; clear hR; have hz5:=hg5.size; have hl:=u0a (q:=w.heap.size) hg5 l4 tSZ; obtain ⟨_,_,_,l5⟩:=hl)
     ·go_wp2
      refine u5c rfl rfl rfl tRES ?_
      exact ⟨tGB,.inl ⟨a,j5,_,by rw [HR0.out,HR5.out],hp5.keepB hE tBEL,rfl,⟨ak,ao,an,ax,aA,am,ac,rfl,u3z ha tKP tSZ tSZ⟩⟩⟩
     ·go_wp2
      exact ⟨rfl,tGB,.inr ⟨j5,by rw [HR0.out,HR5.out],hp5,rfl⟩⟩
    ·go_wp2_with fail
     refine (u1u hE _ _ hp4 [109,97,120] (by decide)).mono ?_
     rintro e w5 ⟨hg5,⟨hh,rfl,hp5⟩ | ⟨hh,rfl,hp5⟩⟩
     all_goals (have HH5:=hid hh; clear hh; have hz5:=hg5.size; have hl:=u0a (q:=w.heap.size) hg5 l4 tSZ; obtain ⟨_,_,_,l5⟩:=hl)
     ·obtain ⟨n,hd⟩:=u4p HH5.out
      have HR0:=hid (show PE .prim (E.ks.drop i)=pairR 19 (E.ks.drop (i+1)) by rw [hd]; exact prim_max)
      clear hd
      go_wp2_with fail
      refine (pair_any hE 19 _ _ (fun j hj=>HL.out j (by omega)) hp5).mono ?_
      rintro e w6 ⟨hg6,⟨a,j6,v6,hR,hp6,rfl,⟨ak,ao,an,ax,aA,am,ac,rfl,ha⟩⟩ | ⟨j6,hR,hp6,rfl⟩⟩
      all_goals (have HR6:=hid hR; clear hR; have hz6:=hg6.size; have hl:=u0a (q:=w.heap.size) hg6 l5 tSZ; obtain ⟨_,_,_,l6⟩:=hl)
      ·go_wp2
       refine u5c rfl rfl rfl tRES ?_
       exact ⟨tGB,.inl ⟨a,j6,_,by rw [HR0.out,HR6.out],hp6.keepB hE tBEL,rfl,⟨ak,ao,an,ax,aA,am,ac,rfl,u3z ha tKP tSZ tSZ⟩⟩⟩
      ·go_wp2
       exact ⟨rfl,tGB,.inr ⟨j6,by rw [HR0.out,HR6.out],hp6,rfl⟩⟩
     ·go_wp2_with fail
      refine (special_any hE _ _ HO.out HH3.out HH4.out HH5.out hp5).mono ?_
      rintro e w6 ⟨hg6,⟨a,j6,v6,hR,hp6,rfl,⟨ak,ao,an,ax,aA,am,ac,rfl,ha⟩⟩ | ⟨j6,hR,hp6,rfl⟩⟩
      all_goals (have HR6:=hid hR; clear hR; have hz6:=hg6.size; have hl:=u0a (q:=w.heap.size) hg6 l5 tSZ; obtain ⟨_,_,_,l6⟩:=hl)
      ·go_wp2
       refine u5c rfl rfl rfl tRES ?_
       exact ⟨tGB,.inl ⟨a,j6,_,HR6.out,hp6.keepB hE tBEL,rfl,⟨ak,ao,an,ax,aA,am,ac,rfl,u3z ha tKP tSZ tSZ⟩⟩⟩
      ·go_wp2
       exact ⟨rfl,tGB,.inr ⟨j6,HR6.out,hp6,rfl⟩⟩
theorem rules {E:Env} (hE:E.Ok):∀ (m i:Nat),E.L.length - i<m→LevC E i∧UnC E i
 | 0,_,h=>absurd h (Nat.not_lt_zero _)
 | m+1,i,h=>by
  have up:∀ j,i<j→LevC E j∧UnC E j:=fun j hj=>by
   by_cases hl:i<E.L.length
   ·exact rules hE m j (by omega)
   ·exact ⟨fun n w _ _ hp=>absurd hp.hi (by omega),fun w hp=>absurd hp.hi (by omega)⟩
  have hu:UnC E i:=fun w hp=>unary_any hE w i (fun j hj=>(up j hj).2) (fun w' hp'=>primary_any hE w' i (fun j hj=>(up j hj).1) hp') hp
  exact ⟨fun n w h1 h2 hp=>levels_any hE n h1 h2 w i (fun j hj=>(up j hj).1) hu hp,hu⟩
theorem lev_all {E:Env} (hE:E.Ok) (i:Nat):LevC E i:=(rules hE _ i (Nat.lt_succ_self _)).1
theorem expr_all {E:Env} (hE:E.Ok) (w:World) (i:Nat) (hp:Ps E w i):Calls Tryz.prog 47 #[.pointer (some ⟨E.b,0,none⟩)] w (Fin E w (PE (.ex 1) (E.ks.drop i)) (RxV w.heap.size)):=expr_any hE w i (lev_all hE i) hp
end Go.Proofs.YtbkhnilbgocpnaaGreatDoor.SynC
