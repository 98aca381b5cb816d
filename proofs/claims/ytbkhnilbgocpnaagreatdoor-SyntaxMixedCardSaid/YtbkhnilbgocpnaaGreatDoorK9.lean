import Derived.Test.YtbkhnilbgocpnaaGreatDoorK0
import Derived.Test.YtbkhnilbgocpnaaGreatDoorK8
set_option linter.unusedVariables false
set_option linter.unusedSimpArgs false
set_option maxRecDepth 100000
set_option maxHeartbeats 2000000
open Go.Lib (hid)
namespace Go.Proofs.YtbkhnilbgocpnaaGreatDoor.SynC
open Go.Proofs.YtbkhnilbgocpnaaGreatDoor.LexC
open Go Go.ChangeShapes Go.WideShapes Go.ChangeAt Go.RowKit Go.Deep
theorem moreA_any {E:Env} (hE:E.Ok) (w:World) (i q:Nat) (hq:w.heap[q]? = some (.cells #[.pointer (some ⟨E.b,0,none⟩)] 79 (0,0))) (hp0:Ps E w i) :
  Calls Tryz.prog 129 #[.pointer (some ⟨q,0,none⟩)] w fun e w'=>w.grownBy w' none∧e=.returned (.bool (hit u3o (E.ks.drop i))):=by
 have hc:w.cell? ⟨q,0,none⟩=some (.pointer (some ⟨E.b,0,none⟩)):=by rw [cell_of_row _ _ 0 _ _ _ hq]; rfl
 obtain ⟨b,hb⟩:∃ b,hit u3o (E.ks.drop i)=b:=⟨_,rfl⟩
 have HB:=hid hb
 clear hq
 rw [hb]
 clear hb
 go_enter Tryz.func129,Tryz.ntmps129
 go_wp2_with fail
 refine (u4w hE _ _ hp0 u3o (by decide)).mono ?_
 rw [HB.out]
 rintro e w1 ⟨rfl,hg1⟩
 go_wp2
 go_ret
 exact ⟨hg1,rfl⟩
theorem arr_len:LenO arrR:=fun l a r h=>by
 obtain ⟨_,q1,e1,h⟩:=u0q h
 obtain ⟨_,q2,e2,h⟩:=u0q h
 obtain ⟨_,q3,e3,h⟩:=u0q h
 obtain ⟨_,q4,e4,h⟩:=u0q h
 obtain ⟨_,q5,e5,h⟩:=u0q h
 obtain ⟨_,q6,e6,h⟩:=u0q h
 cases h
 have:=lenS e1
 have:=lenN e2
 have:=lenS e3
 have:=lenI e4
 have:=lenS e5
 have:=lenS e6
 omega
theorem repA_any {E:Env} (hE:E.Ok) (w:World) (i q:Nat) (hq0:w.heap[q]? = some (.cells #[.pointer (some ⟨E.b,0,none⟩)] 79 (0,0))) (hqb:q≠E.b) (hp0:Ps E w i) :
  Calls Tryz.prog 128 #[.func (.func 129) #[] #[.pointer (some ⟨q,0,none⟩)],.func (.func 130) #[.pointer (some ⟨E.b,0,none⟩)] #[]] w (Fin E w (sharedR (E.ks.drop i)) (SrV rdA 2 w.heap.size)):=by
 have hsz:=hp0.sz
 have hlt:=hE.lt
 have hlen:=hE.len
 have hql:q<w.heap.size:=(Array.getElem?_eq_some_iff.1 hq0).1
 go_enter Tryz.func128,Tryz.ntmps128
 go_wp2_with fail
 go_loopw [5] (fun v wr=>∃ (j:Nat) (L:List (List UInt8 × Int)),i≤j∧L.length≤j∧w.grownBy wr (some E.b)∧Ps E wr j∧sharedR (E.ks.drop i)=(sharedR (E.ks.drop j)).bind (fun ss r=>.ok (L++ss) r)∧OwnL rdA 94 2 wr w.heap.size v L∧wr.heap[q]? = some (.cells #[.pointer (some ⟨E.b,0,none⟩)] 79 (0,0))) (fun _ wr=>E.L.length - nextOf E wr)
 case atStart=>exact ⟨i,[],Nat.le_refl _,by simp,tGB,hp0,by simp only [List.nil_append]; exact (bind_id _).symm,OwnL.nil _ _,hq0⟩
 case round =>
  obtain ⟨j,L,hij,hkl,hgr,hp,hI,hown,hq⟩:=hrel
  have HI:=hid hI
  have HO:=hid hown
  have hz0:=hgr.size
  have hjl:=hp.hi
  clear hI hown
  cases hs:hit u3o (E.ks.drop j)
  ·have HS:=hid hs
   clear hs
   go_wp2_with fail
   refine (moreA_any hE _ j q hq hp).mono ?_
   rw [HS.out]
   rintro e w1 ⟨hg1n,rfl⟩
   have hg1:=u1q (r:=some E.b) hg1n
   have hz1:=hg1.size
   have hS:=(HO.out.keep u4g hg1 (by omega)).slR u4g
   obtain ⟨A,m,c,hv⟩:=hS.form
   subst hv
   go_wp2
   go_ret
   exact ⟨tGB,.inl ⟨L,j,_,by rw [HI.out,sharedR_step,HS.out]; simp only [Res.bind,Bool.false_eq_true,if_false,List.append_nil],hp.keep hE hg1n,rfl,⟨A,m,c,rfl,hS⟩⟩⟩
  ·have HS:=hid hs
   clear hs
   go_wp2_with fail
   refine (moreA_any hE _ j q hq hp).mono ?_
   rw [HS.out]
   rintro e w1 ⟨hg1n,rfl⟩
   have hg1:=u1q (r:=some E.b) hg1n
   have hz1:=hg1.size
   have hp1:=hp.keep hE hg1n
   have hq1:=(hg1.block q (by omega) (by simpa using hqb)).trans hq
   go_wp2_with fail
   refine (array_any hE _ j (hp1.keepB hE tBEL)).mono ?_
   rintro e w3 ⟨hg3,⟨a,j3,v3,hR,hp3,rfl,rfl⟩ | ⟨j3,hR,hp3,rfl⟩⟩
   all_goals (have HR3:=hid hR; clear hR; have hz3:=hg3.size)
   rotate_left 1
   ·go_wp2
    exact ⟨rfl,tGB,.inr ⟨j3,by rw [HI.out,sharedR_step,HS.out,HR3.out]; rfl,hp3,rfl⟩⟩
   have hj3:=adv_O arr_len hp3.hi HR3.out
   have hq3:=(hg3.block q (by omega) (by simpa using hqb)).trans hq1
   go_wp2_with (refine u2o u4g rfl _ _ 73 rfl _ 24 info94 Tryz.underlying73 rfl (by decide) (by decide) w.heap.size _ L rfl ((((HO.out.keep u4g hg1 (by omega)).keep u4g hg3 (by omega)).alloc u4g (by omega) _).alloc u4g (by omega) _) (w3.heap.size+1) rfl #[.string (bs a.1),.int .i64 a.2] (0,0) (u0h (by rw [u0c])) rfl (by intro u hu; simp at hu; rcases hu with rfl | rfl <;> rfl) a w1.heap.size (show rdA _ _ _ _ from rfl) (by omega) (fun g hg=>by have:=(HO.out.lt g hg).2; omega) (by omega) tSZ ?_; intro v' w4 hown4 hg4 hwh4; have HO4:=hid hown4; clear hown4)
   have hz4:=hg4.size
   (try simp only [u0c,u0i,u0p] at hz4)
   have hown0:=fun g hg=>(HO.out.lt g hg).1
   have gw4:w.grownBy w4 (some E.b):=gb_own tGB hg4 hown0
   have hp4:Ps E w4 j3:=hp3.keepB hE (Below.grown tBEL hg4 tSZ (fun k hk=>by have:=hown0 k hk; omega))
   have hq4:w4.heap[q]? = some (.cells #[.pointer (some ⟨E.b,0,none⟩)] 79 (0,0)):=by
    rw [hg4.block q tSZ (fun e=>by have:=hown0 q e.symm; omega)]
    exact tLOC
   go_roundw
   case rel =>
    refine ⟨j3,L++[a],by omega,by simp; omega,gw4,hp4,?_,HO4.out,hq4⟩
    rw [HI.out,sharedR_step (E.ks.drop j),HS.out,HR3.out]
    simp only [if_true,Res.bind,List.append_assoc,List.singleton_append]
    cases sharedR (E.ks.drop j3) <;> rfl
   case measure =>
    rw [hp.nextOf,hp4.nextOf]
    have:=hp3.hi
    omega
def RfV (h:Nat) (w:World) (v:Value) (f:It):Prop:=∃ x ps b A m c B m' c',f=.fn x ps b∧v=.agg #[.string (bs x),.slice A m c,.slice B m' c']∧rdF (fun g=>h≤g∧g<w.heap.size) w [.string (bs x),.slice A m c,.slice B m' c'] ⟨x,ps,b⟩
def RkV (h:Nat) (w:World) (v:Value) (f:It):Prop:=∃ x ps sh b A m c B m' c' C m'' c'',f=.ker x ps sh b∧v=.agg #[.string (bs x),.slice A m c,.slice B m' c',.slice C m'' c''] ∧
 rdK (fun g=>h≤g∧g<w.heap.size) w [.string (bs x),.slice A m c,.slice B m' c',.slice C m'' c''] ⟨x,ps,sh,b⟩
theorem function_any {E:Env} (hE:E.Ok) (w:World) (i:Nat) (hp0:Ps E w i) :
  Calls Tryz.prog 76 #[.pointer (some ⟨E.b,0,none⟩)] w (Fin E w (fnR (E.ks.drop i)) (RfV w.heap.size)):=by
 have hsz:=hp0.sz
 have hlt:=hE.lt
 have hi0:=hp0.hi
 go_enter Tryz.func76,Tryz.ntmps76
 go_wp2_with fail
 refine (u1o hE _ _ (hp0.keepB hE tBEL) wFunc (by decide)).mono ?_
 rintro e w1 ⟨hg1,⟨a1,j1,v1,hR,hp1,rfl,rfl⟩ | ⟨j1,hR,hp1,rfl⟩⟩
 all_goals (have HR1:=hid hR; clear hR; have hz:=hg1.size; (try simp only [u0c,u0i,u0p] at hz))
 all_goals (have hl:=u0a (q:=w.heap.size) hg1 tLOX tSZ; obtain ⟨_,_,_,_⟩:=hl)
 rotate_left 1
 ·go_wp2
  exact ⟨rfl,tGB,.inr ⟨j1,by simp only [fnR,HR1.out,Res.bind,u0s,u0w],hp1,rfl⟩⟩
 have hj1:=u6h hp1.hi HR1.out
 go_wp2_with fail
 refine (name_any hE _ _ (hp1.keepB hE tBEL)).mono ?_
 rintro e w2 ⟨hg2,⟨a2,j2,v2,hR,hp2,rfl,rfl⟩ | ⟨j2,hR,hp2,rfl⟩⟩
 all_goals (have HR2:=hid hR; clear hR; have hz:=hg2.size; (try simp only [u0c,u0i,u0p] at hz))
 all_goals (have hl:=u0a (q:=w.heap.size) hg2 tLOX tSZ; obtain ⟨_,_,_,_⟩:=hl)
 rotate_left 1
 ·go_wp2
  exact ⟨rfl,tGB,.inr ⟨j2,by simp only [fnR,HR1.out,HR2.out,Res.bind,u0s,u0w],hp2,rfl⟩⟩
 have hj2:=adv_N hp2.hi HR2.out
 go_wp2_with fail
 refine (listN_any hE _ _ (hp2.keepB hE tBEL)).mono ?_
 rintro e w3 ⟨hg3,⟨a3,j3,v3,hR,hp3,rfl,⟨A3,m3,c3,rfl,hs3⟩⟩ | ⟨j3,hR,hp3,rfl⟩⟩
 all_goals (have HR3:=hid hR; clear hR; have hz:=hg3.size; (try simp only [u0c,u0i,u0p] at hz))
 all_goals (have hl:=u0a (q:=w.heap.size) hg3 tLOX tSZ; obtain ⟨_,_,_,_⟩:=hl)
 rotate_left 1
 ·go_wp2
  exact ⟨rfl,tGB,.inr ⟨j3,by simp only [fnR,HR1.out,HR2.out,HR3.out,Res.bind,u0s,u0w],hp3,rfl⟩⟩
 have hj3:=adv_LN hp3.hi HR3.out
 go_wp2_with fail
 refine (block_any hE _ _ (fun j hj=>body_all hE j) (hp3.keepB hE tBEL)).mono ?_
 rintro e w4 ⟨hg4,⟨a4,j4,v4,hR,hp4,rfl,⟨A4,m4,c4,rfl,hs4⟩⟩ | ⟨j4,hR,hp4,rfl⟩⟩
 all_goals (have HR4:=hid hR; clear hR; have hz:=hg4.size; (try simp only [u0c,u0i,u0p] at hz))
 all_goals (have hl:=u0a (q:=w.heap.size) hg4 tLOX tSZ; obtain ⟨_,_,_,_⟩:=hl)
 rotate_left 1
 ·go_wp2
  exact ⟨rfl,tGB,.inr ⟨j4,by simp only [fnR,HR1.out,HR2.out,HR3.out,HR4.out,Res.bind,u0s,u0w],hp4,rfl⟩⟩
 have hj4:=adv_B hp4.hi HR4.out
 go_wp2
 refine ret_fn rfl rfl rfl tRES ?_
 exact ⟨tGB,.inl ⟨.fn a2 a3 a4,j4,_,by simp only [fnR,HR1.out,HR2.out,HR3.out,HR4.out,Res.bind,u0s,u0w],hp4.keepB hE tBEL,rfl,⟨a2,a3,a4,_,_,_,_,_,_,rfl,rfl,⟨_,_,_,_,_,_,rfl,(sr_keep u4a hs3 tKP tSZ tSZ),(ss_keep hs4 tKP tSZ tSZ)⟩⟩⟩⟩
theorem kernel_any {E:Env} (hE:E.Ok) (w:World) (i:Nat) (hp0:Ps E w i) :
  Calls Tryz.prog 77 #[.pointer (some ⟨E.b,0,none⟩)] w (Fin E w (kerR (E.ks.drop i)) (RkV w.heap.size)):=by
 have hsz:=hp0.sz
 have hlt:=hE.lt
 have hi0:=hp0.hi
 have hmf:∀ (fn:Go.Fn) (first cap:Array Value) (w:World),(Instr.makeFunc fn first cap).run Tryz.prog w=.ok (.func fn first cap) w:=fun _ _ _ _=>rfl
 go_enter Tryz.func77,Tryz.ntmps77
 go_wp2_with fail
 refine (u1o hE _ _ (hp0.keepB hE tBEL) u7u (by decide)).mono ?_
 rintro e w1 ⟨hg1,⟨a1,j1,v1,hR,hp1,rfl,rfl⟩ | ⟨j1,hR,hp1,rfl⟩⟩
 all_goals (have HR1:=hid hR; clear hR; have hz:=hg1.size; (try simp only [u0c,u0i,u0p] at hz))
 all_goals (have hl:=u0a (q:=w.heap.size) hg1 tLOC tSZ; obtain ⟨_,_,_,_⟩:=hl)
 all_goals (have hl:=u0a (q:=w.heap.size+1) hg1 tLOC tSZ; obtain ⟨_,_,_,_⟩:=hl)
 rotate_left 1
 ·go_wp2
  exact ⟨rfl,tGB,.inr ⟨j1,by simp only [kerR,HR1.out,Res.bind,u0s,u0w],hp1,rfl⟩⟩
 have hj1:=u6h hp1.hi HR1.out
 go_wp2_with fail
 refine (name_any hE _ _ (hp1.keepB hE tBEL)).mono ?_
 rintro e w2 ⟨hg2,⟨a2,j2,v2,hR,hp2,rfl,rfl⟩ | ⟨j2,hR,hp2,rfl⟩⟩
 all_goals (have HR2:=hid hR; clear hR; have hz:=hg2.size; (try simp only [u0c,u0i,u0p] at hz))
 all_goals (have hl:=u0a (q:=w.heap.size) hg2 tLOC tSZ; obtain ⟨_,_,_,_⟩:=hl)
 all_goals (have hl:=u0a (q:=w.heap.size+1) hg2 tLOC tSZ; obtain ⟨_,_,_,_⟩:=hl)
 rotate_left 1
 ·go_wp2
  exact ⟨rfl,tGB,.inr ⟨j2,by simp only [kerR,HR1.out,HR2.out,Res.bind,u0s,u0w],hp2,rfl⟩⟩
 have hj2:=adv_N hp2.hi HR2.out
 go_wp2_with fail
 refine (listP_any hE _ _ (hp2.keepB hE tBEL)).mono ?_
 rintro e w3 ⟨hg3,⟨a3,j3,v3,hR,hp3,rfl,⟨A3,m3,c3,rfl,hs3⟩⟩ | ⟨j3,hR,hp3,rfl⟩⟩
 all_goals (have HR3:=hid hR; clear hR; have hz:=hg3.size; (try simp only [u0c,u0i,u0p] at hz))
 all_goals (have hl:=u0a (q:=w.heap.size) hg3 tLOC tSZ; obtain ⟨_,_,_,_⟩:=hl)
 all_goals (have hl:=u0a (q:=w.heap.size+1) hg3 tLOC tSZ; obtain ⟨_,_,_,_⟩:=hl)
 rotate_left 1
 ·go_wp2
  exact ⟨rfl,tGB,.inr ⟨j3,by simp only [kerR,HR1.out,HR2.out,HR3.out,Res.bind,u0s,u0w],hp3,rfl⟩⟩
 have hj3:=adv_LP hp3.hi HR3.out
 go_wp2_with fail
 refine (u1o hE _ _ (hp3.keepB hE tBEL) [123] (by decide)).mono ?_
 rintro e w4 ⟨hg4,⟨a4,j4,v4,hR,hp4,rfl,rfl⟩ | ⟨j4,hR,hp4,rfl⟩⟩
 all_goals (have HR4:=hid hR; clear hR; have hz:=hg4.size; (try simp only [u0c,u0i,u0p] at hz))
 all_goals (have hl:=u0a (q:=w.heap.size) hg4 tLOC tSZ; obtain ⟨_,_,_,_⟩:=hl)
 all_goals (have hl:=u0a (q:=w.heap.size+1) hg4 tLOC tSZ; obtain ⟨_,_,_,_⟩:=hl)
 rotate_left 1
 ·go_wp2
  exact ⟨rfl,tGB,.inr ⟨j4,by simp only [kerR,HR1.out,HR2.out,HR3.out,HR4.out,Res.bind,u0s,u0w],hp4,rfl⟩⟩
 have hj4:=u6h hp4.hi HR4.out
 go_wp2_with fail
 refine (repA_any hE _ _ w.heap.size tLOC tSZ (hp4.keepB hE tBEL)).mono ?_
 rintro e w5 ⟨hg5,⟨a5,j5,v5,hR,hp5,rfl,⟨A5,m5,c5,rfl,hs5⟩⟩ | ⟨j5,hR,hp5,rfl⟩⟩
 all_goals (have HR5:=hid hR; clear hR; have hz:=hg5.size; (try simp only [u0c,u0i,u0p] at hz))
 all_goals (have hl:=u0a (q:=w.heap.size) hg5 tLOC tSZ; obtain ⟨_,_,_,_⟩:=hl)
 all_goals (have hl:=u0a (q:=w.heap.size+1) hg5 tLOC tSZ; obtain ⟨_,_,_,_⟩:=hl)
 rotate_left 1
 ·go_wp2
  exact ⟨rfl,tGB,.inr ⟨j5,by simp only [kerR,HR1.out,HR2.out,HR3.out,HR4.out,HR5.out,Res.bind,u0s,u0w],hp5,rfl⟩⟩
 go_wp2_with fail
 refine (rest_any hE _ _ (fun j hj=>body_all hE j) (hp5.keepB hE tBEL)).mono ?_
 rintro e w6 ⟨hg6,⟨a6,j6,v6,hR,hp6,rfl,⟨A6,m6,c6,rfl,hs6⟩⟩ | ⟨j6,hR,hp6,rfl⟩⟩
 all_goals (have HR6:=hid hR; clear hR; have hz:=hg6.size; (try simp only [u0c,u0i,u0p] at hz))
 all_goals (have hl:=u0a (q:=w.heap.size) hg6 tLOC tSZ; obtain ⟨_,_,_,_⟩:=hl)
 all_goals (have hl:=u0a (q:=w.heap.size+1) hg6 tLOC tSZ; obtain ⟨_,_,_,_⟩:=hl)
 rotate_left 1
 ·go_wp2
  exact ⟨rfl,tGB,.inr ⟨j6,by simp only [kerR,HR1.out,HR2.out,HR3.out,HR4.out,HR5.out,HR6.out,Res.bind,u0s,u0w],hp6,rfl⟩⟩
 have hj6:=adv_P hp6.hi HR6.out
 go_wp2
 refine ret_kn rfl rfl rfl tRES ?_
 exact ⟨tGB,.inl ⟨.ker a2 a3 a5 a6,j6,_,by simp only [kerR,HR1.out,HR2.out,HR3.out,HR4.out,HR5.out,HR6.out,Res.bind,u0s,u0w],hp6.keepB hE tBEL,rfl,⟨a2,a3,a5,a6,_,_,_,_,_,_,_,_,_,rfl,rfl,⟨_,_,_,_,_,_,_,_,_,rfl,(sr_keep u3d hs3 tKP tSZ tSZ),(sr_keep u4g hs5 tKP tSZ tSZ),(ss_keep hs6 tKP tSZ tSZ)⟩⟩⟩⟩
def rdX {α:Type} (N:Nat→Prop) (rd:Rd α):Rd α:=fun P w r a=>rd (fun g=>P g∧N g) w r a
theorem u5d {α:Type} {N:Nat→Prop} {rd:Rd α} (ok:rd.Ok):(rdX N rd).Ok:=fun _ _ w w' r a k h hr=>ok _ _ w w' r a (fun p u hp hu=>k p u hp.1 hu) (fun b hb=>⟨h b hb.1,hb.2⟩) hr
theorem OwnL.reN {α:Type} {rd:Rd α} (ok:rd.Ok) {T sz:Nat} {N N':Nat→Prop} {w:World} {base:Nat} {v:Value} {L:List α} (h:OwnL (rdX N rd) T sz w base v L) (hN:∀ g,g<w.heap.size→N g→N' g):OwnL (rdX N' rd) T sz w base v L:=by
 obtain ⟨rows,h1,h2,h3⟩:=h
 exact ⟨rows,h1,fun j r a hr ha=>⟨(h2 j r a hr ha).1,ok _ _ w w r a (fun _ _ _ hu=>hu) (fun b hb=>⟨hb.1,hN b hb.1.2 hb.2⟩) (h2 j r a hr ha).2⟩,h3⟩
theorem OwnL.other {α:Type} {rd:Rd α} (ok:rd.Ok) {T sz:Nat} {N:Nat→Prop} {w w':World} {base:Nat} {v:Value} {L:List α} {row:Option Nat} (h:OwnL (rdX N rd) T sz w base v L) (hg:w.grownBy w' row) (hN:∀ g,N g→row≠some g) (hv:v.ownBlock=none∨v.ownBlock≠row) :
  OwnL (rdX N rd) T sz w' base v L:=by
 obtain ⟨rows,h1,h2,h3⟩:=h
 refine ⟨rows,h1,fun j r a hr ha=>⟨(h2 j r a hr ha).1,ok _ _ w w' r a (fun p u hp hu=>hg.cell hu (fun e=>hN _ hp.2 e.symm)) (fun g hg'=>⟨⟨hg'.1.1,Nat.lt_of_lt_of_le hg'.1.2 hg.size⟩,hg'.2⟩) (h2 j r a hr ha).2⟩,h3.kept hg hv⟩
theorem OwnL.block {α:Type} {rd:Rd α} {T sz:Nat} {w:World} {base:Nat} {v:Value} {L:List α} (h:OwnL rd T sz w base v L):∀ g,v.ownBlock=some g→∃ cur,w.heap[g]? = some (.cells cur T (0,0)):=by
 intro g hg
 obtain ⟨rows,_,_,h3⟩:=h
 rcases h3.2 with ⟨hv,_⟩ | ⟨g',cap,cur,hv,_,hgg,_⟩
 ·rw [hv] at hg; cases hg
 ·rw [hv] at hg
  simp [Value.ownBlock] at hg
  subst hg
  exact ⟨cur,hgg⟩
theorem OwnL.plain {α:Type} {rd:Rd α} (ok:rd.Ok) {T sz:Nat} {N:Nat→Prop} {w:World} {base:Nat} {v:Value} {L:List α} (h:OwnL (rdX N rd) T sz w base v L):OwnL rd T sz w base v L:=by
 obtain ⟨rows,h1,h2,h3⟩:=h
 exact ⟨rows,h1,fun j r a hr ha=>⟨(h2 j r a hr ha).1,ok _ _ w w r a (fun _ _ _ hu=>hu) (fun b hb=>hb.1) (h2 j r a hr ha).2⟩,h3⟩
theorem OwnL.below {α:Type} {rd:Rd α} (ok:rd.Ok) {T sz:Nat} {w w':World} {base:Nat} {v:Value} {L:List α} (h:OwnL rd T sz w base v L) (hz:w.heap.size≤w'.heap.size) (hk:∀ g,base≤g→g<w.heap.size→w'.heap[g]? = w.heap[g]?):OwnL rd T sz w' base v L:=by
 obtain ⟨rows,h1,h2,h3⟩:=h
 refine ⟨rows,h1,fun j r a hr ha=>⟨(h2 j r a hr ha).1,ok _ _ w w' r a (fun p u hp hu=>(World.cell?_of_block (hk p.block hp.1.1 hp.2)).trans hu) (fun g hg=>⟨hg.1,Nat.lt_of_lt_of_le hg.2 hz⟩) (h2 j r a hr ha).2⟩,h3.1,?_⟩
 rcases h3.2 with hn | ⟨g,cap,cur,hv,hb,hgg,rest⟩
 ·exact .inl hn
 ·exact .inr ⟨g,cap,cur,hv,hb,(hk g hb (Array.getElem?_eq_some_iff.1 hgg).1).trans hgg,rest⟩
structure Two (w:World) (base:Nat) (fv kv:Value) (p:Pg):Prop where
 f:OwnL (rdX (fun g=>kv.ownBlock≠some g) rdF) 71 3 w base fv p.fns
 k:OwnL (rdX (fun g=>fv.ownBlock≠some g) rdK) 75 4 w base kv p.krs
theorem Two.apart {w:World} {base:Nat} {fv kv:Value} {p:Pg} (h:Two w base fv kv p):fv.ownBlock=none∨fv.ownBlock≠kv.ownBlock:=by
 cases hf:fv.ownBlock with
 | none=>exact .inl rfl
 | some g =>
  refine .inr fun e=>?_
  obtain ⟨c1,h1⟩:=h.f.block g hf
  obtain ⟨c2,h2⟩:=h.k.block g e.symm
  rw [h1] at h2
  injection h2 with h2
  injection h2 with _ h2 _
  exact absurd h2 (by decide)
theorem Two.keep {w w':World} {base b:Nat} {fv kv:Value} {p:Pg} (h:Two w base fv kv p) (hg:w.grownBy w' (some b)) (hb:b<base):Two w' base fv kv p :=
 ⟨h.f.keep (u5d u2l) hg hb,h.k.keep (u5d u2x) hg hb⟩
theorem Two.below {w w':World} {base:Nat} {fv kv:Value} {p:Pg} (h:Two w base fv kv p) (hz:w.heap.size≤w'.heap.size) (hk:∀ g,base≤g→g<w.heap.size→w'.heap[g]? = w.heap[g]?):Two w' base fv kv p :=
 ⟨h.f.below (u5d u2l) hz hk,h.k.below (u5d u2x) hz hk⟩
def addI (p:Pg):It→Pg
 | .fn x ps b=>⟨p.fns++[⟨x,ps,b⟩],p.krs⟩
 | .ker x ps sh b=>⟨p.fns,p.krs++[⟨x,ps,sh,b⟩]⟩
theorem pg_snoc (l:List It) (i:It):pg (l++[i])=addI (pg l) i:=by
 cases i <;> simp [pg,addI,It.fn?,It.kr?]
def RpV (h:Nat) (w:World) (v:Value) (l:List It):Prop:=∃ A m c B m' c',v=.agg #[.slice A m c,.slice B m' c']∧RPg w (fun g=>h≤g∧g<w.heap.size) [.slice A m c,.slice B m' c'] (pg l)
theorem Two.value {w:World} {h base:Nat} {A B:Option Addr} {m c m' c':Nat} {l:List It} (t:Two w base (.slice A m c) (.slice B m' c') (pg l)) (hh:h≤base):RpV h w (.agg #[.slice A m c,.slice B m' c']) l :=
 ⟨A,m,c,B,m',c',rfl,⟨A,m,c,B,m',c',rfl,((t.f.plain u2l).slR u2l).keeps u2l (fun _ _ _ hu=>hu) (fun g hg=>⟨Nat.le_trans hh hg.1,hg.2⟩),((t.k.plain u2x).slR u2x).keeps u2x (fun _ _ _ hu=>hu) (fun g hg=>⟨Nat.le_trans hh hg.1,hg.2⟩)⟩⟩
theorem OwnL.form {α:Type} {rd:Rd α} {T sz:Nat} {w:World} {base:Nat} {v:Value} {L:List α} (h:OwnL rd T sz w base v L):∃ A m c,v=.slice A m c:=by
 obtain ⟨rows,_,_,h3⟩:=h
 rcases h3.2 with ⟨hv,_⟩ | ⟨g,cap,cur,hv,_⟩
 ·exact ⟨_,_,_,hv⟩
 ·exact ⟨_,_,_,hv⟩
theorem Two.fn {w w':World} {base:Nat} {fv fv' kv:Value} {p:Pg} {f:Fn} (t:Two w base fv kv p) (h:OwnL (rdX (fun g=>kv.ownBlock≠some g) rdF) 71 3 w' base fv' (p.fns++[f])) (hg:w.grownBy w' fv.ownBlock) (hw:fv'.ownBlock=fv.ownBlock∨fv'.ownBlock=some w.heap.size) :
  Two w' base fv' kv ⟨p.fns++[f],p.krs⟩:=by
 refine ⟨h,?_⟩
 have hap:=t.apart
 have k1:OwnL (rdX (fun g=>fv.ownBlock≠some g∧fv'.ownBlock≠some g) rdK) 75 4 w base kv p.krs:=t.k.reN u2x fun g hg1 hn=>⟨hn,fun e=>by
  rcases hw with hw | hw
  ·exact hn (hw.symm.trans e)
  ·rw [hw] at e; injection e with e; omega⟩
 have k2:=k1.other u2x hg (fun g hn=>hn.1) (by
  cases hk:kv.ownBlock with
  | none=>exact .inl rfl
  | some g =>
   rcases hap with hap | hap
   ·exact .inr (by rw [hap]; simp)
   ·exact .inr (by rw [← hk]; exact fun e=>hap e.symm))
 exact k2.reN u2x fun g _ hn=>hn.2
theorem Two.kr {w w':World} {base:Nat} {fv kv kv':Value} {p:Pg} {f:Kr} (t:Two w base fv kv p) (h:OwnL (rdX (fun g=>fv.ownBlock≠some g) rdK) 75 4 w' base kv' (p.krs++[f])) (hg:w.grownBy w' kv.ownBlock) (hw:kv'.ownBlock=kv.ownBlock∨kv'.ownBlock=some w.heap.size) :
  Two w' base fv kv' ⟨p.fns,p.krs++[f]⟩:=by
 refine ⟨?_,h⟩
 have hap:=t.apart
 have k1:OwnL (rdX (fun g=>kv.ownBlock≠some g∧kv'.ownBlock≠some g) rdF) 71 3 w base fv p.fns:=t.f.reN u2l fun g hg1 hn=>⟨hn,fun e=>by
  rcases hw with hw | hw
  ·exact hn (hw.symm.trans e)
  ·rw [hw] at e; injection e with e; omega⟩
 have k2:=k1.other u2l hg (fun g hn=>hn.1) hap
 exact k2.reN u2l fun g _ hn=>hn.2
theorem loc_own {W w1:World} {row:Option Nat} {q:Nat} {cs:Array Value} {T:TypeId} (hg:W.grownBy w1 row) (hq:W.heap[q]? = some (.cells cs T (0,0))) (hne:row≠some q) :
  (∀ j,w1.cell? ⟨q,j,none⟩=cs[j]?)∧(∀ j,w1.frozen? ⟨q,j,none⟩=false)∧q<w1.heap.size∧w1.heap[q]? = some (.cells cs T (0,0)):=by
 have h:=(hg.block q (Array.getElem?_eq_some_iff.1 hq).1 (fun e=>hne e.symm)).trans hq
 exact ⟨fun j=>cell_of_row _ _ j _ _ _ h,fun j=>by simp [World.frozen?,h],(Array.getElem?_eq_some_iff.1 h).1,h⟩
theorem p2_0 {w:World} {q:Nat} {T:TypeId} {fr:Nat × Nat} {x0 x1:Value} (v:Value) (h:w.heap[q]? = some (.cells #[x0,x1] T fr)):(w.setCell ⟨q,0,none⟩ v).heap[q]? = some (.cells #[v,x1] T fr):=by
 simp [World.setCell,Array.getElem?_modify,h]
theorem p2_1 {w:World} {q:Nat} {T:TypeId} {fr:Nat × Nat} {x0 x1:Value} (v:Value) (h:w.heap[q]? = some (.cells #[x0,x1] T fr)):(w.setCell ⟨q,1,none⟩ v).heap[q]? = some (.cells #[x0,v] T fr):=by
 simp [World.setCell,Array.getElem?_modify,h]
theorem item_len {E:Env} {i j:Nat} {x:It} (hj:j≤E.L.length) (h:u8a (E.ks.drop i)=.ok x (E.ks.drop j)):i<j:=adv_O itemP_len hj h
def ProgRel (E:Env) (w:World) (i:Nat) (wr:World):Prop:=∃ (j:Nat) (l:List It) (A:Option Addr) (m c:Nat) (B:Option Addr) (m' c':Nat),i≤j∧l.length≤j∧w.grownBy wr (some E.b)∧Ps E wr j ∧
 PP (E.ks.drop i)=(PP (E.ks.drop j)).bind (fun ss r=>.ok (l++ss) r)∧wr.heap[w.heap.size]? = some (.cells #[.slice none 0 0,.slice none 0 0] 26 (0,0))∧wr.heap[w.heap.size+1]? = some (.cells #[.slice A m c,.slice B m' c'] 26 (0,0)) ∧
 Two wr (w.heap.size+2) (.slice A m c) (.slice B m' c') (pg l)
theorem fns_len (l:List It):(pg l).fns.length≤l.length:=List.length_filterMap_le _ _
theorem krs_len (l:List It):(pg l).krs.length≤l.length:=List.length_filterMap_le _ _
theorem bind_more {l:List It} {x:It} (r:Res (List It)):((r.bind fun is q2=>.ok (x :: is) q2).bind fun ss r=>.ok (l++ss) r)=r.bind fun ss r=>.ok (l++[x]++ss) r:=by
 cases r <;> simp [Res.bind]
theorem program_any {E:Env} (hE:E.Ok) (w:World) (i:Nat) (hp0:Ps E w i) :
  Calls Tryz.prog 40 #[.pointer (some ⟨E.b,0,none⟩)] w (Fin E w (PP (E.ks.drop i)) (RpV w.heap.size)):=by
 have hsz:=hp0.sz
 have hlt:=hE.lt
 have hlen:=hE.len
 have q0:=fld0
 go_enter Tryz.func40,Tryz.ntmps40
 go_wp2_with fail
 go_loopw [9] (fun _ wr=>ProgRel E w i wr) (fun _ wr=>E.L.length - nextOf E wr)
 case atStart=>exact ⟨i,[],none,0,0,none,0,0,Nat.le_refl _,by simp,tGB,hp0.keepB hE tBEL,by simp only [List.nil_append]; exact (bind_id _).symm,tLOC,tLOC,⟨OwnL.nil _ _,OwnL.nil _ _⟩⟩
 case round =>
  obtain ⟨j,l,A,m,c,B,m',c',hij,hll,hgr,hp,hI,hq0,hq1,htwo⟩:=hrel
  have HI:=hid hI
  have HW:=hid htwo
  have hz0:=hgr.size
  have hjl:=hp.hi
  have hs1:w.heap.size+1<wr.heap.size:=(Array.getElem?_eq_some_iff.1 hq1).1
  have hfl:=fns_len l
  have hkl:=krs_len l
  clear hI htwo
  obtain ⟨t,ht⟩:=Env.at_ hp.hi
  have HT:=hid ht
  have hnx:=Env.next_ hp.hi
  by_cases hend:j=E.L.length
  ·have hk:(t.kind != -1)=false:=by
    rcases hnx with ⟨h,_⟩ | ⟨_,hu,_⟩
    ·omega
    ·rw [hu] at ht; cases ht; rfl
   have hd:E.ks.drop j=[]:=by rcases hnx with ⟨h,_⟩ | ⟨_,_,hd⟩; omega; exact hd
   have HD:=hid hd
   clear ht hnx hd
   go_wp2_with fail
   refine (u2t _ j hp t HT.out).mono ?_
   rintro e w1 ⟨rfl,hg1n⟩
   have hg1:=u1q (r:=some E.b) hg1n
   have hz1:=hg1.size
   obtain ⟨_,_,_,l1⟩:=u0a (q:=w.heap.size) hg1 hq0 tSZ
   obtain ⟨_,_,_,m1⟩:=u0a (q:=w.heap.size+1) hg1 hq1 tSZ
   go_wp2
   refine ret_pg rfl rfl rfl (put2 _ _ l1) ?_
   refine ⟨tGB,.inl ⟨l,j,_,by rw [HI.out,HD.out,PP_nil]; simp only [Res.bind,List.append_nil],(hp.keep hE hg1n).keepB hE tBEL,rfl,((HW.out.keep hg1 (by omega)).below tSZ (fun g hg1 hg2=>?_)).value (by omega)⟩⟩
   rw [Below.heap_setCell _ _ _ _ tSZ,Below.heap_setCell _ _ _ _ tSZ]
  ·have hjl2:j<E.L.length:=by omega
   have hk:(t.kind != -1)=true:=by
    rcases hnx with ⟨_,u,hu,hm,_⟩ | ⟨h,_⟩
    ·rw [hu] at ht; cases ht
     obtain ⟨hkk,_⟩:=hE.wf t hm
     rcases hkk with h | h | h <;> simp [h]
    ·omega
   have hd:(E.ks.drop j).isEmpty=false:=by
    rcases hnx with ⟨_,u,_,_,hd⟩ | ⟨h,_⟩
    ·rw [hd]; rfl
    ·omega
   have HD:=hid hd
   clear ht hnx hd
   cases hs:hit wFunc (E.ks.drop j)
   ·have HS:=hid hs
    have HIt:=hid (show u8a (E.ks.drop j)=kerR (E.ks.drop j) by rw [item_eq,hs]; rfl)
    clear hs
    go_wp2_with fail
    refine (u2t _ j hp t HT.out).mono ?_
    rintro e w1 ⟨rfl,hg1n⟩
    have hg1:=u1q (r:=some E.b) hg1n
    have hz1:=hg1.size
    have hp1:=hp.keep hE hg1n
    obtain ⟨_,_,_,l1⟩:=u0a (q:=w.heap.size) hg1 hq0 tSZ
    obtain ⟨_,_,_,m1⟩:=u0a (q:=w.heap.size+1) hg1 hq1 tSZ
    go_wp2_with fail
    refine (u4w hE _ j hp1 wFunc (by decide)).mono ?_
    rw [HS.out]
    rintro e w2 ⟨rfl,hg2n⟩
    have hg2:=u1q (r:=some E.b) hg2n
    have hz2:=hg2.size
    have hp2:=hp1.keep hE hg2n
    obtain ⟨_,_,_,l2⟩:=u0a (q:=w.heap.size) hg2 l1 tSZ
    obtain ⟨_,_,_,m2⟩:=u0a (q:=w.heap.size+1) hg2 m1 tSZ
    have HE:=hid (show PP (E.ks.drop i)=(u8a (E.ks.drop j)).bind fun x q=>(PP q).bind fun ss r=>.ok (l++[x]++ss) r by
     rw [HI.out,PP_step (E.ks.drop j),HD.out]
     simp only [Bool.false_eq_true,if_false,u1s]
     refine u1l fun x q _=>?_
     rw [← u1s,bind_more])
    go_wp2_with fail
    refine (kernel_any hE _ j hp2).mono ?_
    rintro e w3 ⟨hg3,⟨a,j3,v3,hR,hp3,rfl,⟨x,ps,sh,b,fA,fm,fc,fB,fm2,fc2,fC,fm3,fc3,rfl,rfl,hf⟩⟩ | ⟨j3,hR,hp3,rfl⟩⟩
    all_goals (have HR3:=hid (HIt.out.trans hR); clear hR; have hz3:=hg3.size; have hl:=u0a (q:=w.heap.size) hg3 l2 tSZ; have hm:=u0a (q:=w.heap.size+1) hg3 m2 tSZ; obtain ⟨_,_,_,l3⟩:=hl; obtain ⟨_,_,_,m3⟩:=hm)
    rotate_left 1
    ·go_wp2
     exact ⟨rfl,tGB,.inr ⟨j3,by rw [HE.out,HR3.out]; rfl,hp3,rfl⟩⟩
    have hj3:=item_len hp3.hi HR3.out
    have HF:=hid hf
    have HW3:=hid (((HW.out.keep hg1 (by omega)).keep hg2 (by omega)).keep hg3 (by omega))
    clear hf
    go_wp2_with (refine u2o (u5d u2x) rfl _ _ 24 rfl _ 88 info75 Tryz.underlying24 rfl (by decide) (by decide) (w.heap.size+2) _ (pg l).krs rfl ((HW3.out.k.alloc (u5d u2x) (by omega) _).alloc (u5d u2x) (by omega) _) (w3.heap.size+1) rfl #[.string (bs x),.slice fA fm fc,.slice fB fm2 fc2,.slice fC fm3 fc3] (0,0) (u0h (by rw [u0c])) rfl (by intro u hu; simp at hu; rcases hu with rfl | rfl | rfl | rfl <;> rfl) ⟨x,ps,sh,b⟩ w2.heap.size (u2x _ _ w3 _ _ _ (fun p u hp hu=>past (past hu _) _) (fun g hg=>⟨⟨hg.1,by have:=hg.2; simp only [u0c]; omega⟩,fun e=>by have:=hg.1; have hg:=e; have:=(HW.out.f.lt g hg).2; omega⟩) HF.out) (by omega) (fun g hg=>by have:=(HW.out.k.lt g hg).2; omega) (by omega) tSZ ?_; intro v' w4 hown4 hg4 hw4; obtain ⟨A4,m4,c4,hv4⟩:=hown4.form; subst hv4; have hl:=loc_own (q:=w.heap.size) hg4 tLOC (fun hg=>by have:=(HW.out.k.lt _ hg).1; omega); have hm:=loc_own (q:=w.heap.size+1) hg4 tLOC (fun hg=>by have:=(HW.out.k.lt _ hg).1; omega); obtain ⟨_,_,_,l4⟩:=hl; obtain ⟨_,_,_,m4'⟩:=hm; have HO4:=hid hown4; have HW4:=hid hw4; clear hown4 hw4)
    have hz4:=hg4.size
    (try simp only [u0c,u0i,u0p] at hz4)
    have hown0:∀ g,_=some g→w.heap.size+2≤g:=fun g hg=>(HW.out.k.lt g hg).1
    have gw4:w.grownBy w4 (some E.b):=gb_own tGB hg4 (fun g hg=>by have:=hown0 g hg; omega)
    have hp4:Ps E w4 j3:=hp3.keepB hE (Below.grown tBEL hg4 tSZ (fun k hk=>by have:=hown0 k hk; omega))
    have ht4:=Two.kr (f:=⟨x,ps,sh,b⟩) ⟨HW3.out.f.alloc (u5d u2l) (by omega) _ |>.alloc (u5d u2l) (by omega) _,HW3.out.k.alloc (u5d u2x) (by omega) _ |>.alloc (u5d u2x) (by omega) _⟩ HO4.out hg4 HW4.out
    go_roundw
    case rel =>
     refine ⟨j3,l++[.ker x ps sh b],A,m,c,A4,m4,c4,by omega,by simp; omega,tGB,hp4.keepB hE tBEL,?_,tLOC,p2_1 _ m4',?_⟩
     ·rw [HE.out,HR3.out]; rfl
     ·rw [pg_snoc]
      exact ht4.below tSZ (fun g hg1 hg2=>by rw [Below.heap_setCell _ _ _ _ tSZ])
    case measure =>
     rw [hp.nextOf,(hp4.keepB hE tBEL).nextOf]
     have:=hp3.hi
     omega
   ·have HS:=hid hs
    have HIt:=hid (show u8a (E.ks.drop j)=fnR (E.ks.drop j) by rw [item_eq,hs]; rfl)
    clear hs
    go_wp2_with fail
    refine (u2t _ j hp t HT.out).mono ?_
    rintro e w1 ⟨rfl,hg1n⟩
    have hg1:=u1q (r:=some E.b) hg1n
    have hz1:=hg1.size
    have hp1:=hp.keep hE hg1n
    obtain ⟨_,_,_,l1⟩:=u0a (q:=w.heap.size) hg1 hq0 tSZ
    obtain ⟨_,_,_,m1⟩:=u0a (q:=w.heap.size+1) hg1 hq1 tSZ
    go_wp2_with fail
    refine (u4w hE _ j hp1 wFunc (by decide)).mono ?_
    rw [HS.out]
    rintro e w2 ⟨rfl,hg2n⟩
    have hg2:=u1q (r:=some E.b) hg2n
    have hz2:=hg2.size
    have hp2:=hp1.keep hE hg2n
    obtain ⟨_,_,_,l2⟩:=u0a (q:=w.heap.size) hg2 l1 tSZ
    obtain ⟨_,_,_,m2⟩:=u0a (q:=w.heap.size+1) hg2 m1 tSZ
    have HE:=hid (show PP (E.ks.drop i)=(u8a (E.ks.drop j)).bind fun x q=>(PP q).bind fun ss r=>.ok (l++[x]++ss) r by
     rw [HI.out,PP_step (E.ks.drop j),HD.out]
     simp only [Bool.false_eq_true,if_false,u1s]
     refine u1l fun x q _=>?_
     rw [← u1s,bind_more])
    go_wp2_with fail
    refine (function_any hE _ j hp2).mono ?_
    rintro e w3 ⟨hg3,⟨a,j3,v3,hR,hp3,rfl,⟨x,ps,b,fA,fm,fc,fB,fm2,fc2,rfl,rfl,hf⟩⟩ | ⟨j3,hR,hp3,rfl⟩⟩
    all_goals (have HR3:=hid (HIt.out.trans hR); clear hR; have hz3:=hg3.size; have hl:=u0a (q:=w.heap.size) hg3 l2 tSZ; have hm:=u0a (q:=w.heap.size+1) hg3 m2 tSZ; obtain ⟨_,_,_,l3⟩:=hl; obtain ⟨_,_,_,m3⟩:=hm)
    rotate_left 1
    ·go_wp2
     exact ⟨rfl,tGB,.inr ⟨j3,by rw [HE.out,HR3.out]; rfl,hp3,rfl⟩⟩
    have hj3:=item_len hp3.hi HR3.out
    have HF:=hid hf
    have HW3:=hid (((HW.out.keep hg1 (by omega)).keep hg2 (by omega)).keep hg3 (by omega))
    clear hf
    go_wp2_with (refine u2o (u5d u2l) rfl _ _ 23 rfl _ 64 info71 Tryz.underlying23 rfl (by decide) (by decide) (w.heap.size+2) _ (pg l).fns rfl ((HW3.out.f.alloc (u5d u2l) (by omega) _).alloc (u5d u2l) (by omega) _) (w3.heap.size+1) rfl #[.string (bs x),.slice fA fm fc,.slice fB fm2 fc2] (0,0) (u0h (by rw [u0c])) rfl (by intro u hu; simp at hu; rcases hu with rfl | rfl | rfl <;> rfl) ⟨x,ps,b⟩ w2.heap.size (u2l _ _ w3 _ _ _ (fun p u hp hu=>past (past hu _) _) (fun g hg=>⟨⟨hg.1,by have:=hg.2; simp only [u0c]; omega⟩,fun e=>by have:=hg.1; have hg:=e; have:=(HW.out.k.lt g hg).2; omega⟩) HF.out) (by omega) (fun g hg=>by have:=(HW.out.f.lt g hg).2; omega) (by omega) tSZ ?_; intro v' w4 hown4 hg4 hw4; obtain ⟨A4,m4,c4,hv4⟩:=hown4.form; subst hv4; have hl:=loc_own (q:=w.heap.size) hg4 tLOC (fun hg=>by have:=(HW.out.f.lt _ hg).1; omega); have hm:=loc_own (q:=w.heap.size+1) hg4 tLOC (fun hg=>by have:=(HW.out.f.lt _ hg).1; omega); obtain ⟨_,_,_,l4⟩:=hl; obtain ⟨_,_,_,m4'⟩:=hm; have HO4:=hid hown4; have HW4:=hid hw4; clear hown4 hw4)
    have hz4:=hg4.size
    (try simp only [u0c,u0i,u0p] at hz4)
    have hown0:∀ g,_=some g→w.heap.size+2≤g:=fun g hg=>(HW.out.f.lt g hg).1
    have gw4:w.grownBy w4 (some E.b):=gb_own tGB hg4 (fun g hg=>by have:=hown0 g hg; omega)
    have hp4:Ps E w4 j3:=hp3.keepB hE (Below.grown tBEL hg4 tSZ (fun k hk=>by have:=hown0 k hk; omega))
    have ht4:=Two.fn (f:=⟨x,ps,b⟩) ⟨HW3.out.f.alloc (u5d u2l) (by omega) _ |>.alloc (u5d u2l) (by omega) _,HW3.out.k.alloc (u5d u2x) (by omega) _ |>.alloc (u5d u2x) (by omega) _⟩ HO4.out hg4 HW4.out
    go_roundw
    case rel =>
     refine ⟨j3,l++[.fn x ps b],A4,m4,c4,B,m',c',by omega,by simp; omega,tGB,hp4.keepB hE tBEL,?_,tLOC,p2_0 _ m4',?_⟩
     ·rw [HE.out,HR3.out]; rfl
     ·rw [pg_snoc]
      exact ht4.below tSZ (fun g hg1 hg2=>by rw [Below.heap_setCell _ _ _ _ tSZ])
    case measure =>
     rw [hp.nextOf,(hp4.keepB hE tBEL).nextOf]
     have:=hp3.hi
     omega
end Go.Proofs.YtbkhnilbgocpnaaGreatDoor.SynC
