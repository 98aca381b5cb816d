import Derived.Test.YtbkhnilbgocpnaaGreatDoorY0
import Derived.Test.YtbkhnilbgocpnaaGreatDoorY61
import Derived.Test.YtbkhnilbgocpnaaGreatDoorY8
import Derived.Test.YtbkhnilbgocpnaaGreatDoorY9
import Derived.Test.YtbkhnilbgocpnaaGreatDoorY41
import Derived.Test.YtbkhnilbgocpnaaGreatDoorY53
import Derived.Test.YtbkhnilbgocpnaaGreatDoorY54
set_option linter.unusedVariables false
set_option linter.unusedSimpArgs false
set_option maxRecDepth 100000
set_option maxHeartbeats 2000000
open Go.Lib (hid)
namespace Go.Proofs.YtbkhnilbgocpnaaGreatDoor.SynC
open Go.Proofs.YtbkhnilbgocpnaaGreatDoor.LexC
open Go Go.ChangeShapes Go.WideShapes Go.ChangeAt Go.RowKit Go.Deep
def VPm (_:World) (v:Value) (a:List UInt8 × Bool):Prop:=v=.agg #[.string (bs a.1),.bool a.2]
theorem mk_end {α β:Type} {E:Rv} {i j j2:Nat} {b b' b2:Bool} {a:α} {u:Unit} {s:List UInt8} (h2:at0 E j b' (u1k s)=mkR b2 u (E.ks.drop j2)) (g:α→β) :
  (mkR b' a (E.ks.drop j)).bind (fun e r=>(u1k s r).bind fun _ q=>.ok (g e) q)=mkR b2 (g a) (E.ks.drop j2):=by
 rw [u1i h2]
 exact u3j fun _=>g a
theorem more_need {α:Type} {one:List K→Res α} (ho:LenO one) {l:List K} (h:hit [44] l=false):moreR one l=(u1k [41] l).bind fun _ q=>.ok [] q:=by
 rw [u9k ho,h]
 simp only [Bool.false_eq_true,if_false]
 cases h1:hit [41] l
 ·cases l with
  | nil=>rfl
  | cons t r=>unfold u1k need; simp only [hit] at h1; simp [h1]; rfl
 ·obtain ⟨n,r,rfl⟩:=hit_cons h1
  rfl
theorem more_hit {α:Type} {one:List K→Res α} (ho:LenO one) {E:Rv} {j:Nat} (hj:j≤E.L.length) (h:hit [44] (E.ks.drop j)=true):moreR one (E.ks.drop j)=u5e one (E.ks.drop (j+1)):=by
 rw [u9k ho,h,if_pos rfl,List.drop_drop]; rfl
def soFar {α:Type} (one:List K→Res α) (b:Bool) (L:List α) (l:List K):Res (List α):=(mkR b L l).bind fun L r=>(moreR one r).bind fun zs q=>.ok (L++zs) q
theorem sofar_item {α:Type} {one:List K→Res α} {E:Rv} {j k:Nat} {b b2:Bool} {L:List α} {a:α} (h:at0 E j b one=mkR b2 a (E.ks.drop k)) :
  (mkR b L (E.ks.drop j)).bind (fun L r=>(u5e one r).bind fun zs q=>.ok (L++zs) q)=soFar one b2 (L++[a]) (E.ks.drop k):=by
 unfold soFar u5e
 cases b
 ·rw [u0l] at h
  rw [u1p,u0z,h,u0y]
  cases b2
  ·simp only [u1p,u0z,u0y,List.append_assoc,List.singleton_append]
  ·rfl
 ·rw [u8g] at h
  cases b2
  ·cases h
  ·rw [mk_true] at h ⊢; injection h with h; rw [h]; rfl
theorem sofar_end {α:Type} {one:List K→Res α} (ho:LenO one) {E:Rv} {j k:Nat} {b b2:Bool} {L:List α} {u:Unit} (hh:b=true∨hit [44] (E.ks.drop j)=false) (h:at0 E j b (u1k [41])=mkR b2 u (E.ks.drop k)):soFar one b L (E.ks.drop j)=mkR b2 L (E.ks.drop k):=by
 have:soFar one b L (E.ks.drop j)=(mkR b L (E.ks.drop j)).bind fun L r=>(u1k [41] r).bind fun _ q=>.ok L q:=by
  unfold soFar
  cases b
  ·rcases hh with hh | hh
   ·cases hh
   ·rw [u1p,u0z,u0z,more_need ho hh,u0y]
    simp only [u0z,List.append_nil]
  ·rfl
 rw [this]
 exact mk_end (i:=0) (b:=false) h id
theorem rparam {E:Rv} (hE:E.Ok) (w:World) (i:Nat) (b:Bool) (hp0:Rp E w i b):Calls Tryz.prog 176 #[.pointer (some ⟨E.b,0,none⟩)] w (Ro E w (at0 E i b parR) VPm):=by
 have hsz:=hp0.sz
 have hlt:=hE.lt
 have hi:=hp0.hi
 have lE:=hp0.lt
 have HP:=hid (hp0.keep hE (show Below E.base w (w.alloc (.cells #[.string ⟨#[]⟩,.bool false] 92)) from tBEL))
 clear hp0
 cases hh:hitB E i b u7u
 ·have HH:=hid hh
  have HT:Hid (at0 E i b parR=at0 E i b fun l=>(u1k wInt l).bind fun _ r=>(needN' r).bind fun x q=>.ok (x,false) q):=hid (by
   cases b
   ·have:hit u7u (E.ks.drop i)=false:=by simpa [hitB] using hh
    rw [u0l,u0l]
    unfold parR
    rw [this]; rfl
   ·rfl)
  clear hh
  go_enter Tryz.func176,Tryz.ntmps176
  go_wp2_with fail
  refine (u1f hE _ i b HP.out [98,117,102,102,101,114] HH.out).mono ?_
  rintro e w1 ⟨g1,rfl,p1⟩
  have z1:=g1.size
  simp only [u0e] at z1
  have l1:=hkeep (q:=w.heap.size) g1 (u0c _ _) (by omega)
  go_wp2_with fail
  refine (rneed hE _ i b p1 [105,110,116]).mono ?_
  rintro e w2 ⟨g2,b2,j2,v2,u2,hR,p2,rfl,rfl⟩
  have R2:=hid (show at0 E i b (u1k wInt)=mkR b2 u2 (E.ks.drop j2) from hR)
  have z2:=g2.size
  have l2:=hkeep (q:=w.heap.size) g2 l1 (by omega)
  clear hR
  go_wp2_with fail
  refine (rname hE _ j2 b2 p2).mono ?_
  rintro e w3 ⟨g3,b3,j3,v3,x3,hR,p3,rfl,rfl⟩
  have R3:=hid hR
  have z3:=g3.size
  have l3:=hkeep (q:=w.heap.size) g3 l2 (by omega)
  obtain ⟨c3,f3,_⟩:=u0i l3
  clear hR
  have HM:=hid (show at0 E i b parR=mkR b3 (x3,false) (E.ks.drop j3) by
   rw [HT.out,u1y R2.out,u1i R3.out]
   exact u3j fun x=>(x,false))
  go_wp2_with (refine ret_pm rfl rfl rfl tRES ?_; exact ⟨tGB,b3,j3,_,_,HM.out,p3.keep hE tBEL,rfl,rfl⟩)
 ·have HH:=hid hh
  obtain ⟨rfl,h1,hil⟩:=u2n hh
  have HT:Hid (at0 E i false parR=at0 E (i+1) false fun r=>(needN' r).bind fun x q=>.ok (x,true) q):=hid (by
   rw [u0l,u0l]
   unfold parR
   rw [h1,if_pos rfl,List.drop_drop])
  clear hh h1
  go_enter Tryz.func176,Tryz.ntmps176
  go_wp2_with fail
  refine (u5m hE _ i false HP.out [98,117,102,102,101,114] HH.out).mono ?_
  rintro e w1 ⟨g1,rfl,p1⟩
  have z1:=g1.size
  simp only [u0e] at z1
  have l1:=hkeep (q:=w.heap.size) g1 (u0c _ _) (by omega)
  go_wp2_with fail
  refine (rname hE _ (i+1) false p1).mono ?_
  rintro e w3 ⟨g3,b3,j3,v3,x3,hR,p3,rfl,rfl⟩
  have R3:=hid hR
  have z3:=g3.size
  have l3:=hkeep (q:=w.heap.size) g3 l1 (by omega)
  obtain ⟨c3,f3,_⟩:=u0i l3
  clear hR
  have HM:=hid (show at0 E i false parR=mkR b3 (x3,true) (E.ks.drop j3) by
   rw [HT.out,u1y R3.out]
   exact u3j fun x=>(x,true))
  go_wp2_with (refine ret_pm rfl rfl rfl tRES ?_; exact ⟨tGB,b3,j3,_,_,HM.out,p3.keep hE tBEL,rfl,rfl⟩)
theorem parR_len:LenO parR:=fun l a r h=>u6h l a r (by rw [par_eq]; exact h)
theorem rnameO {E:Rv} (hE:E.Ok) (w:World) (i:Nat) (b:Bool) (h:Rp E w i b):Calls Tryz.prog 81 #[.pointer (some ⟨E.b,0,none⟩)] w (Ro E w (at0 E i b u6x) VN):=rname hE w i b h
theorem rnames {E:Rv} (hE:E.Ok) (w:World) (i:Nat) (b:Bool) (hp0:Rp E w i b):Calls Tryz.prog 82 #[.pointer (some ⟨E.b,0,none⟩)] w (Ro E w (at0 E i b (u6s u6x)) (SrV rdN 1 w.heap.size)):=by
 have hsz:=hp0.sz
 have hlt:=hE.lt
 have hlen:=hE.len
 have HP:=hid hp0
 have lE:=hp0.lt
 clear hp0
 go_enter Tryz.func82,Tryz.ntmps82
 go_wp2_with fail
 refine (rneed hE _ i b HP.out [40]).mono ?_
 rintro e w1 ⟨g1,b1,j1,v1,u1,hR,p1,rfl,rfl⟩
 have R1:=hid hR
 have z1:=g1.size
 have hj1:=p1.hi
 clear hR
 go_wp2_with fail
 refine (reat hE _ j1 b1 p1 [41]).mono ?_
 rintro e w2 ⟨g2,⟨hh,rfl,p2⟩ | ⟨hh,rfl,p2⟩⟩
 ·obtain ⟨rfl,h1,hil⟩:=u2n hh
  have HM:=hid (show at0 E i b (u6s u6x)=mkR false [] (E.ks.drop (j1+1)) by
   show at0 E i b (fun l=>(u1k [40] l).bind fun _ r=>if hit [41] r then .ok [] (r.drop 1) else u5e u6x r)=_
   rw [u1y R1.out,u1p,u0z,if_pos h1,List.drop_drop]; rfl)
  clear h1 hh
  go_wp2
  go_ret
  exact ⟨tGB,false,j1+1,_,[],HM.out,p2,rfl,⟨none,0,0,rfl,sr_nil⟩⟩
 have HT:=hid (show at0 E i b (u6s u6x)=(mkR b1 ([]:List (List UInt8)) (E.ks.drop j1)).bind (fun L r=>(u5e u6x r).bind fun zs q=>.ok (L++zs) q) by
  show at0 E i b (fun l=>(u1k [40] l).bind fun _ r=>if hit [41] r then .ok [] (r.drop 1) else u5e u6x r)=_
  rw [u1y R1.out]
  cases b1
  ·have h1:hit [41] (E.ks.drop j1)=false:=by simpa [hitB] using hh
   rw [u1p,u1p,u0z,u0z,h1]
   simp only [Bool.false_eq_true,if_false,List.nil_append]
   exact (u9f _).symm
  ·rfl)
 have G2:=hid (u0b g1 g2)
 have z2:=g2.size
 clear hh
 go_wp2_with fail
 refine (rnameO hE _ j1 b1 p2).mono ?_
 rintro e w3 ⟨g3,b3,j3,v3,a3,hR,p3,rfl,rfl⟩
 have R3:=hid hR
 have HI:=hid (HT.out.trans (sofar_item (L:=[]) R3.out))
 have z3:=g3.size
 clear hR
 go_wp2_with (refine u1r u2t rfl _ _ 68 rfl _ 16 info9 Tryz.underlying68 rfl (by decide) (by decide) w.heap.size _ ([]:List (List UInt8)) rfl (OwnL.nil _ _) w3.heap.size rfl #[.string (bs a3)] (0,0) (u0c _ _) rfl (by intro u hu; simp at hu; subst hu; rfl) a3 w3.heap.size rfl (by omega) (fun g hg=>by cases hg) (by simp) tSZ ?_; intro v' w4 hown4 hg4 _; have HO4:=hid hown4; clear hown4)
 have z4:=hg4.size
 (try simp only [u0e,u0h,u0m] at z4)
 have G4:=hid (show w.grownBy w4 (some E.b) from u7p (u0o (u0b G2.out g3) _) hg4 (fun g hg=>by cases hg))
 have p4:Rp E w4 j3 b3:=(p3.keep hE (show Below E.base w3 (w3.alloc _) from tBEL)).grown hE hg4 (fun g hg=>by cases hg)
 have P4:=hid p4
 obtain ⟨A4,n4,c4,hv4⟩:=(HO4.out.slR u2t).form
 subst hv4
 have hj3:=fun hb:b3=false=>mk_adv p3.hi (fun l a r h=>by have:=u4k l a r h; omega) R3.out hb
 have H3:=hid hj3
 clear hj3 p4 p3 hg4 g3 g2 g1 p1 p2 HT R3
 go_wp2_with fail
 go_loopw [3] (fun v wr=>∃ (j:Nat) (d:Bool) (L:List (List UInt8)) (A:Option Addr) (m c:Nat),v=.slice A m c∧(d=false→L.length≤j)∧L.length≤E.L.length+1∧w.grownBy wr (some E.b)∧Rp E wr j d∧at0 E i b (u6s u6x)=soFar u6x d L (E.ks.drop j)∧OwnL rdN 9 1 wr w.heap.size (.slice A m c) L) (fun _ wr=>muR E wr)
 case atStart=>exact ⟨j3,b3,[a3],A4,n4,c4,rfl,fun hb=>by have:=H3.out hb; simp; omega,by simp,G4.out,P4.out,HI.out,HO4.out⟩
 case round =>
  obtain ⟨j,d,L,A,m,c,rfl,hlj,hkl,hgr,hp,hI,hown⟩:=hrel
  have HJ:=hid hI
  have HO:=hid hown
  have HPR:=hid hp
  have hz0:=hgr.size
  have hjl:=hp.hi
  obtain ⟨c0,c1,c2,f1,f2⟩:=hp.c
  clear hI hown hp c0 c1 f1 f2
  cases d
  ·have hlj2:=hlj rfl
   clear hlj
   go_wp2_with fail
   refine (reat hE _ j false HPR.out [44]).mono ?_
   rintro e y1 ⟨gy1,⟨hh,rfl,py1⟩ | ⟨hh,rfl,py1⟩⟩
   ·obtain ⟨_,h44,hil⟩:=u2n hh
    have HK:=hid (show at0 E i b (u6s u6x)=(mkR false L (E.ks.drop (j+1))).bind (fun L r=>(u5e u6x r).bind fun zs q=>.ok (L++zs) q) by
     rw [HJ.out]
     unfold soFar
     rw [u1p,u0z,more_hit u4k (by omega) h44]; rfl)
    have zy1:=gy1.size
    clear h44 hh
    go_wp2_with fail
    refine (rnameO hE _ (j+1) false py1).mono ?_
    rintro e y3 ⟨gy3,b5,j5,v5,a5,hR,py3,rfl,rfl⟩
    have R5:=hid hR
    have HI5:=hid (HK.out.trans (sofar_item R5.out))
    have zy3:=gy3.size
    have HO5:=hid (((HO.out.keep u2t gy1 (by omega)).keep u2t gy3 (by omega)).alloc u2t (by omega) (.cells #[.string (bs a5)] 9))
    have GY:=hid (u0b (u0b hgr gy1) gy3)
    clear hR
    go_wp2_with (refine u1r u2t rfl _ _ 68 rfl _ 16 info9 Tryz.underlying68 rfl (by decide) (by decide) w.heap.size _ L rfl HO5.out y3.heap.size rfl #[.string (bs a5)] (0,0) (u0c _ _) rfl (by intro u hu; simp at hu; subst hu; rfl) a5 y3.heap.size rfl (by omega) (fun g hg=>by have:=(HO.out.lt g hg).2; omega) (by omega) tSZ ?_; intro v' w6 hown6 hg6 _; have HO6:=hid hown6; clear hown6)
    have z6:=hg6.size
    (try simp only [u0e,u0h,u0m] at z6)
    have hown0:=fun g hg=>(HO.out.lt g hg).1
    have G6:=hid (show w.grownBy w6 (some E.b) from u7p (u0o GY.out _) hg6 hown0)
    have p6:Rp E w6 j5 b5:=(py3.keep hE (show Below E.base y3 (y3.alloc _) from tBEL)).grown hE hg6 (fun g hg=>by have:=hown0 g hg; omega)
    obtain ⟨A6,n6,c6,hv6⟩:=(HO6.out.slR u2t).form
    subst hv6
    have hj5:=fun hb:b5=false=>mk_adv py3.hi (fun l a r h=>by have:=u4k l a r h; omega) R5.out hb
    have hj5l:=py3.hi
    go_roundw
    case rel=>exact ⟨j5,b5,L++[a5],A6,n6,c6,rfl,fun hb=>by have:=hj5 hb; simp; omega,by simp; omega,G6.out,p6,HI5.out,HO6.out⟩
    case measure =>
     rw [HPR.out.mu,p6.mu]
     cases b5
     ·have:=hj5 rfl
      simp; omega
     ·simp; omega
   ·have h44:hit [44] (E.ks.drop j)=false:=by simpa [hitB] using hh
    have HN:=hid h44
    have zy1:=gy1.size
    clear hh h44
    go_wp2_with fail
    refine (rneed hE _ j false py1 [41]).mono ?_
    rintro e y2 ⟨gy2,b5,j5,v5,u5,hR,py2,rfl,rfl⟩
    have HM:=hid (HJ.out.trans (sofar_end u4k (.inr HN.out) hR))
    have hS:=((HO.out.keep u2t gy1 (by omega)).keep u2t gy2 (by omega)).slR u2t
    clear hR
    go_wp2
    go_ret
    exact ⟨tGB,b5,j5,_,L,HM.out,py2,rfl,⟨A,m,c,rfl,hS⟩⟩
  ·go_wp2_with fail
   refine (rneed hE _ j true HPR.out [41]).mono ?_
   rintro e y2 ⟨gy2,b5,j5,v5,u5,hR,py2,rfl,rfl⟩
   have HM:=hid (HJ.out.trans (sofar_end u4k (.inl rfl) hR))
   have hS:=(HO.out.keep u2t gy2 (by omega)).slR u2t
   clear hR
   go_wp2
   go_ret
   exact ⟨tGB,b5,j5,_,L,HM.out,py2,rfl,⟨A,m,c,rfl,hS⟩⟩
theorem rparams {E:Rv} (hE:E.Ok) (w:World) (i:Nat) (b:Bool) (hp0:Rp E w i b):Calls Tryz.prog 139 #[.pointer (some ⟨E.b,0,none⟩)] w (Ro E w (at0 E i b (u6s parR)) (SrV rdP 2 w.heap.size)):=by
 have hsz:=hp0.sz
 have hlt:=hE.lt
 have hlen:=hE.len
 have HP:=hid hp0
 have lE:=hp0.lt
 clear hp0
 go_enter Tryz.func139,Tryz.ntmps139
 go_wp2_with fail
 refine (rneed hE _ i b HP.out [40]).mono ?_
 rintro e w1 ⟨g1,b1,j1,v1,u1,hR,p1,rfl,rfl⟩
 have R1:=hid hR
 have z1:=g1.size
 have hj1:=p1.hi
 clear hR
 go_wp2_with fail
 refine (reat hE _ j1 b1 p1 [41]).mono ?_
 rintro e w2 ⟨g2,⟨hh,rfl,p2⟩ | ⟨hh,rfl,p2⟩⟩
 ·obtain ⟨rfl,h1,hil⟩:=u2n hh
  have HM:=hid (show at0 E i b (u6s parR)=mkR false [] (E.ks.drop (j1+1)) by
   show at0 E i b (fun l=>(u1k [40] l).bind fun _ r=>if hit [41] r then .ok [] (r.drop 1) else u5e parR r)=_
   rw [u1y R1.out,u1p,u0z,if_pos h1,List.drop_drop]; rfl)
  clear h1 hh
  go_wp2
  go_ret
  exact ⟨tGB,false,j1+1,_,[],HM.out,p2,rfl,⟨none,0,0,rfl,sr_nil⟩⟩
 have HT:=hid (show at0 E i b (u6s parR)=(mkR b1 ([]:List (List UInt8 × Bool)) (E.ks.drop j1)).bind (fun L r=>(u5e parR r).bind fun zs q=>.ok (L++zs) q) by
  show at0 E i b (fun l=>(u1k [40] l).bind fun _ r=>if hit [41] r then .ok [] (r.drop 1) else u5e parR r)=_
  rw [u1y R1.out]
  cases b1
  ·have h1:hit [41] (E.ks.drop j1)=false:=by simpa [hitB] using hh
   rw [u1p,u1p,u0z,u0z,h1]
   simp only [Bool.false_eq_true,if_false,List.nil_append]
   exact (u9f _).symm
  ·rfl)
 have G2:=hid (u0b g1 g2)
 have z2:=g2.size
 clear hh
 go_wp2_with fail
 refine (rparam hE _ j1 b1 p2).mono ?_
 rintro e w3 ⟨g3,b3,j3,v3,a3,hR,p3,rfl,rfl⟩
 have R3:=hid hR
 have HI:=hid (HT.out.trans (sofar_item (L:=[]) R3.out))
 have z3:=g3.size
 clear hR
 go_wp2_with (refine u1r u2l rfl _ _ 72 rfl _ 24 info92 Tryz.underlying72 rfl (by decide) (by decide) w.heap.size _ ([]:List (List UInt8 × Bool)) rfl (OwnL.nil _ _) w3.heap.size rfl #[.string (bs a3.1),.bool a3.2] (0,0) (u0c _ _) rfl (by intro u hu; simp at hu; rcases hu with rfl | rfl <;> rfl) a3 w3.heap.size rfl (by omega) (fun g hg=>by cases hg) (by simp) tSZ ?_; intro v' w4 hown4 hg4 _; have HO4:=hid hown4; clear hown4)
 have z4:=hg4.size
 (try simp only [u0e,u0h,u0m] at z4)
 have G4:=hid (show w.grownBy w4 (some E.b) from u7p (u0o (u0b G2.out g3) _) hg4 (fun g hg=>by cases hg))
 have p4:Rp E w4 j3 b3:=(p3.keep hE (show Below E.base w3 (w3.alloc _) from tBEL)).grown hE hg4 (fun g hg=>by cases hg)
 have P4:=hid p4
 obtain ⟨A4,n4,c4,hv4⟩:=(HO4.out.slR u2l).form
 subst hv4
 have hj3:=fun hb:b3=false=>mk_adv p3.hi (fun l a r h=>by have:=parR_len l a r h; omega) R3.out hb
 have H3:=hid hj3
 clear hj3 p4 p3 hg4 g3 g2 g1 p1 p2 HT R3
 go_wp2_with fail
 go_loopw [3] (fun v wr=>∃ (j:Nat) (d:Bool) (L:List (List UInt8 × Bool)) (A:Option Addr) (m c:Nat),v=.slice A m c∧(d=false→L.length≤j)∧L.length≤E.L.length+1∧w.grownBy wr (some E.b)∧Rp E wr j d∧at0 E i b (u6s parR)=soFar parR d L (E.ks.drop j)∧OwnL rdP 92 2 wr w.heap.size (.slice A m c) L) (fun _ wr=>muR E wr)
 case atStart=>exact ⟨j3,b3,[a3],A4,n4,c4,rfl,fun hb=>by have:=H3.out hb; simp; omega,by simp,G4.out,P4.out,HI.out,HO4.out⟩
 case round =>
  obtain ⟨j,d,L,A,m,c,rfl,hlj,hkl,hgr,hp,hI,hown⟩:=hrel
  have HJ:=hid hI
  have HO:=hid hown
  have HPR:=hid hp
  have hz0:=hgr.size
  have hjl:=hp.hi
  obtain ⟨c0,c1,c2,f1,f2⟩:=hp.c
  clear hI hown hp c0 c1 f1 f2
  cases d
  ·have hlj2:=hlj rfl
   clear hlj
   go_wp2_with fail
   refine (reat hE _ j false HPR.out [44]).mono ?_
   rintro e y1 ⟨gy1,⟨hh,rfl,py1⟩ | ⟨hh,rfl,py1⟩⟩
   ·obtain ⟨_,h44,hil⟩:=u2n hh
    have HK:=hid (show at0 E i b (u6s parR)=(mkR false L (E.ks.drop (j+1))).bind (fun L r=>(u5e parR r).bind fun zs q=>.ok (L++zs) q) by
     rw [HJ.out]
     unfold soFar
     rw [u1p,u0z,more_hit parR_len (by omega) h44]; rfl)
    have zy1:=gy1.size
    clear h44 hh
    go_wp2_with fail
    refine (rparam hE _ (j+1) false py1).mono ?_
    rintro e y3 ⟨gy3,b5,j5,v5,a5,hR,py3,rfl,rfl⟩
    have R5:=hid hR
    have HI5:=hid (HK.out.trans (sofar_item R5.out))
    have zy3:=gy3.size
    have HO5:=hid (((HO.out.keep u2l gy1 (by omega)).keep u2l gy3 (by omega)).alloc u2l (by omega) (.cells #[.string (bs a5.1),.bool a5.2] 92))
    have GY:=hid (u0b (u0b hgr gy1) gy3)
    clear hR
    go_wp2_with (refine u1r u2l rfl _ _ 72 rfl _ 24 info92 Tryz.underlying72 rfl (by decide) (by decide) w.heap.size _ L rfl HO5.out y3.heap.size rfl #[.string (bs a5.1),.bool a5.2] (0,0) (u0c _ _) rfl (by intro u hu; simp at hu; rcases hu with rfl | rfl <;> rfl) a5 y3.heap.size rfl (by omega) (fun g hg=>by have:=(HO.out.lt g hg).2; omega) (by omega) tSZ ?_; intro v' w6 hown6 hg6 _; have HO6:=hid hown6; clear hown6)
    have z6:=hg6.size
    (try simp only [u0e,u0h,u0m] at z6)
    have hown0:=fun g hg=>(HO.out.lt g hg).1
    have G6:=hid (show w.grownBy w6 (some E.b) from u7p (u0o GY.out _) hg6 hown0)
    have p6:Rp E w6 j5 b5:=(py3.keep hE (show Below E.base y3 (y3.alloc _) from tBEL)).grown hE hg6 (fun g hg=>by have:=hown0 g hg; omega)
    obtain ⟨A6,n6,c6,hv6⟩:=(HO6.out.slR u2l).form
    subst hv6
    have hj5:=fun hb:b5=false=>mk_adv py3.hi (fun l a r h=>by have:=parR_len l a r h; omega) R5.out hb
    have hj5l:=py3.hi
    go_roundw
    case rel=>exact ⟨j5,b5,L++[a5],A6,n6,c6,rfl,fun hb=>by have:=hj5 hb; simp; omega,by simp; omega,G6.out,p6,HI5.out,HO6.out⟩
    case measure =>
     rw [HPR.out.mu,p6.mu]
     cases b5
     ·have:=hj5 rfl
      simp; omega
     ·simp; omega
   ·have h44:hit [44] (E.ks.drop j)=false:=by simpa [hitB] using hh
    have HN:=hid h44
    have zy1:=gy1.size
    clear hh h44
    go_wp2_with fail
    refine (rneed hE _ j false py1 [41]).mono ?_
    rintro e y2 ⟨gy2,b5,j5,v5,u5,hR,py2,rfl,rfl⟩
    have HM:=hid (HJ.out.trans (sofar_end parR_len (.inr HN.out) hR))
    have hS:=((HO.out.keep u2l gy1 (by omega)).keep u2l gy2 (by omega)).slR u2l
    clear hR
    go_wp2
    go_ret
    exact ⟨tGB,b5,j5,_,L,HM.out,py2,rfl,⟨A,m,c,rfl,hS⟩⟩
  ·go_wp2_with fail
   refine (rneed hE _ j true HPR.out [41]).mono ?_
   rintro e y2 ⟨gy2,b5,j5,v5,u5,hR,py2,rfl,rfl⟩
   have HM:=hid (HJ.out.trans (sofar_end parR_len (.inl rfl) hR))
   have hS:=(HO.out.keep u2l gy2 (by omega)).slR u2l
   clear hR
   go_wp2
   go_ret
   exact ⟨tGB,b5,j5,_,L,HM.out,py2,rfl,⟨A,m,c,rfl,hS⟩⟩
theorem p4_1 {w:World} {q:Nat} {a b c d:Value} {T:TypeId} {fr:Nat × Nat} (v:Value) (h:w.heap[q]? = some (.cells #[a,b,c,d] T fr)):(w.setCell ⟨q,1,none⟩ v).heap[q]? = some (.cells #[a,v,c,d] T fr):=by
 simp only [World.setCell,Array.getElem?_modify,if_true,h]; rfl
theorem p4_2 {w:World} {q:Nat} {a b c d:Value} {T:TypeId} {fr:Nat × Nat} (v:Value) (h:w.heap[q]? = some (.cells #[a,b,c,d] T fr)):(w.setCell ⟨q,2,none⟩ v).heap[q]? = some (.cells #[a,b,v,d] T fr):=by
 simp only [World.setCell,Array.getElem?_modify,if_true,h]; rfl
def kerX (l:List K):Res Kr:=(needN' l).bind fun x r1=>(u6s parR r1).bind fun ps r2=>(u1k [123] r2).bind fun _ r3=>(u9c r3).bind fun sh r5=>(PR r5).bind fun b r6=>.ok ⟨x,ps,sh,b⟩ r6
def RkX (h:Nat) (w:World) (v:Value) (f:Kr):Prop:=∃ A m c B m' c' C m'' c'',v=.agg #[.string (bs f.name),.slice A m c,.slice B m' c',.slice C m'' c''] ∧
 rdK (fun g=>h≤g∧g<w.heap.size) w [.string (bs f.name),.slice A m c,.slice B m' c',.slice C m'' c''] f
def soSh (x:List UInt8) (ps:List (List UInt8 × Bool)) (d:Bool) (L:List (List UInt8 × Int)) (l:List K):Res Kr :=
 (mkR d L l).bind fun L r=>(u9c r).bind fun zs r5=>(PR r5).bind fun b r6=>.ok ⟨x,ps,L++zs,b⟩ r6
theorem soSh_more {E:Rv} {x:List UInt8} {ps:List (List UInt8 × Bool)} {L:List (List UInt8 × Int)} {j:Nat} (hj:j≤E.L.length) (h:hit u4e (E.ks.drop j)=true):soSh x ps false L (E.ks.drop j) =
  at0 E (j+1) false (fun l=>(needN' l).bind fun y r1=>(u1k [91] r1).bind fun _ r2=>(needI' r2).bind fun n r3=>(u1k [93] r3).bind fun _ r4=>(u1k [59] r4).bind fun _ r5=>soSh x ps false (L++[(y,n)]) r5):=by
 rw [u0l]
 unfold soSh
 rw [u1p,u0z,u7k,if_pos h]
 simp only [arrR,rneedS_yes h hj,u0y,u0z,u1p,List.append_assoc,List.singleton_append]
theorem soSh_from {x:List UInt8} {ps:List (List UInt8 × Bool)} {L:List (List UInt8 × Int)} {b:Bool} {u:Unit} {l:List K}:(mkR b u l).bind (fun _ r=>soSh x ps false L r)=soSh x ps b L l:=by cases b <;> rfl
theorem soSh_end {E:Rv} {x:List UInt8} {ps:List (List UInt8 × Bool)} {L:List (List UInt8 × Int)} {j k:Nat} {d b2:Bool} {B:List St} (hh:d=true∨hit u4e (E.ks.drop j)=false) (h:at0 E j d PR=mkR b2 B (E.ks.drop k)) :
  soSh x ps d L (E.ks.drop j)=mkR b2 ⟨x,ps,L,B⟩ (E.ks.drop k):=by
 unfold soSh
 cases d
 ·rcases hh with hh | hh
  ·cases hh
  ·rw [u0l] at h
   rw [u1p,u0z,u7k,hh]
   simp only [Bool.false_eq_true,if_false,u0z,List.append_nil]
   rw [h]
   exact u3j fun B=>(⟨x,ps,L,B⟩:Kr)
 ·rw [u8g] at h
  cases b2
  ·cases h
  ·rw [mk_true] at h ⊢; injection h with h; rw [h]; rfl
theorem rint_wrap {E:Rv} (hN:∀ t∈E.L,-2147483648≤t.num∧t.num<2147483648) {i j:Nat} {b b':Bool} {a:Int} (h:at0 E i b needI'=mkR b' a (E.ks.drop j)):at0 E i b needI'=mkR b' (wrap64 a) (E.ks.drop j):=by
 cases b'
 ·cases b
  ·rw [u0l] at h
   have hr:-2147483648≤a∧a<2147483648:=by
    unfold needI' needI at h
    cases hl:E.ks.drop i with
    | nil=>rw [hl] at h; cases h
    | cons t r =>
     rw [hl] at h
     simp only at h
     split at h
     ·rw [u1p] at h
      injection h with h1 _
      have hm:t∈E.ks:=List.mem_of_mem_drop (by rw [hl]; simp)
      obtain ⟨u,hu,rfl⟩:=List.mem_map.1 hm
      rw [← h1]
      exact hN u hu
     ·cases h
   rw [u0l,h,show wrap64 a=a from by simp only [wrap64]; omega]
  ·cases h
 ·rw [h,mk_true,mk_true]
theorem u7j {α:Type} {E:Rv} {i j:Nat} {b b':Bool} {a:α} {f:List K→Res α} (hj:j≤E.L.length) (hf:∀ l a r,f l=.ok a r→r.length<l.length) (h:at0 E i b f=mkR b' a (E.ks.drop j)) (hb:b'=false):b=false∧i<j:=by
 refine ⟨?_,mk_adv hj hf h hb⟩
 cases b
 ·rfl
 ·subst hb
  cases h
structure Kb (w2:World) (b q:Nat) (wr:World):Prop where
 sz:w2.heap.size≤wr.heap.size
 blk:∀ g,g<w2.heap.size→g≠b→g≠q→wr.heap[g]? = w2.heap[g]?
theorem Kb.grown {w2 wr w':World} {b q:Nat} {r:Option Nat} (h:Kb w2 b q wr) (hg:wr.grownBy w' r) (hr:∀ g,r=some g→w2.heap.size≤g∨g=b∨g=q):Kb w2 b q w' :=
 ⟨Nat.le_trans h.sz hg.size,fun g h1 h2 h3=>(hg.block g (Nat.lt_of_lt_of_le h1 h.sz) (fun e=>by rcases hr g e.symm with h | h | h <;> omega)).trans (h.blk g h1 h2 h3)⟩
theorem Kb.call {w2 wr w':World} {b q:Nat} (h:Kb w2 b q wr) (hg:wr.grownBy w' (some b)):Kb w2 b q w':=h.grown hg fun g e=>by cases e; exact .inr (.inl rfl)
theorem Kb.own {w2 wr w':World} {b q:Nat} {r:Option Nat} (h:Kb w2 b q wr) (hg:wr.grownBy w' r) (hr:∀ g,r=some g→w2.heap.size≤g):Kb w2 b q w':=h.grown hg fun g e=>.inl (hr g e)
theorem Kb.alloc {w2 wr:World} {b q:Nat} (h:Kb w2 b q wr) (o:Obj):Kb w2 b q (wr.alloc o):=h.own (r:=none) (World.grownBy_alloc wr o none) fun g e=>by cases e
theorem Kb.set {w2 wr:World} {b q:Nat} (h:Kb w2 b q wr) (p:Addr) (v:Value) (hp:w2.heap.size≤p.block∨p.block=b∨p.block=q):Kb w2 b q (wr.setCell p v) :=
 h.grown (r:=some p.block) (u1a (u0q _ _) (.inl rfl) _) fun g e=>by cases e; exact hp
theorem Kb.sl {α:Type} {rd:Rd α} {sz:Nat} (ok:rd.Ok) {w2 wr:World} {b q lo:Nat} (h:Kb w2 b q wr) (hb:b<lo) (hq:q<lo) {v:Value} {L:List α} (hs:SlR rd sz (fun g=>lo≤g∧g<w2.heap.size) w2 v L) :
  SlR rd sz (fun g=>lo≤g∧g<wr.heap.size) wr v L :=
 hs.keeps ok (fun p u hp hu=>(World.cell?_of_block (h.blk p.block hp.2 (by omega) (by omega))).trans hu) (fun g hg=>⟨hg.1,Nat.lt_of_lt_of_le hg.2 h.sz⟩)
theorem rkernel {E:Rv} (hE:E.Ok) (hN:∀ t∈E.L,-2147483648≤t.num∧t.num<2147483648) (w:World) (i:Nat) (b:Bool) (hp0:Rp E w i b):Calls Tryz.prog 85 #[.pointer (some ⟨E.b,0,none⟩)] w (Ro E w (at0 E i b kerX) (RkX w.heap.size)):=by
 have hsz:=hp0.sz
 have hlt:=hE.lt
 have hlen:=hE.len
 have lE:=hp0.lt
 have HP:=hid (hp0.keep hE (show Below E.base w (w.alloc (.cells #[.string ⟨#[]⟩,.slice none 0 0,.slice none 0 0,.slice none 0 0] 75)) from tBEL))
 clear hp0
 go_enter Tryz.func85,Tryz.ntmps85
 go_wp2_with fail
 refine (rname hE _ i b HP.out).mono ?_
 rintro e w1 ⟨g1,b1,j1,v1,x,hR,p1,rfl,rfl⟩
 have R1:=hid hR
 have z1:=g1.size
 simp only [u0e] at z1
 have l1:=hkeep (q:=w.heap.size) g1 (u0c _ _) (by omega)
 have G1:=hid (show w.grownBy w1 (some E.b) from tGB)
 clear hR
 go_wp2_with fail
 refine (rparams hE _ j1 b1 (p1.keep hE tBEL)).mono ?_
 rintro e w2 ⟨g2,b2,j2,v2,ps,hR,p2,rfl,⟨A2,m2,c2,rfl,s2⟩⟩
 have R2:=hid hR
 have z2:=g2.size
 simp only [u0e,u0h] at z2 s2
 have l2:=hkeep (q:=w.heap.size) (o:=.cells #[.string ⟨#[]⟩,.slice none 0 0,.slice none 0 0,.slice none 0 0] 75 (0,0)) g2 tRES (by omega)
 have k2:=hkeep (q:=w1.heap.size) (o:=.cells #[.string (bs x),.slice none 0 0,.slice none 0 0,.slice none 0 0] 75 (0,0)) g2 tRES (by omega)
 have G2:=hid (show w.grownBy w2 (some E.b) from u0b (by have:=G1.out; exact tGB) g2)
 have S2:=hid s2
 have L2:=hid l2
 obtain ⟨c2k,f2k,_⟩:=u0i k2
 clear hR s2 l1 l2 g1 g2 p1
 go_wp2_with fail
 refine (rneed hE _ j2 b2 (p2.keep hE tBEL) [123]).mono ?_
 rintro e w3 ⟨g3,b3,j3,v3,u3,hR,p3,rfl,rfl⟩
 have R3:=hid hR
 have z3:=g3.size
 simp only [u0e,u0h] at z3
 have k3:=hkeep (q:=w1.heap.size) (o:=.cells #[.string (bs x),.slice A2 m2 c2,.slice none 0 0,.slice none 0 0] 75 (0,0)) g3 (p4_1 _ k2) (by omega)
 have KB3:Kb w2 E.b w1.heap.size w3:=Kb.call (Kb.set ⟨Nat.le_refl _,fun _ _ _ _=>rfl⟩ _ _ (.inr (.inr rfl))) g3
 have G3:=hid (show w.grownBy w3 (some E.b) from u0b (by have:=G2.out; exact tGB) g3)
 have HI:=hid (show at0 E i b kerX=soSh x ps b3 [] (E.ks.drop j3) by
  unfold kerX
  rw [u1y R1.out,u1i R2.out,u1i R3.out]
  unfold soSh
  cases b3
  ·simp only [u1p,u0z,List.nil_append]
  ·rfl)
 clear hR k2 c2k f2k g3 p2
 go_wp2_with fail
 go_loopw [] (fun wr=>∃ (j:Nat) (d:Bool) (L:List (List UInt8 × Int)) (A:Option Addr) (m c:Nat),(d=false→L.length≤j)∧L.length≤E.L.length+1∧w.grownBy wr (some E.b)∧Rp E wr j d∧at0 E i b kerX=soSh x ps d L (E.ks.drop j)∧OwnL rdA 94 2 wr w3.heap.size (.slice A m c) L∧w3.heap.size≤wr.heap.size∧Kb w2 E.b w1.heap.size wr∧wr.heap[w1.heap.size]? = some (.cells #[.string (bs x),.slice A2 m2 c2,.slice A m c,.slice none 0 0] 75 (0,0))) (fun wr=>muR E wr)
 case atStart=>exact ⟨j3,b3,[],none,0,0,fun _=>by simp,by simp,G3.out,p3,HI.out,OwnL.nil _ _,Nat.le_refl _,KB3,k3⟩
 case round =>
  obtain ⟨j,d,L,A,m,c,hlj,hkl,hgr,hp,hI,hown,hz3,hkb,hrow⟩:=hrel
  have HJ:=hid hI
  have HO:=hid hown
  have HPR:=hid hp
  have KB:=hid hkb
  have hz0:=hgr.size
  have hjl:=hp.hi
  obtain ⟨c0,c1,c2',f1,f2⟩:=hp.c
  clear hI hown hp c0 c1 f1 f2 hkb
  cases d
  ·have hlj2:=hlj rfl
   clear hlj
   go_wp2_with fail
   refine (reat hE _ j false HPR.out [115,104,97,114,101,100]).mono ?_
   rintro e y1 ⟨gy1,⟨hh,rfl,py1⟩ | ⟨hh,rfl,py1⟩⟩
   ·obtain ⟨_,h44,hil⟩:=u2n hh
    have HK:=hid (HJ.out.trans (soSh_more (x:=x) (ps:=ps) (L:=L) (by omega) h44))
    have zy1:=gy1.size
    have r1:=hkeep (q:=w1.heap.size) gy1 hrow (by omega)
    clear h44 hh hrow
    go_wp2_with fail
    refine (rname hE _ (j+1) false py1).mono ?_
    rintro e y2 ⟨gy2,b4,j4,v4,y,hR,py2,rfl,rfl⟩
    have R4:=hid hR
    have hj4:=py2.hi
    have zy2:=gy2.size
    have r2:=hkeep (q:=w1.heap.size) gy2 r1 (by omega)
    have GY2:=hid (u0b gy1 gy2)
    clear hR r1 gy2 py1
    go_wp2_with fail
    refine (rneed hE _ j4 b4 (py2.keep hE tBEL) [91]).mono ?_
    rintro e y3 ⟨gy3,b5,j5,v5,u5,hR,py3,rfl,rfl⟩
    have R5:=hid hR
    have hj5:=py3.hi
    have zy3:=gy3.size
    simp only [u0e,u0h] at zy3
    have r3:=hkeep (q:=w1.heap.size) (o:=.cells #[.string (bs x),.slice A2 m2 c2,.slice A m c,.slice none 0 0] 75 (0,0)) gy3 tRES (by omega)
    have t3:=hkeep (q:=y2.heap.size) (o:=.cells #[.string (bs y),.int .i64 0] 94 (0,0)) gy3 tRES (by omega)
    have GY3:=hid (show wr.grownBy y3 (some E.b) from u0b (by have:=GY2.out; exact tGB) gy3)
    clear hR r2 gy3 py2
    go_wp2_with fail
    refine (rint hE _ j5 b5 py3).mono ?_
    rintro e y4 ⟨gy4,b6,j6,v6,n,hR,py4,rfl,rfl⟩
    have R6:=hid (rint_wrap hN hR)
    have hj6:=py4.hi
    have zy4:=gy4.size
    have r4:=hkeep (q:=w1.heap.size) gy4 r3 (by omega)
    have t4:=hkeep (q:=y2.heap.size) gy4 t3 (by omega)
    obtain ⟨ct4,ft4,_⟩:=u0i t4
    have GY4:=hid (u0b GY3.out gy4)
    clear hR r3 t3 gy4 py3
    go_wp2_with fail
    refine (rneed hE _ j6 b6 (py4.keep hE tBEL) [93]).mono ?_
    rintro e y5 ⟨gy5,b7,j7,v7,u7,hR,py5,rfl,rfl⟩
    have R7:=hid hR
    have hj7:=py5.hi
    have zy5:=gy5.size
    simp only [u0e,u0h] at zy5
    have r5:=hkeep (q:=w1.heap.size) (o:=.cells #[.string (bs x),.slice A2 m2 c2,.slice A m c,.slice none 0 0] 75 (0,0)) gy5 tRES (by omega)
    have t5:=hkeep (q:=y2.heap.size) (o:=.cells #[.string (bs y),.int .i64 (wrap64 n)] 94 (0,0)) gy5 (p2_1 _ t4) (by omega)
    have GY5:=hid (show wr.grownBy y5 (some E.b) from u0b (by have:=GY4.out; exact tGB) gy5)
    clear hR r4 t4 ct4 ft4 gy5 py4
    go_wp2_with fail
    refine (rneed hE _ j7 b7 py5 [59]).mono ?_
    rintro e y6 ⟨gy6,b8,j8,v8,u8,hR,py6,rfl,rfl⟩
    have R8:=hid hR
    have zy6:=gy6.size
    have r6:=hkeep (q:=w1.heap.size) gy6 r5 (by omega)
    have t6:=hkeep (q:=y2.heap.size) gy6 t5 (by omega)
    obtain ⟨cr6,fr6,_⟩:=u0i r6
    obtain ⟨ct6,ft6,_⟩:=u0i t6
    have GY6:=hid (u0b GY5.out gy6)
    have HI8:=hid (show at0 E i b kerX=soSh x ps b8 (L++[(y,wrap64 n)]) (E.ks.drop j8) by
     rw [HK.out,u1y R4.out,u1i R5.out,u1i R6.out,u1i R7.out,u1i R8.out,soSh_from])
    have HO6:=hid (HO.out.keep u2z GY6.out (by omega))
    have KB6:=hid (KB.out.call GY6.out)
    have hown0:=fun g hg=>HO.out.lt g hg
    clear hR r5 t5 gy6 py5
    have hj8:b8=false→j+1<j8:=fun hb=>by
     obtain ⟨e7,i7⟩:=u7j py6.hi (fun l a r h=>lenS h) R8.out hb
     obtain ⟨e6,i6⟩:=u7j hj7 (fun l a r h=>lenS h) R7.out e7
     obtain ⟨e5,i5⟩:=u7j hj6 (fun l a r h=>lenI h) R6.out e6
     obtain ⟨e4,i4⟩:=u7j hj5 (fun l a r h=>lenS h) R5.out e5
     obtain ⟨_,i3⟩:=u7j hj4 (fun l a r h=>lenN h) R4.out e4
     omega
    have hj8l:=py6.hi
    have H8:=hid hj8
    clear hj8
    go_wp2_with (refine u1r u2z rfl _ _ 73 rfl _ 24 info94 Tryz.underlying73 rfl (by decide) (by decide) w3.heap.size _ L rfl (HO6.out.alloc u2z (by omega) _) y6.heap.size rfl #[.string (bs y),.int .i64 (wrap64 n)] (0,0) (u0c _ _) rfl (by intro u hu; simp at hu; rcases hu with rfl | rfl <;> rfl) (y,wrap64 n) y6.heap.size (show rdA _ _ _ _ from rfl) (by omega) (fun g hg=>by have:=(hown0 g hg).2; omega) (by omega) tSZ ?_; intro v' w7 hown7 hg7 _; have HO7:=hid hown7; clear hown7; obtain ⟨A7,n7,c7,hv7⟩:=(HO7.out.slR u2z).form; subst hv7; have zy7:=hg7.size; (try simp only [u0e,u0h,u0m] at zy7); have r7:=(hg7.block w1.heap.size tSZ (fun e=>by have:=(hown0 _ e.symm).1; omega)).trans (u0g (by omega) r6); obtain ⟨cr7,fr7,_⟩:=u0i r7; have G7:=hid (show w.grownBy w7 (some E.b) from u7p (u0o (u0b hgr GY6.out) _) hg7 (fun g hg=>by have:=(hown0 g hg).1; omega)); have KB7:=hid (Kb.own (KB6.out.alloc _) hg7 (fun g hg=>by have:=(hown0 g hg).1; omega)); have P7:=hid ((py6.keep hE (show Below E.base y6 (y6.alloc _) from tBEL)).grown hE hg7 (fun g hg=>by have:=(hown0 g hg).1; omega)); clear hg7)
    have P8:=hid (show Rp E (w7.setCell ⟨w1.heap.size,2,none⟩ (.slice A7 n7 c7)) j8 b8 from P7.out.keep hE tBEL)
    go_roundw
    case rel=>exact ⟨j8,b8,L++[(y,wrap64 n)],A7,n7,c7,fun hb=>by have:=H8.out hb; simp; omega,by simp; omega,by have:=G7.out; exact tGB,P8.out,HI8.out,HO7.out.keep u2z (u1a (u0q _ _) (.inl rfl) _) (by show w1.heap.size<w3.heap.size; omega),tSZ,KB7.out.set _ _ (.inr (.inr rfl)),p4_2 _ r7⟩
    case measure =>
     rw [HPR.out.mu,P8.out.mu]
     cases b8
     ·have:=H8.out rfl
      simp; omega
     ·simp; omega
   have HN:=hid (show hit u4e (E.ks.drop j)=false by simpa [hitB,u4e] using hh)
   have r1:=hkeep (q:=w1.heap.size) gy1 hrow (by omega)
   have zy1:=gy1.size
   have kb1:=KB.out.call gy1
   have own1:=HO.out.keep u2z gy1 (by omega)
   have gg1:=u0b hgr gy1
   clear hh hrow gy1
   go_wp2_with fail
   refine (rr_all hE j false _ py1).mono ?_
   rintro e y2 ⟨gy2,b5,j5,v5,B,hR,py2,rfl,⟨A5,m5,c5,rfl,s5⟩⟩
   have HM:=hid (HJ.out.trans (soSh_end (.inr HN.out) hR))
   have r2:=hkeep (q:=w1.heap.size) gy2 r1 (by omega)
   obtain ⟨cr2,fr2,_⟩:=u0i r2
   have kb2:=kb1.call gy2
   have e2:=(kb2.blk w.heap.size (by omega) (by omega) (by omega)).trans L2.out
   obtain ⟨ce2,fe2,_⟩:=u0i e2
   have ps2:=kb2.sl u2l (by omega) (by omega) S2.out
   have sh2:=(own1.keep u2z gy2 (by omega)).slR u2z
   have gg2:=u0b gg1 gy2
   have zz2:=gy2.size
   clear hR gy2 gg1 r1 kb1 own1
   go_wp2_with (refine ret_kn rfl rfl rfl tRES ?_; exact ⟨tGB,b5,j5,_,⟨x,ps,L,B⟩,HM.out,py2.keep hE tBEL,rfl,⟨_,_,_,_,_,_,_,_,_,rfl,⟨_,_,_,_,_,_,_,_,_,rfl,sr_keep u2l ps2 tKP (by omega) tSZ,sr_keep u2z sh2 tKP (by omega) tSZ,u3r s5 tKP tSZ tSZ⟩⟩⟩)
  ·have r1:=hrow
   have kb1:=KB.out
   have own1:=HO.out
   have gg1:=hgr
   clear hrow
   go_wp2_with fail
   refine (rr_all hE j true _ HPR.out).mono ?_
   rintro e y2 ⟨gy2,b5,j5,v5,B,hR,py2,rfl,⟨A5,m5,c5,rfl,s5⟩⟩
   have HM:=hid (HJ.out.trans (soSh_end (.inl rfl) hR))
   have r2:=hkeep (q:=w1.heap.size) gy2 r1 (by omega)
   obtain ⟨cr2,fr2,_⟩:=u0i r2
   have kb2:=kb1.call gy2
   have e2:=(kb2.blk w.heap.size (by omega) (by omega) (by omega)).trans L2.out
   obtain ⟨ce2,fe2,_⟩:=u0i e2
   have ps2:=kb2.sl u2l (by omega) (by omega) S2.out
   have sh2:=(own1.keep u2z gy2 (by omega)).slR u2z
   have gg2:=u0b gg1 gy2
   have zz2:=gy2.size
   clear hR gy2 gg1 r1 kb1 own1
   go_wp2_with (refine ret_kn rfl rfl rfl tRES ?_; exact ⟨tGB,b5,j5,_,⟨x,ps,L,B⟩,HM.out,py2.keep hE tBEL,rfl,⟨_,_,_,_,_,_,_,_,_,rfl,⟨_,_,_,_,_,_,_,_,_,rfl,sr_keep u2l ps2 tKP (by omega) tSZ,sr_keep u2z sh2 tKP (by omega) tSZ,u3r s5 tKP tSZ tSZ⟩⟩⟩)
def soP (d:Bool) (l:List It) (ks:List K):Res (List It):=(mkR d l ks).bind fun l r=>(PP r).bind fun ss q=>.ok (l++ss) q
theorem par_fun:u5q=parR:=funext par_eq
theorem soP_fn {E:Rv} {l:List It} {j:Nat} (hj:j≤E.L.length) (h:hit u8z (E.ks.drop j)=true):soP false l (E.ks.drop j) =
  at0 E (j+1) false (fun r=>(needN' r).bind fun x r1=>(u6s u6x r1).bind fun ps r2=>(u5s r2).bind fun b r3=>soP false (l++[.fn x ps b]) r3):=by
 have hne:(E.ks.drop j).isEmpty=false:=by
  cases hk:E.ks.drop j with
  | nil=>rw [hk] at h; cases h
  | cons t r=>rfl
 rw [u0l]
 unfold soP
 rw [u1p,u0z,PP_step,hne,item_eq,if_pos h]
 simp only [Bool.false_eq_true,if_false,fnR,rneedS_yes h hj,u0y,u0z,u1p,List.append_assoc,List.singleton_append]
theorem soP_ker {E:Rv} {l:List It} {j:Nat} (hj:j<E.L.length) (h:hit u8z (E.ks.drop j)=false):soP false l (E.ks.drop j) =
  at0 E j false (fun r=>(u1k u7t r).bind fun _ r1=>(kerX r1).bind fun f r2=>soP false (l++[.ker f.name f.params f.shared f.body]) r2):=by
 have hne:(E.ks.drop j).isEmpty=false:=by
  rcases Rv.next_ (E:=E) (i:=j) (by omega) with ⟨_,t,_,_,hd⟩ | ⟨e,_⟩
  ·rw [hd]; rfl
  ·omega
 rw [u0l]
 unfold soP
 rw [u1p,u0z,PP_step,hne,item_eq,h]
 simp only [Bool.false_eq_true,if_false,kerR,kerX,par_fun,u0y,u0z,u1p,List.append_assoc,List.singleton_append]
theorem p3_1 {w:World} {q:Nat} {a b c:Value} {T:TypeId} {fr:Nat × Nat} (v:Value) (h:w.heap[q]? = some (.cells #[a,b,c] T fr)):(w.setCell ⟨q,1,none⟩ v).heap[q]? = some (.cells #[a,v,c] T fr):=by
 simp only [World.setCell,Array.getElem?_modify,if_true,h]; rfl
theorem soP_last {α:Type} {b:Bool} {a:α} {g:α→List It} {ks:List K}:(mkR b a ks).bind (fun a r=>soP false (g a) r)=soP b (g a) ks:=by cases b <;> rfl
theorem soP_end {E:Rv} {d:Bool} {l:List It} {j:Nat} (h:d=true∨E.L.length≤j):soP d l (E.ks.drop j)=mkR d l (E.ks.drop j):=by
 cases d
 ·rcases h with h | h
  ·cases h
  ·have:E.ks.drop j=[]:=List.drop_eq_nil_of_le (by unfold Rv.ks; simpa using h)
   rw [this]
   unfold soP
   rw [u1p,u0z,PP_step]
   simp [Res.bind]
 ·rfl
theorem kerX_len {l r:List K} {a:Kr} (h:kerX l=.ok a r):r.length<l.length:=by
 obtain ⟨x,q1,e1,h⟩:=u0t h
 obtain ⟨ps,q2,e2,h⟩:=u0t h
 obtain ⟨_,q3,e3,h⟩:=u0t h
 obtain ⟨sh,q4,e4,h⟩:=u0t h
 obtain ⟨b,q5,e5,h⟩:=u0t h
 cases h
 have h1:=lenN e1
 have h2:=listO_len (one:=parR) rfl parR_len _ _ _ e2
 have h3:=lenS e3
 have h4:=sharedP_len _ _ _ _ e4
 have h5:=PR_len _ _ _ e5
 omega
def RpRel (E:Rv) (w:World) (i:Nat) (b:Bool) (wr:World):Prop:=∃ (j:Nat) (d:Bool) (l:List It) (A:Option Addr) (m c:Nat) (B:Option Addr) (m' c':Nat),(d=false→l.length≤j)∧l.length≤E.L.length+1∧w.grownBy wr (some E.b)∧Rp E wr j d ∧
 at0 E i b PP=soP d l (E.ks.drop j)∧wr.heap[w.heap.size]? = some (.cells #[.slice none 0 0,.slice none 0 0] 26 (0,0))∧wr.heap[w.heap.size+1]? = some (.cells #[.slice A m c,.slice B m' c'] 26 (0,0)) ∧
 Two wr (w.heap.size+2) (.slice A m c) (.slice B m' c') (pg l)
theorem rprogram {E:Rv} (hE:E.Ok) (hN:∀ t∈E.L,-2147483648≤t.num∧t.num<2147483648) (w:World) (i:Nat) (b:Bool) (hp0:Rp E w i b):Calls Tryz.prog 42 #[.pointer (some ⟨E.b,0,none⟩)] w (Ro E w (at0 E i b PP) (RpV w.heap.size)):=by
 have hsz:=hp0.sz
 have hlt:=hE.lt
 have hlen:=hE.len
 have lE:=hp0.lt
 have HP:=hid hp0
 clear hp0
 go_enter Tryz.func42,Tryz.ntmps42
 go_wp2_with fail
 go_loopw [] (fun wr=>RpRel E w i b wr) (fun wr=>muR E wr)
 case atStart=>exact ⟨i,b,[],none,0,0,none,0,0,fun _=>by simp,by simp,tGB,HP.out.keep hE tBEL,by unfold soP; cases b; (rw [u0l,u1p,u0z]; simp only [List.nil_append]; exact (u9f _).symm); rfl,tLOC,tLOC,⟨OwnL.nil _ _,OwnL.nil _ _⟩⟩
 case round =>
  obtain ⟨j,d,l,A,m,c,B,m',c',hll,hkl,hgr,hp,hI,hq0,hq1,htwo⟩:=hrel
  have HI:=hid hI
  have HW:=hid htwo
  have HPR:=hid hp
  have hz0:=hgr.size
  have hjl:=hp.hi
  have hfl:=fns_len l
  have hkl2:=krs_len l
  obtain ⟨c0,c1,c2,f1,f2⟩:=hp.c
  clear hI htwo hp
  cases d
  ·have hll2:=hll rfl
   by_cases hend:j=E.L.length
   ·have hd:decide ((j:Int)<E.L.length)=false:=by simp; omega
    go_wp2_with fail
    go_quiet (fail)
    generalize hV:World.drewN wr _=V
    have v0:V.heap[w.heap.size]? = some (.cells #[.slice none 0 0,.slice none 0 0] 26 (0,0)):=by rw [← hV]; exact hq0
    have v1:V.heap[w.heap.size+1]? = some (.cells #[.slice A m c,.slice B m' c'] 26 (0,0)):=by rw [← hV]; exact hq1
    have gV:w.grownBy V (some E.b):=by rw [← hV]; exact gb_dn hgr _
    have pV:Rp E V j false:=by rw [← hV]; exact HPR.out.keep hE tBELD
    have tV:Two V (w.heap.size+2) (.slice A m c) (.slice B m' c') (pg l):=by rw [← hV]; exact HW.out.below (Nat.le_refl _) (fun _ _ _=>rfl)
    obtain ⟨cv0,fv0,_⟩:=u0i v0
    obtain ⟨cv1,fv1,_⟩:=u0i v1
    clear hV c0 c1 c2 f1 f2
    have HM:=hid (HI.out.trans (soP_end (.inr (by omega))))
    go_wp2_with (refine ret_pg rfl rfl rfl (put2 _ _ v0) ?_; exact ⟨tGB,false,j,_,l,HM.out,pV.keep hE tBEL,rfl,(tV.below tSZ (fun g hg1 hg2=>by rw [Below.heap_setCell _ _ _ _ tSZ,Below.heap_setCell _ _ _ _ tSZ])).value (by omega)⟩)
   ·have hd:decide ((j:Int)<E.L.length)=true:=by simp; omega
    go_wp2_with fail
    go_quiet (fail)
    generalize hV:World.drewN wr _=V
    have v0:V.heap[w.heap.size]? = some (.cells #[.slice none 0 0,.slice none 0 0] 26 (0,0)):=by rw [← hV]; exact hq0
    have v1:V.heap[w.heap.size+1]? = some (.cells #[.slice A m c,.slice B m' c'] 26 (0,0)):=by rw [← hV]; exact hq1
    have gV:w.grownBy V (some E.b):=by rw [← hV]; exact gb_dn hgr _
    have pV:Rp E V j false:=by rw [← hV]; exact HPR.out.keep hE tBELD
    have tV:Two V (w.heap.size+2) (.slice A m c) (.slice B m' c') (pg l):=by rw [← hV]; exact HW.out.below (Nat.le_refl _) (fun _ _ _=>rfl)
    obtain ⟨cv0,fv0,_⟩:=u0i v0
    obtain ⟨cv1,fv1,_⟩:=u0i v1
    clear hV c0 c1 c2 f1 f2
    go_wp2_with fail
    refine (reat hE _ j false pV [102,117,110,99]).mono ?_
    rintro e y1 ⟨gy1,⟨hh,rfl,py1⟩ | ⟨hh,rfl,py1⟩⟩
    ·obtain ⟨_,h44,hil⟩:=u2n hh
     have HK:=hid (HI.out.trans (soP_fn (l:=l) (by omega) h44))
     have zy1:=gy1.size
     have l1:=hkeep (q:=w.heap.size) gy1 v0 (by omega)
     have m1:=hkeep (q:=w.heap.size+1) gy1 v1 (by omega)
     have t1:=tV.keep gy1 (by omega)
     have gg1:=u0b gV gy1
     have zg1:=gg1.size
     clear h44 hh cv0 fv0 cv1 fv1 v0 v1 tV gV pV
     go_wp2_with fail
     refine (rname hE _ (j+1) false py1).mono ?_
     rintro e y2 ⟨gy2,b4,j4,v4,x,hR,py2,rfl,rfl⟩
     have R4:=hid hR
     have hj4:=py2.hi
     have zy2:=gy2.size
     have l2:=hkeep (q:=w.heap.size) gy2 l1 (by omega)
     have m2:=hkeep (q:=w.heap.size+1) gy2 m1 (by omega)
     have t2:=hid (t1.keep gy2 (by omega))
     have gg2:=u0b gg1 gy2
     clear hR l1 m1 t1 gg1 py1 gy1 gy2
     go_wp2_with fail
     refine (rnames hE _ j4 b4 (py2.keep hE tBEL)).mono ?_
     rintro e y3 ⟨gy3,b5,j5,v5,ps,hR,py3,rfl,⟨A5,m5,c5,rfl,s5⟩⟩
     have R5:=hid hR
     have hj5:=py3.hi
     have zy3:=gy3.size
     simp only [u0e,u0h] at zy3 s5
     have l3:=hkeep (q:=w.heap.size) (o:=.cells #[.slice none 0 0,.slice none 0 0] 26 (0,0)) gy3 tRES (by omega)
     have m3:=hkeep (q:=w.heap.size+1) (o:=.cells #[.slice A m c,.slice B m' c'] 26 (0,0)) gy3 tRES (by omega)
     have f3:=hkeep (q:=y2.heap.size) (o:=.cells #[.string (bs x),.slice none 0 0,.slice none 0 0] 71 (0,0)) gy3 tRES (by omega)
     have GY3:y2.grownBy y3 (some E.b):=u0b tGB gy3
     have S5:=hid s5
     obtain ⟨cf3,ff3,_⟩:=u0i f3
     clear hR l2 m2 gy3 py2 s5
     go_wp2_with fail
     refine (rb_all hE j5 b5 _ (py3.keep hE tBEL)).mono ?_
     rintro e y4 ⟨gy4,b6,j6,v6,body,hR,py4,rfl,⟨A6,m6,c6,rfl,s6⟩⟩
     have R6:=hid hR
     have hj6:=py4.hi
     have zy4:=gy4.size
     simp only [u0e,u0h] at zy4 s6
     have l4:=hkeep (q:=w.heap.size) (o:=.cells #[.slice none 0 0,.slice none 0 0] 26 (0,0)) gy4 tRES (by omega)
     have m4:=hkeep (q:=w.heap.size+1) (o:=.cells #[.slice A m c,.slice B m' c'] 26 (0,0)) gy4 tRES (by omega)
     have f4:=hkeep (q:=y2.heap.size) (o:=.cells #[.string (bs x),.slice A5 m5 c5,.slice none 0 0] 71 (0,0)) gy4 (p3_1 _ f3) (by omega)
     have GY4:y2.grownBy y4 (some E.b):=u0b (u1a GY3 (.inr (Nat.le_refl _)) _) gy4
     have HF:=hid (show rdF (fun g=>y2.heap.size+1≤g∧g<y4.heap.size) y4 [.string (bs x),.slice A5 m5 c5,.slice A6 m6 c6] ⟨x,ps,body⟩ from ⟨_,_,_,_,_,_,rfl,sr_keep u2t S5.out (u7x (kp_set (u5t _ _) (by show y2.heap.size<_; omega) _) gy4 (by omega)) (by omega) (by omega),u3r s6 (u5t _ _) (by omega) (by omega)⟩)
     obtain ⟨cm4,fm4,_⟩:=u0i m4
     obtain ⟨cf4,ff4,_⟩:=u0i f4
     have HI6:=hid (show at0 E i b PP=soP b6 (l++[.fn x ps body]) (E.ks.drop j6) by
      rw [HK.out,u1y R4.out,u1i R5.out,u1i R6.out]; exact soP_last (g:=fun bd=>l++[It.fn x ps bd]))
     have hj7:b6=false→j+1<j6:=fun hb=>by
      obtain ⟨e5,i5⟩:=u7j hj6 (fun l a r h=>block_len h) R6.out hb
      obtain ⟨e4,i4⟩:=u7j hj5 (fun l a r h=>by have:=listO_len (one:=u6x) rfl u4k l a r h; omega) R5.out e5
      obtain ⟨_,i3⟩:=u7j hj4 (fun l a r h=>lenN h) R4.out e4
      omega
     have H7:=hid hj7
     have hfo:=fun g hg=>t2.out.f.lt g hg
     have hko:=fun g hg=>t2.out.k.lt g hg
     clear hR hj7 l3 m3 f3 cf3 ff3 gy4 py3 s6
     go_wp2_with (refine u1r (u6f u4c) rfl _ _ 23 rfl _ 64 info71 Tryz.underlying23 rfl (by decide) (by decide) (w.heap.size+2) _ (pg l).fns rfl (Two.f (t2.out.keep (b:=E.b) tGB (by omega))) y4.heap.size rfl #[.string (bs x),.slice A5 m5 c5,.slice A6 m6 c6] (0,0) (u0k tSZ) rfl (by intro u hu; simp at hu; rcases hu with rfl | rfl | rfl <;> rfl) ⟨x,ps,body⟩ (y2.heap.size+1) (u4c _ _ y4 _ _ _ (fun p u hp hu=>(show Kp (y2.heap.size+1) y4 _ from tKP) p u hp.1 hu) (fun g hg=>⟨⟨hg.1,by have:=hg.2; exact tSZ⟩,fun e=>by have:=hg.1; have:=(hko g e).2; omega⟩) HF.out) (by omega) (fun g hg=>by have:=(hfo g hg).2; omega) (by omega) tSZ ?_; intro v' w7 hown7 hg7 hw7; obtain ⟨A7,n7,c7,hv7⟩:=hown7.form; subst hv7; have HT7:=hid (Two.fn (f:=⟨x,ps,body⟩) (t2.out.keep (b:=E.b) tGB (by omega)) hown7 hg7 hw7); have zy7:=hg7.size; (try simp only [u0e,u0h,u0m] at zy7); have l7:=(hg7.block w.heap.size tSZ (fun e=>by have:=(hfo _ e.symm).1; omega)).trans (show _=some (Obj.cells #[.slice none 0 0,.slice none 0 0] 26 (0,0)) from tRES); have m7:=(hg7.block (w.heap.size+1) tSZ (fun e=>by have:=(hfo _ e.symm).1; omega)).trans (show _=some (Obj.cells #[.slice A m c,.slice B m' c'] 26 (0,0)) from tRES); obtain ⟨cm7,fm7,_⟩:=u0i m7; have G7:=hid (show w.grownBy w7 (some E.b) from u7p (u0b gg2 tGB) hg7 (fun g hg=>by have:=(hfo g hg).1; omega)); have P7:=hid ((py4.keep hE (show Below E.base y4 _ from tBEL)).grown hE hg7 (fun g hg=>by have:=(hfo g hg).1; omega)); clear hown7 hw7 hg7)
     have P8:=hid (show Rp E (w7.setCell ⟨w.heap.size+1,0,none⟩ (.slice A7 n7 c7)) j6 b6 from P7.out.keep hE tBEL)
     have hfl6:=krs_len l
     go_roundw
     case rel =>
      refine ⟨j6,b6,l++[.fn x ps body],A7,n7,c7,B,m',c',fun hb=>by have:=H7.out hb; simp; omega,by simp; omega,by have:=G7.out; exact tGB,P8.out,HI6.out,tRES,p2_0 _ m7,?_⟩
      rw [pg_snoc]
      exact HT7.out.below tSZ (fun g hg1 hg2=>by rw [Below.heap_setCell _ _ _ _ tSZ])
     case measure =>
      rw [HPR.out.mu,P8.out.mu]
      cases b6
      ·have:=H7.out rfl
       simp; omega
      ·simp; omega
    ·have HN2:=hid (show hit u8z (E.ks.drop j)=false by simpa [hitB,u8z] using hh)
     have HK:=hid (HI.out.trans (soP_ker (l:=l) (by omega) HN2.out))
     have zy1:=gy1.size
     have l1:=hkeep (q:=w.heap.size) gy1 v0 (by omega)
     have m1:=hkeep (q:=w.heap.size+1) gy1 v1 (by omega)
     have t1:=tV.keep gy1 (by omega)
     have gg1:=u0b gV gy1
     have zg1:=gg1.size
     clear hh cv0 fv0 cv1 fv1 v0 v1 tV gV pV HN2
     go_wp2_with fail
     refine (rneed hE _ j false py1 [107,101,114,110,101,108]).mono ?_
     rintro e y2 ⟨gy2,b4,j4,v4,u4,hR,py2,rfl,rfl⟩
     have R4:=hid (show at0 E j false (u1k u7t)=mkR b4 u4 (E.ks.drop j4) from hR)
     have hj4:=py2.hi
     have zy2:=gy2.size
     have l2:=hkeep (q:=w.heap.size) gy2 l1 (by omega)
     have m2:=hkeep (q:=w.heap.size+1) gy2 m1 (by omega)
     have t2:=hid (t1.keep gy2 (by omega))
     have gg2:=u0b gg1 gy2
     have PY2:=hid py2
     have M2:=hid m2
     have L2:=hid l2
     have GG2:=hid gg2
     have hfo:=fun g hg=>t2.out.f.lt g hg
     have hko:=fun g hg=>t2.out.k.lt g hg
     obtain ⟨cm2,fm2,_⟩:=u0i m2
     clear hR l1 m1 t1 gg1 py1 gy1 gy2 py2 l2 gg2
     go_wp2_with fail
     go_region_law (first | (refine u9u (u6f u4j) rfl (.tmp 42) (.tmp 45) 24 rfl _ 88 info75 Tryz.underlying24 rfl (by decide) (by decide) (w.heap.size+2) (.slice B m' c') (pg l).krs (by simp [Act.eval,Act.put]) (Two.k (t2.out.keep (u0o (u0b (u8t (u0q _ _)) hg5) _) (by omega))) x5.heap.size (by simp [Act.eval,Act.put]) #[.string (bs f.name),.slice fA fm fc,.slice fB fm2' fc2,.slice fC fm3 fc3] (0,0) (u0c _ _) rfl (by intro u hu; simp at hu; rcases hu with rfl | rfl | rfl | rfl <;> rfl) f y2.heap.size (u4j _ _ x5 _ _ _ (fun p u hp hu=>past hu _) (fun g hg=>⟨⟨hg.1,by have:=hg.2; exact tSZD⟩,fun e=>by have:=hg.1; have:=(hfo g e).2; omega⟩) hf) (by omega) (fun g hg=>by have:=(hko g hg).2; omega) (by first | simp | omega) tSZD ?_; intro g' cap w7 hown7 hg7 hb7 hlt7; obtain ⟨_,_,_,m7⟩:=loc_ownr (q:=w.heap.size+1) hg7 (u0g (by omega) m5) (by intro g hg; have:=(hko g hg).1; omega); obtain ⟨_,_,_,l7⟩:=loc_ownr (q:=w.heap.size) hg7 (u0g (by omega) l5) (by intro g hg; have:=(hko g hg).1; omega)) | (go_simp; go_at_call 85; refine (rkernel hE hN _ j4 b4 (PY2.out.keep hE tBEL)).mono ?_; rintro e x5 ⟨hg5,b5,j5,v5,f,hR,hp5,rfl,⟨fA,fm,fc,fB,fm2',fc2,fC,fm3,fc3,rfl,hf⟩⟩; have HR5:=hid hR; clear hR; have hz5:=hg5.size; simp only [u0m] at hz5 hf; obtain ⟨_,_,_,m5⟩:=u0a (q:=w.heap.size+1) hg5 (u2d M2.out) (by omega); obtain ⟨_,_,_,l5⟩:=u0a (q:=w.heap.size) hg5 (u2d L2.out) (by omega)))
     all_goals
      have TT:=Two.kr (f:=f) (t2.out.keep (b:=E.b) (u0o (u0b (u8t (u0q _ _)) hg5) _) (by omega)) hown7 hg7 (by rcases hb7 with h | h; exact .inl h.symm; exact .inr (by rw [h]; rfl))
      have G5:w.grownBy w7 (some E.b):=by
       have hg:=GG2.out
       exact u7p (a:=w) (W:=x5.alloc _) (u0o (u0b (u8t hg) hg5) _) hg7 (by intro g hg; have:=(hko g hg).1; omega)
      have P7:Rp E w7 j5 b5:=(hp5.keep hE (show Below E.base x5 (x5.alloc _) from tBEL)).grown hE hg7 (by intro g hg; have:=(hko g hg).1; omega)
      generalize hV:World.setCell _ ⟨w.heap.size+1,1,none⟩ _=V
      have gV:w.grownBy V (some E.b):=by rw [← hV]; exact u1a G5 (.inr (show w.heap.size≤w.heap.size+1 by omega)) _
      have pV:Rp E V j5 b5:=by rw [← hV]; exact P7.keep hE tBEL
      have zV:V.heap[w.heap.size]? = some (.cells #[.slice none 0 0,.slice none 0 0] 26 (0,0)):=by rw [← hV]; exact u5n (by show w.heap.size≠w.heap.size+1; omega) l7
      have cV:V.heap[w.heap.size+1]? = some (.cells #[.slice A m c,.slice (some ⟨g',0,none⟩) ((pg l).krs.length+1) cap] 26 (0,0)):=by rw [← hV]; exact p2_1 _ m7
      have tV:Two V (w.heap.size+2) (.slice A m c) (.slice (some ⟨g',0,none⟩) ((pg l).krs.length+1) cap) (pg (l++[.ker f.name f.params f.shared f.body])):=by
       rw [← hV,pg_snoc]; exact TT.below tSZ (fun g hg1 hg2=>by rw [Below.heap_setCell _ _ _ _ tSZ])
      have hj5:b5=false→j<j5:=fun hb=>by
       obtain ⟨e4,i4⟩:=u7j hp5.hi (fun l a r h=>kerX_len h) HR5.out hb
       obtain ⟨_,i3⟩:=u7j hj4 (fun l a r h=>lenS h) R4.out e4
       omega
      have MM:at0 E i b PP=soP b5 (l++[.ker f.name f.params f.shared f.body]) (E.ks.drop j5):=by
       rw [HK.out,u1y R4.out,u1i HR5.out]; exact soP_last (g:=fun f:Kr=>l++[It.ker f.name f.params f.shared f.body])
      have HRELS:=hid (show RpRel E w i b V from ⟨j5,b5,(l++[.ker f.name f.params f.shared f.body]),A,m,c,_,_,_,fun hb=>by have:=hj5 hb; simp; omega,by simp; omega,gV,pV,MM,zV,cV,tV⟩)
      have HMU:muR E V<muR E wr:=by
       rw [HPR.out.mu,pV.mu]
       have:=HPR.out.hi
       cases b5
       ·have:=hj5 rfl
        simp; omega
       ·simp; omega
      clear hV gV pV zV cV MM hj5 G5 P7 hown7 hg7 l7 m7 hg5 hp5 HR5 m5 l5 hb7 hlt7 TT tV hf cm2 fm2 m2
      go_wp2
      go_roundw
      case rel=>exact HRELS.out
      case measure=>exact HMU
  ·go_wp2_with fail
   go_quiet (fail)
   generalize hV:World.drewN wr _=V
   have v0:V.heap[w.heap.size]? = some (.cells #[.slice none 0 0,.slice none 0 0] 26 (0,0)):=by rw [← hV]; exact hq0
   have v1:V.heap[w.heap.size+1]? = some (.cells #[.slice A m c,.slice B m' c'] 26 (0,0)):=by rw [← hV]; exact hq1
   have gV:w.grownBy V (some E.b):=by rw [← hV]; exact gb_dn hgr _
   have pV:Rp E V j true:=by rw [← hV]; exact HPR.out.keep hE tBELD
   have tV:Two V (w.heap.size+2) (.slice A m c) (.slice B m' c') (pg l):=by rw [← hV]; exact HW.out.below (Nat.le_refl _) (fun _ _ _=>rfl)
   obtain ⟨cv0,fv0,_⟩:=u0i v0
   obtain ⟨cv1,fv1,_⟩:=u0i v1
   clear hV c0 c1 c2 f1 f2
   have HM:=hid (HI.out.trans (soP_end (.inl rfl)))
   go_wp2_with (refine ret_pg rfl rfl rfl (put2 _ _ v0) ?_; exact ⟨tGB,true,j,_,l,HM.out,pV.keep hE tBEL,rfl,(tV.below tSZ (fun g hg1 hg2=>by rw [Below.heap_setCell _ _ _ _ tSZ,Below.heap_setCell _ _ _ _ tSZ])).value (by omega)⟩)
theorem progM_bad {s:List UInt8} {i er:Int} (h:u4x (⟨[],[]⟩:Pg) progR s=(⟨[],[]⟩,i,er)) (he:er≠0):u9i s=(⟨[],[]⟩,i,er):=by
 unfold u9i
 simp only [h]
 have:(er == 0)=false:=by simpa using he
 simp [this]
theorem pgar_in {w:World} {A:Option Addr} {m c:Nat} {B:Option Addr} {mb cb:Nat} {q:Pg} (h:PgIn w A m c B mb cb q):PgAr w A m c B mb cb q:=⟨h.f,h.k,h.gf,h.gk,by have:=h.len; omega,by have:=h.len; omega⟩
theorem refParse_err (s:ByteArray) (w:World) (i er:Int) (he:er=2∨er=5) (hT:∀ w,Calls Tryz.prog 41 #[.string s] w fun e w'=>e=.returned (.tuple #[.slice none 0 0,.int .i64 i,.int .i64 er])∧Below w.heap.size w w')
  (hM:u9i s.data.toList=(⟨[],[]⟩,i,er)):Calls Tryz.prog 16 #[.string s] w (ProgOut s w):=by
 have HT:=hid hT
 clear hT
 rcases he with rfl | rfl
 all_goals
  go_enter Tryz.func16,Tryz.ntmps16
  go_wp2_with fail
  refine (HT.out _).mono ?_
  rintro e w1 ⟨rfl,hb1⟩
  obtain ⟨_,_,_,l1⟩:=u0a (q:=w.heap.size) (u0d hb1 (some (w.heap.size+1))) (u0c _ _) (by omega)
  have HB1:=hid (seq (u0j _ _) hb1)
  clear hb1
  go_wp2
  refine ret_p3 rfl rfl rfl rfl rfl (put2 _ _ l1) ⟨?_,_,_,_,_,_,_,_,_,_,rfl,pg_none,hM.symm⟩
  repeat (first | with_reducible exact Below.refl _ _ | with_reducible refine Below.alloc ?_ (by first | omega | (simp only [u0e,u0h,u0m]; omega) | (simp; omega) | (simp; done)) _ | with_reducible refine Below.setCell ?_ (by first | omega | (simp only [u0e,u0h,u0m]; omega) | (simp; omega) | (simp; done)) _ | with_reducible refine Below.drew ?_)
  exact HB1.out
theorem refParse_ok (s:ByteArray) (h4:s.size≤4000) (hsc:(sc s.data.toList 0).2=none) (w:World):Calls Tryz.prog 16 #[.string s] w (ProgOut s w):=by
 have HT:=hid (rtokens_short one_any s h4)
 obtain ⟨L,hL⟩:∃ L,(sc s.data.toList 0).1=L:=⟨_,rfl⟩
 have hwf:=sc_wf (l:=s.data.toList) (i:=0)
 have hcnt:=sc_count s.data.toList 0
 have hkr:=key_rg (l:=s.data.toList) (i:=0) (by rw [u0n]; omega)
 rw [hL] at hwf hcnt hkr
 rw [u0n] at hcnt
 have HWF:=hid hwf
 have HKR:=hid hkr
 have hPM:u4x (⟨[],[]⟩:Pg) progR s.data.toList=outM (⟨[],[]⟩:Pg) L s.size (progR (L.map key)):=by
  unfold u4x; rw [if_neg (by rw [u0n]; omega),hsc,hL,u0n]
 have HPM:=hid hPM
 have HL:=hid hL
 have HSC:=hid hsc
 clear hwf hPM hL hsc hkr
 go_enter Tryz.func16,Tryz.ntmps16
 go_wp2_with fail
 refine (HT.out _).mono ?_
 rintro e w1 ⟨hp,hb1⟩
 rcases hp with ⟨v,_,rfl,hown⟩ | ⟨i,hi,_⟩
 rotate_left 1
 ·rw [HSC.out] at hi; cases hi
 rw [HL.out] at hown
 obtain ⟨A,c,x,rfl,hA,hx,hcs⟩:=own_tok hown
 obtain ⟨_,_,_,l1⟩:=u0a (q:=w.heap.size) (u0d hb1 (some (w.heap.size+1))) (u0c _ _) (by omega)
 have hz1:=hb1.size
 simp only [u0e] at hz1
 have HB1:=hid (seq (u0j _ _) hb1)
 obtain ⟨E,hEd⟩:∃ E:Rv,E=⟨w1.heap.size,w1.heap.size+1,x,c,A,L⟩:=⟨_,rfl⟩
 have hE:E.Ok:=by
  subst hEd
  exact ⟨Nat.lt_succ_self _,by show x≠w1.heap.size; omega,by show x<w1.heap.size+1; omega,by show L.length≤4000; omega,hA,fun t ht=>⟨(HWF.out t ht).1,(HWF.out t ht).2.1⟩⟩
 have hP2:Rp E (w1.alloc (.cells #[.slice A L.length c,.int .i64 0,.bool false] 81)) 0 false:=by
  subst hEd
  exact ⟨u0c _ _,fun j u hu=>past (hcs j u hu) _,Nat.zero_le _,by show w1.heap.size+1≤_; simp only [u0e]; omega⟩
 have hEb:E.b=w1.heap.size:=by rw [hEd]
 have hEL:E.L=L:=by rw [hEd]
 have hEk:E.ks.drop 0=L.map key:=by rw [hEd]; rfl
 have hEc:(Value.slice E.A E.L.length E.c)=.slice A L.length c:=by rw [hEd]
 have HEX:=rprogram hE (fun t ht=>by rw [hEL] at ht; obtain ⟨_,h1,h2⟩:=HKR.out (key t) (List.mem_map_of_mem ht); exact ⟨h1,h2⟩) _ 0 false hP2
 rw [hEb] at HEX
 have HEX2:=hid HEX
 have HE:=hid hE
 clear HEX hown hcs hb1 hA hP2 hEd
 go_wp2_with fail
 refine HEX2.out.mono ?_
 rintro e w3 ⟨hg3,b3,j3,v3,a3,hR,hp3,rfl,⟨A3,m3,c3,B3,mb3,cb3,rfl,ha3⟩⟩
 rw [hEb] at hg3
 have hz3:=hg3.size
 simp only [u0e] at hz3 ha3
 obtain ⟨_,_,_,l3⟩:=u0a (q:=w.heap.size) hg3 (u0g (by omega) l1) (by omega)
 have hR:PP (L.map key)=mkR b3 a3 (E.ks.drop j3):=by rw [u0l,hEk] at hR; exact hR
 have hrl:(E.ks.drop j3).length=L.length - j3:=by unfold Rv.ks; rw [hEL]; simp
 have hj3:=hp3.hi
 rw [hEL] at hj3
 have hp3':=hp3.keepB HE.out (u0j w3 (.cells #[.slice A3 m3 c3,.slice B3 mb3 cb3] 26))
 obtain ⟨d0,d1,d2,_,_⟩:=hp3'.c
 rw [hEb] at d0 d1 d2
 rw [hEc] at d0
 have HW:=hid (rwhere HE.out _ j3 b3 hp3' s (by unfold maxLen; omega))
 rw [hEb,hEL] at HW
 have HB3:Hid (∀ w',Below w3.heap.size w3 w'→Below w.heap.size w w'):=hid fun w' h=>(HB1.out.trans (Below.grown (Below.refl _ _) (u0b (World.grownBy_alloc w1 _ _) hg3) (by omega) (fun k hk=>by cases hk; omega))).trans (h.mono (by omega))
 have HL3:=hid l3
 have HR:=hid hR
 have HRL:=hid hrl
 have HA3:=hid ha3
 clear hg3 hp3 hp3' hR hrl l3 ha3 l1
 cases b3
 rotate_left 1
 ·have HM:Hid (u9i s.data.toList=(⟨[],[]⟩,posR L s.size j3,2)):=hid (by
   refine progM_bad ?_ (by decide)
   rw [HPM.out]
   unfold progR
   rw [HR.out]
   unfold outM whole
   simp only [mk_true,no_bind]
   rw [posR_at (by omega) _ HRL.out])
  go_wp2_with fail
  refine HW.out.mono ?_
  rintro e w4 ⟨rfl,hb4⟩
  obtain ⟨_,_,_,l4⟩:=u0a (q:=w.heap.size) (u0d hb4 (some (w.heap.size+1))) (u0g (by omega) HL3.out) (by omega)
  have HB4:=hid (HB3.out _ (seq (u0j _ _) hb4))
  clear hb4
  go_wp2
  refine ret_p3 rfl rfl rfl rfl rfl (put2 _ _ l4) ⟨?_,_,_,_,_,_,_,_,_,_,rfl,pg_none,HM.out.symm⟩
  repeat (first | with_reducible exact Below.refl _ _ | with_reducible refine Below.alloc ?_ (by first | omega | (simp only [u0e,u0h,u0m]; omega) | (simp; omega) | (simp; done)) _ | with_reducible refine Below.setCell ?_ (by first | omega | (simp only [u0e,u0h,u0m]; omega) | (simp; omega) | (simp; done)) _ | with_reducible refine Below.drew ?_)
  exact HB4.out
 ·have hnil:E.ks.drop j3=[]:=PP_end (by have:=HR.out; rw [u1p] at this; exact this)
  have hok:u4x (⟨[],[]⟩:Pg) progR s.data.toList=(pg a3,0,0):=by
   rw [HPM.out]
   unfold progR
   rw [HR.out,hnil]
   rfl
  have hrg:=progP_rgs (i:=0) hok.symm
  have HV:Hid (∀ w',Below w3.heap.size w3 w'→Calls Tryz.prog 27 #[.agg #[.slice A3 m3 c3,.slice B3 mb3 cb3]] w' fun e w2=>e=.returned (.bool (u2p (pg a3)))∧Below w'.heap.size w' w2):=hid fun w' h =>
   rvalid_27 (pg a3) w' A3 m3 c3 B3 mb3 cb3 (pgar_in (pgin_of HA3.out (fun p u hp hu=>(h.cell (World.block_lt_of_cell? w3 _ hu)).trans hu) h.size hrg))
  have HRG:=hid hrg
  have HOKM:=hid hok
  clear hok hrg HW
  cases hv:u2p (pg a3)
  ·have HM:Hid (u9i s.data.toList=(⟨[],[]⟩,0,5)):=hid (by unfold u9i; simp only [HOKM.out,hv]; rfl)
   rw [hv] at HV
   clear hv
   go_wp2_with fail
   refine (HV.out _ (u0j _ _)).mono ?_
   rintro e w4 ⟨rfl,hb4⟩
   obtain ⟨_,_,_,l4⟩:=u0a (q:=w.heap.size) (u0d hb4 (some (w.heap.size+1))) (u0g (by omega) HL3.out) (by omega)
   have HB4:=hid (HB3.out _ (seq (u0j _ _) hb4))
   clear hb4
   go_wp2
   refine ret_p3 rfl rfl rfl rfl rfl (put2 _ _ l4) ⟨?_,_,_,_,_,_,_,_,_,_,rfl,pg_none,HM.out.symm⟩
   repeat (first | with_reducible exact Below.refl _ _ | with_reducible refine Below.alloc ?_ (by first | omega | (simp only [u0e,u0h,u0m]; omega) | (simp; omega) | (simp; done)) _ | with_reducible refine Below.setCell ?_ (by first | omega | (simp only [u0e,u0h,u0m]; omega) | (simp; omega) | (simp; done)) _ | with_reducible refine Below.drew ?_)
   exact HB4.out
  ·have HM:Hid (u9i s.data.toList=(pg a3,0,0)):=hid (by unfold u9i; simp only [HOKM.out,hv]; rfl)
   rw [hv] at HV
   clear hv
   go_wp2_with fail
   refine (HV.out _ (u0j _ _)).mono ?_
   rintro e w4 ⟨rfl,hb4⟩
   obtain ⟨_,_,_,l4⟩:=u0a (q:=w.heap.size) (u0d hb4 (some (w.heap.size+1))) (u0g (by omega) HL3.out) (by omega)
   obtain ⟨_,_,_,m4⟩:=u0a (q:=w3.heap.size) (u0d hb4 (some (w.heap.size+1))) (u0c _ _) (by omega)
   have hk4:Kp (w1.heap.size+1) w3 w4:=fun p u hp hu=>(hb4.cell (by have:=World.block_lt_of_cell? w3 _ hu; simp only [u0e]; omega)).trans (past hu _)
   have hz4:=hb4.size
   simp only [u0e] at hz4
   have HB4:=hid (HB3.out _ (seq (u0j _ _) hb4))
   clear hb4
   go_wp2
   refine ret_p3 rfl rfl rfl rfl rfl (put2 _ _ l4) ⟨?_,_,_,_,_,_,_,_,_,_,rfl,pgin_of HA3.out ?_ tSZ HRG.out,HM.out.symm⟩
   ·repeat (first | with_reducible exact Below.refl _ _ | with_reducible refine Below.alloc ?_ (by first | omega | (simp only [u0e,u0h,u0m]; omega) | (simp; omega) | (simp; done)) _ | with_reducible refine Below.setCell ?_ (by first | omega | (simp only [u0e,u0h,u0m]; omega) | (simp; omega) | (simp; done)) _ | with_reducible refine Below.drew ?_)
    exact HB4.out
   ·repeat (first | with_reducible exact u5t _ _ | with_reducible refine kp_alloc ?_ _ | (with_reducible refine kp_set ?_ ?_ _; rotate_left 1; focus (first | omega | (simp only [u0e,u0h,u0m]; omega) | (simp; omega) | (simp; done))) | (with_reducible refine u7x ?_ (by with_reducible assumption) ?_; rotate_left 1; focus (first | omega | (simp only [u0e,u0h,u0m]; omega) | (simp; omega) | (simp; done))))
    exact hk4
theorem refParse_16 (s:ByteArray) (hs:s.size≤maxLen) (w:World):Calls Tryz.prog 16 #[.string s] w (ProgOut s w):=by
 by_cases h4:4000<s.size
 ·refine refParse_err s w 0 5 (.inr rfl) (fun w=>rtokens_long s hs h4 w) (progM_bad ?_ (by decide))
  unfold u4x; rw [if_pos (by rw [u0n]; exact h4)]
 ·cases hsc:(sc s.data.toList 0).2 with
  | none=>exact refParse_ok s (by omega) hsc w
  | some i =>
   refine refParse_err s w i 2 (.inl rfl) (fun w=>(rtokens_short one_any s (by omega) w).mono fun e w' ⟨hp,hb⟩=>⟨?_,hb⟩) (progM_bad ?_ (by decide))
   ·rcases hp with ⟨v,hn,_⟩ | ⟨j,hj,he⟩
    ·rw [hsc] at hn; cases hn
    ·rw [hsc] at hj; cases hj; exact he
   ·unfold u4x; rw [if_neg (by rw [u0n]; omega),hsc]
theorem parses_walk (s:ByteArray) (hs:s.size≤maxLen) (w:World) (hG:Gl w):Calls Tryz.prog 3 #[.string s] w fun e w'=>e=.returned (.bool true)∧Below w.heap.size w w':=by
 have HG:=hid hG
 clear hG
 have HE:=hid (parse_15 s hs)
 have HR:=hid (refParse_16 s hs)
 have hs':=hs
 unfold maxLen at hs'
 by_cases h6:(6000:Int)<s.size
 ·clear HE HR
  go_enter Tryz.func3,Tryz.ntmps3
  go_wp2_with fail
  refine (awake_any _ HG.out).mono ?_
  rintro e w9 ⟨rfl,hb9⟩
  have HB9:=hid hb9
  clear hb9
  go_wp2
  go_ret
  exact ⟨rfl,HB9.out⟩
 go_enter Tryz.func3,Tryz.ntmps3
 go_wp2_with fail
 refine (HE.out _ HG.out).mono ?_
 rintro e w1 ⟨hb1,A,m,c,B,mb,cb,q,i,er,rfl,ha,hM⟩
 have HB1:=hid hb1
 have HA:=hid ha
 have HM:=hid hM
 have hz1:=hb1.size
 clear hb1 ha hM
 go_wp2_with fail
 refine (HR.out _).mono ?_
 rintro e w2 ⟨hb2,A2,m2,c2,B2,mb2,cb2,q2,i2,er2,rfl,hb,hM2⟩
 have hMM:=HM.out.trans hM2.symm
 simp only [Prod.mk.injEq] at hMM
 obtain ⟨rfl,rfl,rfl⟩:=hMM
 obtain ⟨_,_,_,l2⟩:=u0a (q:=w1.heap.size) (u0d hb2 (some (w1.heap.size+1))) (u0c _ _) (by omega)
 have HW2:=hid (seq (u0j w1 (.cells #[.slice A m c,.slice B mb cb] 26)) hb2)
 have HB2:=hid (seq HB1.out HW2.out)
 have HC2:=hid hb
 have hz2:=hb2.size
 simp only [u0e] at hz2
 clear hb2 hb hM2 HM HE HR
 go_wp2_with fail
 refine (same_17 q _ A m c B mb cb A2 m2 c2 B2 mb2 cb2 ((HA.out.below HW2.out).below (u0j _ _)) (HC2.out.below (u0j _ _))).mono ?_
 rintro e w3 ⟨rfl,hb3⟩
 have HB3:=hid (seq (seq HB2.out (u0j _ _)) hb3)
 have e1:(i == i)=true:=by simp
 have e2:(er == er)=true:=by simp
 clear hb3
 go_wp2_with fail
 refine (awake_any _ (HG.out.bel HB3.out)).mono ?_
 rintro e w9 ⟨rfl,hb9⟩
 have HB9:=hid (seq HB3.out hb9)
 clear hb9
 go_wp2
 go_ret
 exact ⟨rfl,HB9.out⟩
end Go.Proofs.YtbkhnilbgocpnaaGreatDoor.SynC
