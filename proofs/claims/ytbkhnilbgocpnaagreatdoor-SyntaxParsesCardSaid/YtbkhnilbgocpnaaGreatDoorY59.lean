import Derived.Test.YtbkhnilbgocpnaaGreatDoorY0
import Derived.Test.YtbkhnilbgocpnaaGreatDoorY41
import Derived.Test.YtbkhnilbgocpnaaGreatDoorY28
import Derived.Test.YtbkhnilbgocpnaaGreatDoorY8
set_option linter.unusedVariables false
set_option linter.unusedSimpArgs false
set_option maxRecDepth 100000
set_option maxHeartbeats 2000000
open Go.Lib (hid)
namespace Go.Proofs.YtbkhnilbgocpnaaGreatDoor.SynC
open Go.Proofs.YtbkhnilbgocpnaaGreatDoor.LexC
open Go Go.ChangeShapes Go.WideShapes Go.ChangeAt Go.RowKit Go.Deep
theorem u1f {E:Rv} (hE:E.Ok) (w:World) (i:Nat) (b:Bool) (h:Rp E w i b) (s:List UInt8) (hh:hitB E i b s=false) :
  Calls Tryz.prog 80 #[.pointer (some ⟨E.b,0,none⟩),.string (bs s)] w fun e w'=>w.grownBy w' (some E.b)∧e=.returned (.bool false)∧Rp E w' i b :=
 (reat hE w i b h s).mono fun e w' ⟨hg,hr⟩=>⟨hg,by
  rcases hr with ⟨h1,_⟩ | ⟨_,h2⟩
  ·rw [hh] at h1; cases h1
  ·exact h2⟩
theorem u5m {E:Rv} (hE:E.Ok) (w:World) (i:Nat) (b:Bool) (h:Rp E w i b) (s:List UInt8) (hh:hitB E i b s=true) :
  Calls Tryz.prog 80 #[.pointer (some ⟨E.b,0,none⟩),.string (bs s)] w fun e w'=>w.grownBy w' (some E.b)∧e=.returned (.bool true)∧Rp E w' (i+1) false :=
 (reat hE w i b h s).mono fun e w' ⟨hg,hr⟩=>⟨hg,by
  rcases hr with ⟨_,h2⟩ | ⟨h1,_⟩
  ·exact h2
  ·rw [hh] at h1; cases h1⟩
theorem rx1 {E:Rv} (hE:E.Ok) (w:World) (i:Nat) (b:Bool) (h:Rp E w i b):Calls Tryz.prog 49 #[.pointer (some ⟨E.b,0,none⟩),.int .i64 1] w (Ro E w (at0 E i b (PE (.ex 1))) (RxV w.heap.size)):=rx_all hE i b 1 w (by decide) (by decide) h
def VO (_:World) (v:Value) (op:Int):Prop:=v=.int .i64 op
theorem rneedF_yes {E:Rv} {i:Nat} (hi:i≤E.L.length) (k:Nat) (hk:k<6) (h:hit (u9n k).1 (E.ks.drop i)=true):needF' (E.ks.drop i)=.ok (u9n k).2 (E.ks.drop (i+1)):=by
 obtain ⟨n,hd⟩:=u6p hi h
 rw [hd]
 unfold needF' needF
 simp only [foldOf_hit k hk n]
theorem rfold {E:Rv} (hE:E.Ok) (w:World) (i:Nat) (b:Bool) (hp0:Rp E w i b):Calls Tryz.prog 196 #[.pointer (some ⟨E.b,0,none⟩)] w (Ro E w (at0 E i b needF') VO):=by
 have hsz:=hp0.sz
 have hlt:=hE.lt
 have hi:=hp0.hi
 have HP:=hid hp0
 clear hp0
 go_enter Tryz.func196,Tryz.ntmps196
 go_wp2_with fail
 go_loopw [5] (fun n wr=>∃ k:Nat,k≤6∧n=.int .i64 k∧(∀ m,m<k→hitB E i b (u9n m).1=false)∧w.grownBy wr (some E.b)∧Rp E wr i b∧wr.heap[w.heap.size]? = some (.cells #[.string (bs [97,100,100]),.string (bs [109,105,110]),.string (bs [109,97,120]),.string (bs [97,110,100]),.string (bs [111,114]),.string (bs [120,111,114])] 9 (0,0))∧wr.heap[w.heap.size+1]? = some (.cells #[.int .i64 0,.int .i64 18,.int .i64 19,.int .i64 5,.int .i64 6,.int .i64 7] 3 (0,0))) (fun n _=>6 - (intOf n).toNat)
 case atStart=>exact ⟨0,Nat.zero_le _,rfl,fun m hm=>absurd hm (Nat.not_lt_zero m),tGB,HP.out.keep hE tBEL,u0g (by simp) (u0c _ _),u0k (by simp)⟩
 case round =>
  obtain ⟨k,hk,rfl,hno,hgr,hp,hs,ho⟩:=hrel
  have HK:=hid hno
  have hz0:=hgr.size
  have HPR:=hid hp
  have lE:=hp.lt
  clear hno hp
  by_cases hlt4:k<6
  ·obtain ⟨g,hg⟩:∃ g,(u9n k).1=g:=⟨_,rfl⟩
   obtain ⟨z,hz⟩:∃ z,(u9n k).2=z:=⟨_,rfl⟩
   have HG:=hid hg
   have HZ:=hid hz
   have hin:(0:Int)≤k∧(k:Int)<6:=⟨by omega,by omega⟩
   have h6:k=0∨k=1∨k=2∨k=3∨k=4∨k=5:=by omega
   have dk:wr.cell? ⟨w.heap.size,k,none⟩=some (.string (bs g)):=by
    rw [cell_of_row _ _ k _ _ _ hs,← hg]
    rcases h6 with rfl | rfl | rfl | rfl | rfl | rfl <;> rfl
   have ek:wr.cell? ⟨w.heap.size+1,k,none⟩=some (.int .i64 z):=by
    rw [cell_of_row _ _ k _ _ _ ho,← hz]
    rcases h6 with rfl | rfl | rfl | rfl | rfl | rfl <;> rfl
   have ek2:∀ w1,wr.grownBy w1 (some E.b)→w1.cell? ⟨w.heap.size+1,k,none⟩=some (.int .i64 z):=fun w1 h=>h.cell ek (by simp; omega)
   clear hg hz h6
   go_wp2_with fail
   refine (reat hE _ i b HPR.out g).mono ?_
   rintro e y1 ⟨gy1,⟨hh,rfl,py1⟩ | ⟨hh,rfl,py1⟩⟩
   ·have e1:=ek2 _ gy1
    have HH:=hid hh
    clear hh ek ek2
    go_wp2
    go_ret
    obtain ⟨rfl,h1,_⟩:=u2n HH.out
    rw [← HG.out] at h1
    exact ⟨tGB,false,i+1,_,z,by rw [u0l,rneedF_yes hi k hlt4 h1,HZ.out]; rfl,py1,rfl,rfl⟩
   ·have s1:=hkeep gy1 hs (by omega)
    have o1:=hkeep gy1 ho (by omega)
    have HH:=hid hh
    clear hh ek ek2
    go_wp2
    go_roundw
    case rel=>exact ⟨k+1,by omega,by go_num,fun m hm=>(by
     by_cases e:m=k
     ·rw [e,HG.out]; exact HH.out
     ·exact HK.out m (by omega)),tGB,py1,s1,o1⟩
    case measure=>simp [intOf]; omega
  ·obtain ⟨c0,c1,c2,f1,f2⟩:=HPR.out.c
   have HR:Hid (at0 E i b needF'=.no (E.ks.drop i)):=hid (by
    cases b
    ·rw [u0l]
     exact needF_no fun m hm=>by have:=HK.out m (by omega); simpa [hitB] using this
    ·rfl)
   clear c0 c1 f1
   go_wp2
   go_ret
   exact ⟨u1a hgr (.inl rfl) _,true,i,_,0,HR.out,HPR.out.spoil hE,rfl,rfl⟩
def nam2R (x:List UInt8) (r:List K):Res St:=if hit [91] r then putR x r else setR x r
theorem put_R {x:List UInt8} {l:List K}:putR x l=(u1k [91] l).bind fun _ r1=>(PE (.ex 1) r1).bind fun a r2=>(u1k [93] r2).bind fun _ r3=>(u1k [61] r3).bind fun _ r4=>(PE (.ex 1) r4).bind fun b r5=>.ok (.mk 2 0 x [a,b] [] []) r5:=by
 unfold putR u9p
 simp only [u0y,u0z]
theorem set_R {x:List UInt8} {l:List K}:setR x l=(u1k [61] l).bind fun _ r1=>(PE (.ex 1) r1).bind fun a r2=>.ok (.mk 1 0 x [a] [] []) r2:=by
 unfold setR u7d
 simp only [u0y,u0z]
theorem needS_hit {E:Rv} {i:Nat} {s:List UInt8} (hi:i≤E.L.length) (h:hit s (E.ks.drop i)=true) {β:Type} (f:Unit→List K→Res β):(u1k s (E.ks.drop i)).bind f=f () (E.ks.drop (i+1)):=by
 rw [rneedS_yes h hi]; rfl
theorem kp_dr {h:Nat} {u w:World} (k:Kp h u w):Kp h u w.drew:=k
theorem rnamed2 {E:Rv} (hE:E.Ok) (x:List UInt8) (w:World) (i:Nat) (b:Bool) (hp0:Rp E w i b) :
  Calls Tryz.prog 197 #[.pointer (some ⟨E.b,0,none⟩),.string (bs x)] w (Ro E w (at0 E i b (nam2R x)) (RsV w.heap.size)):=by
 have hsz:=hp0.sz
 have hlt:=hE.lt
 have hi:=hp0.hi
 have HP:=hid (hp0.keep hE (show Below E.base w (w.alloc (.cells #[.int .i64 0,.int .i64 0,.string ⟨#[]⟩,.slice none 0 0,.slice none 0 0,.slice none 0 0] 136)) from tBEL))
 have lE:=hp0.lt
 clear hp0
 cases hh:hitB E i b [91]
 ·have HH:=hid hh
  have HT:Hid (at0 E i b (nam2R x)=at0 E i b fun l=>(u1k [61] l).bind fun _ r1=>(PE (.ex 1) r1).bind fun a r2=>.ok (.mk 1 0 x [a] [] []) r2):=hid (by
   cases b
   ·have:hit [91] (E.ks.drop i)=false:=by simpa [hitB] using hh
    rw [u0l,u0l]
    unfold nam2R
    rw [this]
    exact set_R
   ·rfl)
  clear hh
  go_enter Tryz.func197,Tryz.ntmps197
  go_wp2_with fail
  refine (u1f hE _ i b HP.out [91] HH.out).mono ?_
  rintro e w1 ⟨g1,rfl,p1⟩
  have z1:=g1.size
  (try simp only [u0e,u0h,u0m] at z1)
  have l1:=hkeep (q:=w.heap.size) g1 (u0c _ _) (by omega)
  go_wp2_with fail
  refine (rneed hE _ i b p1 [61]).mono ?_
  rintro e w2 ⟨g2,b2,j2,v2,u2,hR,p2,rfl,rfl⟩
  have R2:=hid hR
  have z2:=g2.size
  have l2:=hkeep (q:=w.heap.size) g2 l1 (by omega)
  clear hR
  go_wp2_with fail
  refine (rx1 hE _ j2 b2 p2).mono ?_
  rintro e w3 ⟨g3,b3,j3,v3,a3,hR,p3,rfl,⟨ak,ao,an,ax,aA,am,ac,rfl,ha3⟩⟩
  have R3:=hid hR
  have z3:=g3.size
  have l3:=hkeep (q:=w.heap.size) g3 l2 (by omega)
  obtain ⟨c3,f3,_⟩:=u0i l3
  clear hR
  have HM:=hid (show at0 E i b (nam2R x)=mkR b3 (St.mk 1 0 x [a3] [] []) (E.ks.drop j3) by
   rw [HT.out,u1y R2.out,u1i R3.out]
   exact u3j fun a=>St.mk 1 0 x [a] [] [])
  go_wp2_with (refine u3b rfl rfl rfl tRES ?_; exact ⟨tGB,b3,j3,_,_,HM.out,p3.keep hE tBEL,rfl,u7f (sl_one (nb:=w3.heap.size) _ _ _ _ _ _ _ tLOC tSZ (u1s ha3 tKP tSZ tSZ)) u2h u2h⟩)
 ·have HH:=hid hh
  obtain ⟨rfl,h1,hil⟩:=u2n hh
  have HT:Hid (at0 E i false (nam2R x)=at0 E (i+1) false fun r1=>(PE (.ex 1) r1).bind fun a r2=>(u1k [93] r2).bind fun _ r3=>(u1k [61] r3).bind fun _ r4=>(PE (.ex 1) r4).bind fun b r5=>.ok (.mk 2 0 x [a,b] [] []) r5):=hid (by
   rw [u0l,u0l]
   unfold nam2R
   rw [h1,if_pos rfl,put_R,needS_hit hi h1])
  clear hh h1
  go_enter Tryz.func197,Tryz.ntmps197
  go_wp2_with fail
  refine (u5m hE _ i false HP.out [91] HH.out).mono ?_
  rintro e w1 ⟨g1,rfl,p1⟩
  have z1:=g1.size
  (try simp only [u0e,u0h,u0m] at z1)
  have l1:=hkeep (q:=w.heap.size) g1 (u0c _ _) (by omega)
  go_wp2_with fail
  refine (rx1 hE _ (i+1) false p1).mono ?_
  rintro e w2 ⟨g2,b2,j2,v2,a2,hR,p2,rfl,⟨ak,ao,an,ax,aA,am,ac,rfl,ha2⟩⟩
  have R2:=hid hR
  have z2:=g2.size
  have l2:=hkeep (q:=w.heap.size) g2 l1 (by omega)
  clear hR
  go_wp2_with fail
  refine (rneed hE _ j2 b2 (p2.keep hE tBEL) [93]).mono ?_
  rintro e w3 ⟨g3,b3,j3,v3,u3,hR,p3,rfl,rfl⟩
  have R3:=hid hR
  have z3:=g3.size
  (try simp only [u0e,u0h,u0m] at z3)
  have l3:=hkeep (q:=w.heap.size) g3 (u0g (by omega) l2) (by omega)
  have m3:=hkeep (q:=w2.heap.size) g3 (u0c _ _) (by omega)
  clear hR
  go_wp2_with fail
  refine (rneed hE _ j3 b3 p3 [61]).mono ?_
  rintro e w4 ⟨g4,b4,j4,v4,u4,hR,p4,rfl,rfl⟩
  have R4:=hid hR
  have z4:=g4.size
  have l4:=hkeep (q:=w.heap.size) g4 l3 (by omega)
  have m4:=hkeep (q:=w2.heap.size) g4 m3 (by omega)
  obtain ⟨d4,_,_⟩:=u0i m4
  have P4:=hid p4
  have L4:=hid l4
  have M4:=hid m4
  clear hR p4 l3 m3
  go_wp2_with fail
  go_region_law (first | (go_simp; go_at_call 49; refine (rx1 hE _ j4 b4 (P4.out.keep hE tBEL)).mono ?_; rintro e w5 ⟨g5,b5,j5,v5,a5,hR,p5,rfl,⟨bk,bo,bn,bx,bA,bm,bc,rfl,ha5⟩⟩; have R5:=hid hR; clear hR; have z5:=g5.size; have l5:=hkeep (q:=w.heap.size) g5 (u2d L4.out) (by omega); have m5:=hkeep (q:=w2.heap.size) g5 (u2d M4.out) (by omega); obtain ⟨d5,_,_⟩:=u0i m5; obtain ⟨c5,f5,_⟩:=u0i l5))
  all_goals
   simp only [u0m] at z5
   have A2:=u1s ha2 (u7x (kp_dr (show Kp w1.heap.size w2 w4 from tKP)) g5 (by omega)) (Nat.le_refl _) (by omega)
   have HM:=hid (show at0 E i false (nam2R x)=mkR b5 (St.mk 2 0 x [a2,a5] [] []) (E.ks.drop j5) by
    rw [HT.out,u1y R2.out,u1i R3.out,u1i R4.out,u1i R5.out]
    exact u3j fun b=>St.mk 2 0 x [a2,b] [] [])
   go_wp2_with (refine u3b rfl rfl rfl tRES ?_; exact ⟨tGB,b5,j5,_,_,HM.out,p5.keep hE tBEL,rfl,u7f (sl_two (nb:=w5.heap.size) _ _ _ _ _ _ _ _ _ _ _ _ _ _ tLOC tSZ (u1s A2 tKP tSZ tSZ) (u1s ha5 tKP tSZ tSZ)) u2h u2h⟩)
def RsC (E:Rv) (i:Nat):Prop:=∀ (w:World),Rp E w i false→Calls Tryz.prog 175 #[.pointer (some ⟨E.b,0,none⟩)] w (Ro E w (at0 E i false u2s) (RsV w.heap.size))
def RrC (E:Rv) (i:Nat) (b:Bool):Prop:=∀ (w:World),Rp E w i b→Calls Tryz.prog 138 #[.pointer (some ⟨E.b,0,none⟩)] w (Ro E w (at0 E i b PR) (SsV w.heap.size))
def RbC (E:Rv) (i:Nat) (b:Bool):Prop:=∀ (w:World),Rp E w i b→Calls Tryz.prog 83 #[.pointer (some ⟨E.b,0,none⟩)] w (Ro E w (at0 E i b u5s) (SsV w.heap.size))
theorem stmt_len {l:List K} {s:St} {r:List K} (h:u2s l=.ok s r):r.length<l.length:=by
 cases l with
 | nil=>rw [stmt_nil] at h; cases h
 | cons t q =>
  rw [stmt_eq] at h
  have:=stmtP_len PR_len t q _ _ h
  simp only [List.length_cons]; omega
theorem block_len {l:List K} {s:List St} {r:List K} (h:u5s l=.ok s r):r.length<l.length:=by
 obtain ⟨u,q,e1,e2⟩:=u0t h
 have h1:=lenS e1
 have h2:=PR_len _ _ _ e2
 omega
theorem mk_nextA {α β γ:Type} {E:Rv} {i j:Nat} {b b':Bool} {a:α} {a':β} {f:α→List K→Res β} (h:at0 E i b (f a)=mkR b' a' (E.ks.drop j)) (k:α→β→List K→Res γ) :
  (mkR b a (E.ks.drop i)).bind (fun e r=>(f e r).bind (k e))=(mkR b' a' (E.ks.drop j)).bind (k a):=by
 rw [← u1i h k]
 cases b <;> rfl
theorem rS_both {E:Rv} {i j:Nat} {b b':Bool} {s:List UInt8} {u:Unit} (hj:j≤E.L.length) (h:at0 E i b (u1k s)=mkR b' u (E.ks.drop j)) (hb:b'=false):b=false∧i<j:=by
 refine ⟨?_,rS_adv hj h hb⟩
 cases b
 ·rfl
 ·rw [u8g] at h; subst hb; cases h
theorem rrest {E:Rv} (hE:E.Ok) (w:World) (i:Nat) (b:Bool) (hS:∀ j,i≤j→RsC E j) (hp0:Rp E w i b) :
  Calls Tryz.prog 138 #[.pointer (some ⟨E.b,0,none⟩)] w (Ro E w (at0 E i b PR) (SsV w.heap.size)):=by
 have HS:=hid hS
 have hsz:=hp0.sz
 have hlt:=hE.lt
 have hlen:=hE.len
 have HP:=hid hp0
 clear hS hp0
 go_enter Tryz.func138,Tryz.ntmps138
 go_wp2_with fail
 go_loopw [3] (fun v wr=>∃ (j:Nat) (d:Bool) (L:List St) (A:Option Addr) (m c:Nat),v=.slice A m c∧(d=false→i≤j)∧(d=false→L.length≤j)∧L.length≤E.L.length+1∧w.grownBy wr (some E.b)∧Rp E wr j d∧at0 E i b PR=(mkR d L (E.ks.drop j)).bind (fun L r=>(PR r).bind fun ss q=>.ok (L++ss) q)∧OwnL rdS 136 6 wr w.heap.size (.slice A m c) L) (fun _ wr=>muR E wr)
 case atStart=>exact ⟨i,b,[],none,0,0,rfl,fun _=>Nat.le_refl _,fun _=>by simp,by simp,tGB,HP.out,by
  cases b
  ·rw [u0l,u1p,u0z]; simp only [List.nil_append]; exact (u9f _).symm
  ·rfl,OwnL.nil _ _⟩
 case round =>
  obtain ⟨j,d,L,A,m,c,rfl,hij,hlj,hkl,hgr,hp,hI,hown⟩:=hrel
  have HI:=hid hI
  have HO:=hid hown
  have HPR:=hid hp
  have hz0:=hgr.size
  have hjl:=hp.hi
  obtain ⟨c0,c1,c2,f1,f2⟩:=hp.c
  clear hI hown hp c0 c1 f1 f2
  cases d
  ·have hij2:=hij rfl
   have hlj2:=hlj rfl
   clear hij hlj
   go_wp2_with fail
   refine (reat hE _ j false HPR.out [125]).mono ?_
   rintro e w1 ⟨g1,⟨hh,rfl,p1⟩ | ⟨hh,rfl,p1⟩⟩
   ·have hS:=(HO.out.keep rdS_ok g1 (by omega)).slS
    obtain ⟨_,h1,_⟩:=u2n hh
    have HR:Hid (at0 E i b PR=mkR false L (E.ks.drop (j+1))):=hid (by
     rw [HI.out,u1p,u0z,PR_step,h1,if_pos rfl,List.drop_drop,u0z,List.append_nil]; rfl)
    clear h1 hh
    go_wp2
    go_ret
    exact ⟨tGB,false,j+1,_,L,HR.out,p1,rfl,⟨A,m,c,rfl,hS⟩⟩
   ·have hN:hit [125] (E.ks.drop j)=false:=by simpa [hitB] using hh
    have HN:=hid hN
    have z1:=g1.size
    clear hh hN
    go_wp2_with fail
    refine (HS.out j hij2 _ p1).mono ?_
    rintro e w3 ⟨g3,b3,j3,v3,s,hR,p3,rfl,⟨sk,so,sx,A1,m1,c1,B,m2,c2,C,m3,c3,rfl,ha⟩⟩
    have HR3:=hid hR
    have HA:=hid ha
    have z3:=g3.size
    have G3:=hid (u0b (u0b hgr g1) g3)
    have HO3:=hid (((HO.out.keep rdS_ok g1 (by omega)).keep rdS_ok g3 (by omega)).alloc rdS_ok (by omega) (.cells #[.int .i64 sk,.int .i64 so,.string (bs sx),.slice A1 m1 c1,.slice B m2 c2,.slice C m3 c3] 136))
    clear hR ha
    go_wp2_with (refine u1r rdS_ok rfl _ _ 69 rfl _ 104 info136 Tryz.underlying69 rfl (by decide) (by decide) w.heap.size _ L rfl HO3.out w3.heap.size rfl #[.int .i64 sk,.int .i64 so,.string (bs sx),.slice A1 m1 c1,.slice B m2 c2,.slice C m3 c3] (0,0) (u0c _ _) rfl (by intro u hu; simp at hu; rcases hu with rfl | rfl | rfl | rfl | rfl | rfl <;> rfl) s w1.heap.size (u6n HA.out tKP tSZ tSZ) (by omega) (fun g hg=>by have:=(HO.out.lt g hg).2; omega) (by omega) tSZ ?_; intro v' w4 hown4 hg4 _; have HO4:=hid hown4; clear hown4)
    have hz4:=hg4.size
    (try simp only [u0e,u0h,u0m] at hz4)
    have hown0:=fun g hg=>(HO.out.lt g hg).1
    have gw4:w.grownBy w4 (some E.b):=u7p (u0o G3.out _) hg4 hown0
    have p4:Rp E w4 j3 b3:=(p3.keep hE (show Below E.base w3 (w3.alloc _) from tBEL)).grown hE hg4 (fun g hg=>by have:=hown0 g hg; omega)
    obtain ⟨A',m',c',hv'⟩:=HO4.out.slS.form
    subst hv'
    have hj3:=fun hb:b3=false=>mk_adv p3.hi (fun l a r h=>stmt_len h) HR3.out hb
    have hj3l:=p3.hi
    go_roundw
    case rel =>
     refine ⟨j3,b3,L++[s],A',m',c',rfl,fun hb=>by have:=hj3 hb; omega,fun hb=>by have:=hj3 hb; simp; omega,by simp; omega,gw4,p4,?_,HO4.out⟩
     have h3:=HR3.out
     rw [u0l] at h3
     rw [HI.out,u1p,u0z,PR_step,HN.out,h3]
     cases b3
     ·simp only [u1p,u0z,Bool.false_eq_true,if_false,u0y,List.append_assoc,List.singleton_append]
     ·rfl
    case measure =>
     rw [HPR.out.mu,p4.mu]
     cases b3
     ·have:=hj3 rfl
      simp; omega
     ·simp; omega
  ·have hS:=HO.out.slS
   go_wp2
   go_ret
   exact ⟨hgr,true,j,_,L,by rw [HI.out]; rfl,HPR.out,rfl,⟨A,m,c,rfl,hS⟩⟩
theorem rrest_bad {E:Rv} (hE:E.Ok) (i:Nat):RrC E i true:=by
 intro w hp
 have HP:=hid hp
 obtain ⟨c0,c1,c2,f1,f2⟩:=hp.c
 clear hp c0 c1 f1 f2
 go_enter Tryz.func138,Tryz.ntmps138
 go_wp2_with fail
 go_loopw [3] (fun v wr=>v=.slice none 0 0∧wr=w) (fun _ _=>0)
 case atStart=>exact ⟨rfl,rfl⟩
 case round =>
  obtain ⟨rfl,rfl⟩:=hrel
  go_wp2
  go_ret
  exact ⟨u0q _ _,true,i,_,[],rfl,HP.out,rfl,⟨none,0,0,rfl,u2h⟩⟩
theorem rblock {E:Rv} (hE:E.Ok) (w:World) (i:Nat) (b:Bool) (hR:∀ j d,(d=false→b=false∧i<j)→RrC E j d) (hp0:Rp E w i b) :
  Calls Tryz.prog 83 #[.pointer (some ⟨E.b,0,none⟩)] w (Ro E w (at0 E i b u5s) (SsV w.heap.size)):=by
 have HR:=hid hR
 have hsz:=hp0.sz
 have hlt:=hE.lt
 clear hR
 go_enter Tryz.func83,Tryz.ntmps83
 go_wp2_with fail
 refine (rneed hE _ i b hp0 [123]).mono ?_
 rintro e w1 ⟨g1,b1,j1,v1,u1,hR,p1,rfl,rfl⟩
 have R1:=hid hR
 clear hR
 go_wp2_with fail
 refine (HR.out j1 b1 (fun h=>rS_both p1.hi R1.out h) _ p1).mono ?_
 rintro e w2 ⟨g2,b2,j2,v2,a2,hR,p2,rfl,⟨A,m,c,rfl,hs⟩⟩
 have R2:=hid hR
 have z1:=g1.size
 have z2:=g2.size
 clear hR
 go_wp2
 go_ret
 refine ⟨tGB,b2,j2,_,a2,?_,p2,rfl,⟨A,m,c,rfl,u3r hs tKP tSZ tSZ⟩⟩
 show at0 E i b (fun l=>(u1k [123] l).bind fun _ r=>PR r)=_
 rw [u1y R1.out]
 have h2:=R2.out
 unfold at0 at h2
 rw [← h2]
end Go.Proofs.YtbkhnilbgocpnaaGreatDoor.SynC
