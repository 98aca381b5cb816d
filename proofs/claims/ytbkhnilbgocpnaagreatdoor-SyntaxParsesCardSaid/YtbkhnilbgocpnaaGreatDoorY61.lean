import Derived.Test.YtbkhnilbgocpnaaGreatDoorY0
import Derived.Test.YtbkhnilbgocpnaaGreatDoorY60
set_option linter.unusedVariables false
set_option linter.unusedSimpArgs false
set_option maxRecDepth 100000
set_option maxHeartbeats 2000000
open Go.Lib (hid)
namespace Go.Proofs.YtbkhnilbgocpnaaGreatDoor.SynC
open Go.Proofs.YtbkhnilbgocpnaaGreatDoor.LexC
open Go Go.ChangeShapes Go.WideShapes Go.ChangeAt Go.RowKit Go.Deep
theorem rst_if {E:Rv} (hE:E.Ok) (w:World) (i:Nat) (hB:∀ j d,(d=false→i<j)→RbC E j d) (hp0:Rp E w i false) (h0:hitB E i false wIf=true) :
  Calls Tryz.prog 175 #[.pointer (some ⟨E.b,0,none⟩)] w (Ro E w (at0 E i false u2s) (RsV w.heap.size)):=by
 have hsz:=hp0.sz
 have hlt:=hE.lt
 have hi:=hp0.hi
 have hlen:=hE.len
 have lE:=hp0.lt
 have HP:=hid (hp0.keep hE (show Below E.base w ((w.alloc (.cells #[.int .i64 0,.int .i64 0,.string ⟨#[]⟩,.slice none 0 0,.slice none 0 0,.slice none 0 0] 136)).alloc (.cells #[.int .i64 0,.int .i64 0,.string ⟨#[]⟩,.slice none 0 0,.slice none 0 0,.slice none 0 0] 136)) from tBEL))
 obtain ⟨_,hh,hil⟩:=u2n h0
 have H0:=hid h0
 have HB:=hid hB
 clear hB
 have HT:Hid (at0 E i false u2s=at0 E (i+1) false fun l=>(PE (.ex 1) l).bind fun e r1=>(u5s r1).bind fun b r2=>if hit wElse r2 then (u5s (r2.drop 1)).bind fun c r3=>.ok (.mk 3 0 [] [e] b c) r3 else .ok (.mk 3 0 [] [e] b []) r2):=hid (by
  rw [u0l,u0l]
  unfold u2s endR smpR branR loopR
  rw [hh]
  simp only [Bool.false_eq_true,if_false,if_true,u0z,List.drop_drop,letR,atomR,colR,u7d,u9p,u0y])
 clear hp0 h0 hh
 go_enter Tryz.func175,Tryz.ntmps175
 go_wp2_with fail
 refine (u5m hE _ i false HP.out [105,102] H0.out).mono ?_
 rintro e w1 ⟨g1,rfl,p1⟩
 have z1:=g1.size
 simp only [u0e] at z1
 have l1:=hkeep (q:=w.heap.size) g1 (u0g (by simp) (u0c _ _)) (by omega)
 have m1:=hkeep (q:=w.heap.size+1) g1 (u0k (by simp)) (by omega)
 have G1:=hid (show w.grownBy w1 (some E.b) from tGB)
 obtain ⟨ca1,fa1,_⟩:=u0i m1
 go_wp2_with fail
 refine (rx1 hE _ (i+1) false p1).mono ?_
 rintro e w2 ⟨g2,b2,j2,v2,a2,hR,p2,rfl,⟨ak,ao,an,ax,aA,am,ac,rfl,ha2⟩⟩
 have z2:=g2.size
 (try simp only [u0e,u0h,u0m] at z2)
 have R2:=hid hR
 clear hR
 have l2:=hkeep (q:=w.heap.size) g2 (by exact l1) tSZ
 have m2:=hkeep (q:=w.heap.size+1) g2 (by exact m1) tSZ
 obtain ⟨ca2,fa2,_⟩:=u0i m2
 have G2:=hid (u0b G1.out g2)
 have S2:=hid (show SlE (((((((w2.setCell ⟨w.heap.size+1,0,none⟩ (.int .i64 3)).setCell ⟨w.heap.size+1,1,none⟩ (.int .i64 0)).setCell ⟨w.heap.size+1,2,none⟩ (.string ⟨#[]⟩)).setCell ⟨w.heap.size+1,3,none⟩ (.slice (some ⟨w2.heap.size,0,none⟩) 1 1)).setCell ⟨w.heap.size+1,4,none⟩ (.slice none 0 0)).setCell ⟨w.heap.size+1,5,none⟩ (.slice none 0 0)).alloc (.cells #[.int .i64 ak,.int .i64 ao,.int .i32 an,.string (bs ax),.slice aA am ac] 34)) (fun g=>w.heap.size+2≤g∧g<((((((((w2.setCell ⟨w.heap.size+1,0,none⟩ (.int .i64 3)).setCell ⟨w.heap.size+1,1,none⟩ (.int .i64 0)).setCell ⟨w.heap.size+1,2,none⟩ (.string ⟨#[]⟩)).setCell ⟨w.heap.size+1,3,none⟩ (.slice (some ⟨w2.heap.size,0,none⟩) 1 1)).setCell ⟨w.heap.size+1,4,none⟩ (.slice none 0 0)).setCell ⟨w.heap.size+1,5,none⟩ (.slice none 0 0)).alloc (.cells #[.int .i64 ak,.int .i64 ao,.int .i32 an,.string (bs ax),.slice aA am ac] 34))).heap.size) (.slice (some ⟨w2.heap.size,0,none⟩) 1 1) [a2] from sl_one ak ao an ax aA am ac tLOC tSZ (u1s ha2 tKP tSZ tSZ))
 go_wp2_with fail
 refine (HB.out j2 b2 (fun h=>by have:=at0_ex p2.hi R2.out h; omega) _ (p2.keep hE tBEL)).mono ?_
 rintro e w3 ⟨g3,b3,j3,v3,a3,hR,p3,rfl,⟨A3,n3,c3,rfl,hs3⟩⟩
 have z3:=g3.size
 (try simp only [u0e,u0h,u0m] at z3)
 have R3:=hid hR
 clear hR
 have l3:=hkeep (q:=w.heap.size) g3 tLOC tSZ
 have m3:=hkeep (q:=w.heap.size+1) g3 (by exact u0g tSZ (put6 _ _ _ _ _ _ m2)) tSZ
 obtain ⟨ca3,fa3,_⟩:=u0i m3
 have G3:=hid (show w.grownBy w3 (some E.b) from u0b (by have hg:=G2.out; exact tGB) g3)
 have S3:=hid (u9v S2.out g3 (by omega))
 have B3:=hid (u3r hs3 (u5t _ _) (show w.heap.size+2≤_ from tSZ) (Nat.le_refl _))
 have P3:=hid (p3.keep hE (show Below E.base w3 (w3.setCell ⟨w.heap.size+1,4,none⟩ (.slice A3 n3 c3)) from tBEL))
 have M3:=hid (p6_4 (.slice A3 n3 c3) m3)
 have L3:=hid (show (w3.setCell ⟨w.heap.size+1,4,none⟩ (.slice A3 n3 c3)).heap[w.heap.size]? = some (.cells #[.int .i64 0,.int .i64 0,.string ⟨#[]⟩,.slice none 0 0,.slice none 0 0,.slice none 0 0] 136 (0,0)) from tLOC)
 have S3v:=hid (u4f S3.out (show Kp (w.heap.size+2) w3 (w3.setCell ⟨w.heap.size+1,4,none⟩ (.slice A3 n3 c3)) from tKP) (Nat.le_refl _) tSZ)
 have B3v:=hid (u3r B3.out (show Kp (w.heap.size+2) w3 (w3.setCell ⟨w.heap.size+1,4,none⟩ (.slice A3 n3 c3)) from tKP) (Nat.le_refl _) tSZ)
 have G3v:=hid (show w.grownBy (w3.setCell ⟨w.heap.size+1,4,none⟩ (.slice A3 n3 c3)) (some E.b) by have hg:=G3.out; exact tGB)
 obtain ⟨_,_,dd3,_,_⟩:=P3.out.c
 have zv:(w3.setCell ⟨w.heap.size+1,4,none⟩ (.slice A3 n3 c3)).heap.size=w3.heap.size:=u0h _ _ _
 cases b3
 ·cases he:hitB E j3 false wElse
  ·have HE:=hid he
   clear he
   go_wp2_with fail
   refine (u1f hE _ j3 false P3.out [101,108,115,101] HE.out).mono ?_
   rintro e w4 ⟨g4,rfl,p4⟩
   have z4:=g4.size
   have l4:=hkeep (q:=w.heap.size) g4 L3.out (by omega)
   have m4:=hkeep (q:=w.heap.size+1) g4 M3.out (by omega)
   have S4:=hid (u9v S3v.out g4 (by omega))
   have B4:=hid (ss_call B3v.out g4 (by omega))
   have GG:=hid (u0b G3v.out g4)
   have HM:=hid (show at0 E i false u2s=mkR false (St.mk 3 0 [] [a2] a3 []) (E.ks.drop j3) by
    rw [HT.out,u1y R2.out,u1i R3.out]
    rw [u1p,u0z,if_neg (by rw [u1x HE.out]; decide)]
    rfl)
   obtain ⟨ca,fa,_⟩:=u0i m4
   obtain ⟨cb,fb,_⟩:=u0i l4
   go_wp2_with (refine u3b (v2:=.string ⟨#[]⟩) rfl rfl rfl tRES ?_; exact ⟨by (have hg:=GG.out; exact tGB),false,j3,_,_,HM.out,p4.keep hE tBEL,rfl,u7f (name:=[]) (u4f S4.out tKP tSZ tSZ) (u3r B4.out tKP tSZ tSZ) u2h⟩)
  ·obtain ⟨_,h1,hjl⟩:=u2n he
   have HE:=hid he
   have HH:=hid h1
   clear he h1
   go_wp2_with fail
   refine (u5m hE _ j3 false P3.out [101,108,115,101] HE.out).mono ?_
   rintro e w4 ⟨g4,rfl,p4⟩
   have z4:=g4.size
   have l4:=hkeep (q:=w.heap.size) g4 L3.out (by omega)
   have m4:=hkeep (q:=w.heap.size+1) g4 M3.out (by omega)
   have S4:=hid (u9v S3v.out g4 (by omega))
   have B4:=hid (ss_call B3v.out g4 (by omega))
   have G4:=hid (u0b G3v.out g4)
   have h23:i<j3:=by
    have e2:=mk_adv p3.hi (fun l a r h=>block_len h) R3.out rfl
    have e3:b2=false:=by
     cases b2
     ·rfl
     ·have h3:=R3.out; rw [u8g] at h3; cases h3
    have e4:=at0_ex p2.hi R2.out e3
    omega
   go_wp2_with fail
   refine (HB.out (j3+1) false (fun _=>by omega) _ p4).mono ?_
   rintro e w5 ⟨g5,b5,j5,v5,a5,hR,p5,rfl,⟨A5,n5,c5,rfl,hs5⟩⟩
   have z5:=g5.size
   have R5:=hid hR
   clear hR
   have l5:=hkeep (q:=w.heap.size) g5 l4 (by omega)
   have m5:=hkeep (q:=w.heap.size+1) g5 m4 (by omega)
   have S5:=hid (u9v S4.out g5 (by omega))
   have B5:=hid (ss_call B4.out g5 (by omega))
   have C5:=hid (u3r hs5 (u5t _ _) (show w.heap.size+2≤_ by omega) (Nat.le_refl _))
   have GG:=hid (u0b G4.out g5)
   have HM:=hid (show at0 E i false u2s=mkR b5 (St.mk 3 0 [] [a2] a3 a5) (E.ks.drop j5) by
    have h5:=R5.out
    rw [u0l] at h5
    rw [HT.out,u1y R2.out,u1i R3.out,u1p,u0z,if_pos HH.out,List.drop_drop,h5]
    exact u3j fun c=>St.mk 3 0 [] [a2] a3 c)
   obtain ⟨ca,fa,_⟩:=u0i m5
   obtain ⟨cb,fb,_⟩:=u0i l5
   go_wp2_with (refine u3b (v2:=.string ⟨#[]⟩) rfl rfl rfl tRLX ?_; exact ⟨by (have hg:=GG.out; exact tGB),b5,j5,_,_,HM.out,p5.keep hE tBEL,rfl,u7f (name:=[]) (u4f S5.out tKP tSZ tSZ) (u3r B5.out tKP tSZ tSZ) (u3r C5.out tKP tSZ tSZ)⟩)
 ·obtain ⟨ca,fa,_⟩:=u0i M3.out
  obtain ⟨cb,fb,_⟩:=u0i L3.out
  have GG:=hid G3v.out
  have HM:=hid (show at0 E i false u2s=mkR true (St.mk 3 0 [] [a2] a3 []) (E.ks.drop j3) by
   rw [HT.out,u1y R2.out,u1i R3.out]
   rfl)
  go_wp2_with (refine u3b (v2:=.string ⟨#[]⟩) rfl rfl rfl tRES ?_; exact ⟨by (have hg:=GG.out; exact tGB),true,j3,_,_,HM.out,P3.out.keep hE tBEL,rfl,u7f (name:=[]) (u4f S3v.out tKP tSZ tSZ) (u3r B3v.out tKP tSZ tSZ) u2h⟩)
theorem rst_name {E:Rv} (hE:E.Ok) (w:World) (i:Nat)  (hp0:Rp E w i false) (h0:hitB E i false wIf=false) (h1:hitB E i false u5u=false) (h2:hitB E i false wLet=false) (h3:hitB E i false u6k=false) (h4:hitB E i false u2y=false) (h5:hitB E i false u3i=false) (h6:hitB E i false u4s=false) (h7:hitB E i false u4z=false) (h8:hitB E i false u3u=false)  :
  Calls Tryz.prog 175 #[.pointer (some ⟨E.b,0,none⟩)] w (Ro E w (at0 E i false u2s) (RsV w.heap.size)):=by
 have hsz:=hp0.sz
 have hlt:=hE.lt
 have hi:=hp0.hi
 have hlen:=hE.len
 have lE:=hp0.lt
 have HP:=hid (hp0.keep hE (show Below E.base w ((w.alloc (.cells #[.int .i64 0,.int .i64 0,.string ⟨#[]⟩,.slice none 0 0,.slice none 0 0,.slice none 0 0] 136)).alloc (.cells #[.int .i64 0,.int .i64 0,.string ⟨#[]⟩,.slice none 0 0,.slice none 0 0,.slice none 0 0] 136)) from tBEL))
 have H0:=hid h0
 have H1:=hid h1
 have H2:=hid h2
 have H3:=hid h3
 have H4:=hid h4
 have H5:=hid h5
 have H6:=hid h6
 have H7:=hid h7
 have H8:=hid h8
 have HT:Hid (at0 E i false u2s=at0 E i false fun l=>(needN' l).bind fun x r1=>(nam2R x r1).bind fun s r=>(u1k [59] r).bind fun _ q=>.ok s q):=hid (by
  rw [u0l,u0l]
  unfold u2s endR smpR
  rw [u1x h0,u1x h1,u1x h2,u1x h3,u1x h4,u1x h5,u1x h6,u1x h7,u1x h8]
  simp only [Bool.false_eq_true,if_false,asgR,u0y]
  rfl)
 clear hp0 h0 h1 h2 h3 h4 h5 h6 h7 h8
 go_enter Tryz.func175,Tryz.ntmps175
 go_wp2_with fail
 refine (u1f hE _ i false HP.out [105,102] H0.out).mono ?_
 rintro e w1 ⟨g1,rfl,p1⟩
 have z1:=g1.size
 simp only [u0e] at z1
 have l1:=hkeep (q:=w.heap.size) g1 (u0g (by simp) (u0c _ _)) (by omega)
 have m1:=hkeep (q:=w.heap.size+1) g1 (u0k (by simp)) (by omega)
 have G1:=hid (show w.grownBy w1 (some E.b) from tGB)
 go_wp2_with fail
 refine (u1f hE _ i false p1 [119,104,105,108,101] H1.out).mono ?_
 rintro e w2 ⟨g2,rfl,p2⟩
 have z2:=g2.size
 have l2:=hkeep (q:=w.heap.size) g2 l1 (by omega)
 have m2:=hkeep (q:=w.heap.size+1) g2 m1 (by omega)
 have G2:=hid (u0b G1.out g2)
 clear l1 m1 G1 g2
 go_wp2_with fail
 refine (u1f hE _ i false p2 [108,101,116] H2.out).mono ?_
 rintro e w3 ⟨g3,rfl,p3⟩
 have z3:=g3.size
 have l3:=hkeep (q:=w.heap.size) g3 l2 (by omega)
 have m3:=hkeep (q:=w.heap.size+1) g3 m2 (by omega)
 have G3:=hid (u0b G2.out g3)
 clear l2 m2 G2 g3
 skip
 go_wp2_with fail
 refine (u1f hE _ i false p3 [98,114,101,97,107] H3.out).mono ?_
 rintro e w4 ⟨g4,rfl,p4⟩
 have z4:=g4.size
 have l4:=hkeep (q:=w.heap.size) g4 l3 (by omega)
 have m4:=hkeep (q:=w.heap.size+1) g4 m3 (by omega)
 have G4:=hid (u0b G3.out g4)
 clear l3 m3 G3 g4
 skip
 go_wp2_with fail
 refine (u1f hE _ i false p4 [99,111,110,116,105,110,117,101] H4.out).mono ?_
 rintro e w5 ⟨g5,rfl,p5⟩
 have z5:=g5.size
 have l5:=hkeep (q:=w.heap.size) g5 l4 (by omega)
 have m5:=hkeep (q:=w.heap.size+1) g5 m4 (by omega)
 have G5:=hid (u0b G4.out g5)
 clear l4 m4 G4 g5
 skip
 go_wp2_with fail
 refine (u1f hE _ i false p5 [114,101,116,117,114,110] H5.out).mono ?_
 rintro e w6 ⟨g6,rfl,p6⟩
 have z6:=g6.size
 have l6:=hkeep (q:=w.heap.size) g6 l5 (by omega)
 have m6:=hkeep (q:=w.heap.size+1) g6 m5 (by omega)
 have G6:=hid (u0b G5.out g6)
 clear l5 m5 G5 g6
 skip
 go_wp2_with fail
 refine (u1f hE _ i false p6 [98,97,114,114,105,101,114] H6.out).mono ?_
 rintro e w7 ⟨g7,rfl,p7⟩
 have z7:=g7.size
 have l7:=hkeep (q:=w.heap.size) g7 l6 (by omega)
 have m7:=hkeep (q:=w.heap.size+1) g7 m6 (by omega)
 have G7:=hid (u0b G6.out g7)
 clear l6 m6 G6 g7
 skip
 go_wp2_with fail
 refine (u1f hE _ i false p7 [97,116,111,109,105,99] H7.out).mono ?_
 rintro e w8 ⟨g8,rfl,p8⟩
 have z8:=g8.size
 have l8:=hkeep (q:=w.heap.size) g8 l7 (by omega)
 have m8:=hkeep (q:=w.heap.size+1) g8 m7 (by omega)
 have G8:=hid (u0b G7.out g8)
 clear l7 m7 G7 g8
 skip
 go_wp2_with fail
 refine (u1f hE _ i false p8 [99,111,108,108,101,99,116] H8.out).mono ?_
 rintro e w9 ⟨g9,rfl,p9⟩
 have z9:=g9.size
 have l9:=hkeep (q:=w.heap.size) g9 l8 (by omega)
 have m9:=hkeep (q:=w.heap.size+1) g9 m8 (by omega)
 have G9:=hid (u0b G8.out g9)
 clear l8 m8 G8 g9
 skip
 obtain ⟨ca9,fa9,_⟩:=u0i m9
 go_wp2_with fail
 refine (rname hE _ i false p9).mono ?_
 rintro e w10 ⟨g10,b10,j10,v10,x10,hR,p10,rfl,rfl⟩
 have z10:=g10.size
 (try simp only [u0e,u0h,u0m] at z10)
 have R10:=hid hR
 clear hR
 have l10:=hkeep (q:=w.heap.size) g10 (by exact l9) tSZ
 have m10:=hkeep (q:=w.heap.size+1) g10 (by exact m9) tSZ
 obtain ⟨ca10,fa10,_⟩:=u0i m10
 have G10:=hid (u0b G9.out g10)
 go_wp2_with fail
 refine (rnamed2 hE x10 _ j10 b10 p10).mono ?_
 rintro e w11 ⟨g11,b11,j11,v11,s11,hR,p11,rfl,⟨sk,so,sx,A1,n1,c1,B1,n2,c2,C1,n3,c3,rfl,hr⟩⟩
 have z11:=g11.size
 (try simp only [u0e,u0h,u0m] at z11)
 have R11:=hid hR
 clear hR
 have l11:=hkeep (q:=w.heap.size) g11 (by exact l10) tSZ
 have m11:=hkeep (q:=w.heap.size+1) g11 (by exact m10) tSZ
 obtain ⟨ca11,fa11,_⟩:=u0i m11
 have G11:=hid (u0b G10.out g11)
 have Q11:=hid (u6n hr (u5t _ _) (show w.heap.size+2≤_ from tSZ) (Nat.le_refl _))
 have Q11v:=hid (u6n Q11.out (show Kp (w.heap.size+2) w11 ((((((w11.setCell ⟨w.heap.size+1,0,none⟩ (.int .i64 sk)).setCell ⟨w.heap.size+1,1,none⟩ (.int .i64 so)).setCell ⟨w.heap.size+1,2,none⟩ (.string (bs sx))).setCell ⟨w.heap.size+1,3,none⟩ (.slice A1 n1 c1)).setCell ⟨w.heap.size+1,4,none⟩ (.slice B1 n2 c2)).setCell ⟨w.heap.size+1,5,none⟩ (.slice C1 n3 c3)) from tKP) (Nat.le_refl _) tSZ)
 go_wp2_with fail
 refine (rneed hE _ j11 b11 (p11.keep hE tBEL) [59]).mono ?_
 rintro e w12 ⟨g12,b12,j12,v12,u12,hR,p12,rfl,rfl⟩
 have z12:=g12.size
 (try simp only [u0e,u0h,u0m] at z12)
 have R12:=hid hR
 clear hR
 have l12:=hkeep (q:=w.heap.size) g12 tLOC tSZ
 have m12:=hkeep (q:=w.heap.size+1) g12 (by exact put6 _ _ _ _ _ _ m11) tSZ
 have GG:=hid (show w.grownBy w12 (some E.b) from u0b (by have hg:=G11.out; exact tGB) g12)
 have Q12:=hid (u6n Q11v.out (u7x (u5t _ _) g12 (by omega)) (Nat.le_refl _) g12.size)
 have HM:=hid (show at0 E i false u2s=mkR b12 s11 (E.ks.drop j12) by
  rw [HT.out,u1y R10.out,mk_nextA R11.out,u1i R12.out]
  exact u3j fun _=>s11)
 obtain ⟨ca,fa,_⟩:=u0i m12
 obtain ⟨cb,fb,_⟩:=u0i l12
 go_wp2_with (refine u3b rfl rfl rfl tRES ?_; exact ⟨by (have hg:=GG.out; exact tGB),b12,j12,_,_,HM.out,p12.keep hE tBEL,rfl,⟨sk,so,sx,A1,n1,c1,B1,n2,c2,C1,n3,c3,rfl,u6n Q12.out tKP tSZ tSZ⟩⟩)
theorem rst_atomic {E:Rv} (hE:E.Ok) (w:World) (i:Nat)  (hp0:Rp E w i false) (h7:hitB E i false u4z=true) :
  Calls Tryz.prog 175 #[.pointer (some ⟨E.b,0,none⟩)] w (Ro E w (at0 E i false u2s) (RsV w.heap.size)):=by
 have hsz:=hp0.sz
 have hlt:=hE.lt
 have hi:=hp0.hi
 have hlen:=hE.len
 have lE:=hp0.lt
 have HP:=hid (hp0.keep hE (show Below E.base w ((w.alloc (.cells #[.int .i64 0,.int .i64 0,.string ⟨#[]⟩,.slice none 0 0,.slice none 0 0,.slice none 0 0] 136)).alloc (.cells #[.int .i64 0,.int .i64 0,.string ⟨#[]⟩,.slice none 0 0,.slice none 0 0,.slice none 0 0] 136)) from tBEL))
 have h0:=u2r h7 (t:=wIf) (by decide)
 have h1:=u2r h7 (t:=u5u) (by decide)
 have h2:=u2r h7 (t:=wLet) (by decide)
 have h3:=u2r h7 (t:=u6k) (by decide)
 have h4:=u2r h7 (t:=u2y) (by decide)
 have h5:=u2r h7 (t:=u3i) (by decide)
 have h6:=u2r h7 (t:=u4s) (by decide)
 obtain ⟨_,hh,hil⟩:=u2n h7
 have H0:=hid h0
 have H1:=hid h1
 have H2:=hid h2
 have H3:=hid h3
 have H4:=hid h4
 have H5:=hid h5
 have H6:=hid h6
 have H7:=hid h7
 have HT:Hid (at0 E i false u2s=at0 E (i+1) false fun l=>(needF' l).bind fun op r1=>(needN' r1).bind fun x r2=>(u1k [91] r2).bind fun _ r3=>(PE (.ex 1) r3).bind fun a r4=>(u1k [93] r4).bind fun _ r5=>(u1k [44] r5).bind fun _ r6=>(PE (.ex 1) r6).bind fun b r7=>(u1k [59] r7).bind fun _ q=>.ok (.mk 9 op x [a,b] [] []) q):=hid (by
  rw [u0l,u0l]
  unfold u2s endR smpR branR loopR
  rw [u1x h0,u1x h1,u1x h2,u1x h3,u1x h4,u1x h5,u1x h6,hh]
  simp only [Bool.false_eq_true,if_false,if_true,u0z,List.drop_drop,letR,atomR,colR,u7d,u9p,u0y])
 clear hp0 h0 h1 h2 h3 h4 h5 h6 h7 hh
 go_enter Tryz.func175,Tryz.ntmps175
 go_wp2_with fail
 refine (u1f hE _ i false HP.out [105,102] H0.out).mono ?_
 rintro e w1 ⟨g1,rfl,p1⟩
 have z1:=g1.size
 simp only [u0e] at z1
 have l1:=hkeep (q:=w.heap.size) g1 (u0g (by simp) (u0c _ _)) (by omega)
 have m1:=hkeep (q:=w.heap.size+1) g1 (u0k (by simp)) (by omega)
 have G1:=hid (show w.grownBy w1 (some E.b) from tGB)
 go_wp2_with fail
 refine (u1f hE _ i false p1 [119,104,105,108,101] H1.out).mono ?_
 rintro e w2 ⟨g2,rfl,p2⟩
 have z2:=g2.size
 have l2:=hkeep (q:=w.heap.size) g2 l1 (by omega)
 have m2:=hkeep (q:=w.heap.size+1) g2 m1 (by omega)
 have G2:=hid (u0b G1.out g2)
 clear l1 m1 G1 g2
 go_wp2_with fail
 refine (u1f hE _ i false p2 [108,101,116] H2.out).mono ?_
 rintro e w3 ⟨g3,rfl,p3⟩
 have z3:=g3.size
 have l3:=hkeep (q:=w.heap.size) g3 l2 (by omega)
 have m3:=hkeep (q:=w.heap.size+1) g3 m2 (by omega)
 have G3:=hid (u0b G2.out g3)
 clear l2 m2 G2 g3
 skip
 go_wp2_with fail
 refine (u1f hE _ i false p3 [98,114,101,97,107] H3.out).mono ?_
 rintro e w4 ⟨g4,rfl,p4⟩
 have z4:=g4.size
 have l4:=hkeep (q:=w.heap.size) g4 l3 (by omega)
 have m4:=hkeep (q:=w.heap.size+1) g4 m3 (by omega)
 have G4:=hid (u0b G3.out g4)
 clear l3 m3 G3 g4
 skip
 go_wp2_with fail
 refine (u1f hE _ i false p4 [99,111,110,116,105,110,117,101] H4.out).mono ?_
 rintro e w5 ⟨g5,rfl,p5⟩
 have z5:=g5.size
 have l5:=hkeep (q:=w.heap.size) g5 l4 (by omega)
 have m5:=hkeep (q:=w.heap.size+1) g5 m4 (by omega)
 have G5:=hid (u0b G4.out g5)
 clear l4 m4 G4 g5
 skip
 go_wp2_with fail
 refine (u1f hE _ i false p5 [114,101,116,117,114,110] H5.out).mono ?_
 rintro e w6 ⟨g6,rfl,p6⟩
 have z6:=g6.size
 have l6:=hkeep (q:=w.heap.size) g6 l5 (by omega)
 have m6:=hkeep (q:=w.heap.size+1) g6 m5 (by omega)
 have G6:=hid (u0b G5.out g6)
 clear l5 m5 G5 g6
 skip
 go_wp2_with fail
 refine (u1f hE _ i false p6 [98,97,114,114,105,101,114] H6.out).mono ?_
 rintro e w7 ⟨g7,rfl,p7⟩
 have z7:=g7.size
 have l7:=hkeep (q:=w.heap.size) g7 l6 (by omega)
 have m7:=hkeep (q:=w.heap.size+1) g7 m6 (by omega)
 have G7:=hid (u0b G6.out g7)
 clear l6 m6 G6 g7
 skip
 go_wp2_with fail
 refine (u5m hE _ i false p7 [97,116,111,109,105,99] H7.out).mono ?_
 rintro e w8 ⟨g8,rfl,p8⟩
 have z8:=g8.size
 have l8:=hkeep (q:=w.heap.size) g8 l7 (by omega)
 have m8:=hkeep (q:=w.heap.size+1) g8 m7 (by omega)
 have G8:=hid (u0b G7.out g8)
 clear l7 m7 G7 g8
 skip
 obtain ⟨ca8,fa8,_⟩:=u0i m8
 go_wp2_with fail
 refine (rfold hE _ (i+1) false p8).mono ?_
 rintro e w9 ⟨g9,b9,j9,v9,o9,hR,p9,rfl,rfl⟩
 have z9:=g9.size
 (try simp only [u0e,u0h,u0m] at z9)
 have R9:=hid hR
 clear hR
 have l9:=hkeep (q:=w.heap.size) g9 (by exact l8) tSZ
 have m9:=hkeep (q:=w.heap.size+1) g9 (by exact m8) tSZ
 obtain ⟨ca9,fa9,_⟩:=u0i m9
 have G9:=hid (u0b G8.out g9)
 go_wp2_with fail
 refine (rname hE _ j9 b9 p9).mono ?_
 rintro e w10 ⟨g10,b10,j10,v10,x10,hR,p10,rfl,rfl⟩
 have z10:=g10.size
 (try simp only [u0e,u0h,u0m] at z10)
 have R10:=hid hR
 clear hR
 have l10:=hkeep (q:=w.heap.size) g10 (by exact l9) tSZ
 have m10:=hkeep (q:=w.heap.size+1) g10 (by exact m9) tSZ
 obtain ⟨ca10,fa10,_⟩:=u0i m10
 have G10:=hid (u0b G9.out g10)
 go_wp2_with fail
 refine (rneed hE _ j10 b10 (p10.keep hE tBEL) [91]).mono ?_
 rintro e w11 ⟨g11,b11,j11,v11,u11,hR,p11,rfl,rfl⟩
 have z11:=g11.size
 (try simp only [u0e,u0h,u0m] at z11)
 have R11:=hid hR
 clear hR
 have l11:=hkeep (q:=w.heap.size) g11 tLOC tSZ
 have m11:=hkeep (q:=w.heap.size+1) g11 (by exact put6 _ _ _ _ _ _ m10) tSZ
 obtain ⟨ca11,fa11,_⟩:=u0i m11
 have G11:=hid (show w.grownBy w11 (some E.b) from u0b (by have hg:=G10.out; exact tGB) g11)
 go_wp2_with fail
 refine (rx1 hE _ j11 b11 p11).mono ?_
 rintro e w12 ⟨g12,b12,j12,v12,a12,hR,p12,rfl,⟨ak,ao,an,ax,aA,am,ac,rfl,ha12⟩⟩
 have z12:=g12.size
 (try simp only [u0e,u0h,u0m] at z12)
 have R12:=hid hR
 clear hR
 have l12:=hkeep (q:=w.heap.size) g12 (by exact l11) tSZ
 have m12:=hkeep (q:=w.heap.size+1) g12 (by exact m11) tSZ
 obtain ⟨ca12,fa12,_⟩:=u0i m12
 have G12:=hid (u0b G11.out g12)
 have E12:Hid (RE (w12.alloc (.cells #[.int .i64 ak,.int .i64 ao,.int .i32 an,.string (bs ax),.slice aA am ac] 34)) (fun g=>w.heap.size+2≤g∧g<(w12.alloc (.cells #[.int .i64 ak,.int .i64 ao,.int .i32 an,.string (bs ax),.slice aA am ac] 34)).heap.size) [.int .i64 ak,.int .i64 ao,.int .i32 an,.string (bs ax),.slice aA am ac] a12):=hid (u1s ha12 tKP tSZ tSZ)
 go_wp2_with fail
 refine (rneed hE _ j12 b12 (p12.keep hE tBEL) [93]).mono ?_
 rintro e w13 ⟨g13,b13,j13,v13,u13,hR,p13,rfl,rfl⟩
 have z13:=g13.size
 (try simp only [u0e,u0h,u0m] at z13)
 have R13:=hid hR
 clear hR
 have l13:=hkeep (q:=w.heap.size) g13 tLOC tSZ
 have m13:=hkeep (q:=w.heap.size+1) g13 (by exact u0g tSZ m12) tSZ
 obtain ⟨ca13,fa13,_⟩:=u0i m13
 have t13:=hkeep (q:=w12.heap.size) g13 (u0c _ _) (by omega)
 have G13:=hid (show w.grownBy w13 (some E.b) from u0b (by have hg:=G12.out; exact tGB) g13)
 have E13:=hid (u1s E12.out (u7x (u5t _ _) g13 (by omega)) (Nat.le_refl _) g13.size)
 go_wp2_with fail
 refine (rneed hE _ j13 b13 p13 [44]).mono ?_
 rintro e w14 ⟨g14,b14,j14,v14,u14,hR,p14,rfl,rfl⟩
 have z14:=g14.size
 (try simp only [u0e,u0h,u0m] at z14)
 have R14:=hid hR
 clear hR
 have l14:=hkeep (q:=w.heap.size) g14 (by exact l13) tSZ
 have m14:=hkeep (q:=w.heap.size+1) g14 (by exact m13) tSZ
 have t14:=hkeep (q:=w12.heap.size) g14 t13 (by omega)
 obtain ⟨dt,_,_⟩:=u0i t14
 have G14:=hid (u0b G13.out g14)
 have E14:=hid (u1s E13.out (u7x (u5t _ _) g14 (by omega)) (Nat.le_refl _) g14.size)
 have P14:=hid p14
 have L14:=hid l14
 have M14:=hid m14
 have T14:=hid t14
 go_wp2_with fail
 go_region_law (first | (go_simp; go_at_call 49; refine (rx1 hE _ j14 b14 (P14.out.keep hE tBEL)).mono ?_; rintro e w15 ⟨g15,b15,j15,v15,a15,hR,p15,rfl,⟨bk,bo,bn,bx,bA,bm,bc,rfl,ha15⟩⟩; have R15:=hid hR; clear hR; have z15:=g15.size; have l15:=hkeep (q:=w.heap.size) g15 (u2d L14.out) (by omega); have m15:=hkeep (q:=w.heap.size+1) g15 (u2d M14.out) (by omega); have t15:=hkeep (q:=w12.heap.size) g15 (u2d T14.out) (by omega); obtain ⟨dt15,_,_⟩:=u0i t15; obtain ⟨cm15,fm15,_⟩:=u0i m15))
 all_goals
  simp only [u0m] at z15
  have E15:=hid (u1s E14.out (u7x (kp_dr (u5t _ _)) g15 (by omega)) (Nat.le_refl _) g15.size)
  have S15:=hid (show SlE ((w15.setCell ⟨w.heap.size+1,3,none⟩ (.slice (some ⟨w15.heap.size,0,none⟩) 2 2)).alloc (.cells #[.int .i64 ak,.int .i64 ao,.int .i32 an,.string (bs ax),.slice aA am ac,.int .i64 bk,.int .i64 bo,.int .i32 bn,.string (bs bx),.slice bA bm bc] 34)) (fun g=>w.heap.size+2≤g∧g<(((w15.setCell ⟨w.heap.size+1,3,none⟩ (.slice (some ⟨w15.heap.size,0,none⟩) 2 2)).alloc (.cells #[.int .i64 ak,.int .i64 ao,.int .i32 an,.string (bs ax),.slice aA am ac,.int .i64 bk,.int .i64 bo,.int .i32 bn,.string (bs bx),.slice bA bm bc] 34))).heap.size) (.slice (some ⟨w15.heap.size,0,none⟩) 2 2) [a12,a15] from sl_two (nb:=w15.heap.size) ak ao an ax aA am ac bk bo bn bx bA bm bc tLOC tSZ (u1s E15.out tKP tSZ tSZ) (u1s ha15 tKP tSZ tSZ))
  have G15:=hid (u0b (u8t G14.out) g15)
  go_wp2_with fail
  refine (rneed hE _ j15 b15 (p15.keep hE tBEL) [59]).mono ?_
  rintro e w16 ⟨g16,b16,j16,v16,u16,hR,p16,rfl,rfl⟩
  have z16:=g16.size
  (try simp only [u0e,u0h,u0m] at z16)
  have R16:=hid hR
  clear hR
  have l16:=hkeep (q:=w.heap.size) g16 tLOC tSZ
  have m16:=hkeep (q:=w.heap.size+1) g16 (by exact u0g tSZ (p6_3 _ m15)) tSZ
  have GG:=hid (show w.grownBy w16 (some E.b) from u0b (by have hg:=G15.out; exact tGB) g16)
  have S16:=hid (u9v S15.out g16 (by omega))
  have HM:=hid (show at0 E i false u2s=mkR b16 (St.mk 9 o9 x10 [a12,a15] [] []) (E.ks.drop j16) by
   rw [HT.out,u1y R9.out,u1i R10.out,u1i R11.out,u1i R12.out,u1i R13.out,u1i R14.out,u1i R15.out,u1i R16.out]
   exact u3j fun _=>St.mk 9 o9 x10 [a12,a15] [] [])
  obtain ⟨ca,fa,_⟩:=u0i m16
  obtain ⟨cb,fb,_⟩:=u0i l16
  go_wp2_with (refine u3b  rfl rfl rfl tRES ?_; exact ⟨by (have hg:=GG.out; exact tGB),b16,j16,_,_,HM.out,p16.keep hE tBEL,rfl,u7f (u4f S16.out tKP tSZ tSZ) u2h u2h⟩)
theorem rstmt {E:Rv} (hE:E.Ok) (i:Nat) (hB:∀ j d,(d=false→i<j)→RbC E j d):RsC E i:=by
 intro w hp
 cases h0:hitB E i false wIf
 ·cases h1:hitB E i false u5u
  ·cases h2:hitB E i false wLet
   ·cases h3:hitB E i false u6k
    ·cases h4:hitB E i false u2y
     ·cases h5:hitB E i false u3i
      ·cases h6:hitB E i false u4s
       ·cases h7:hitB E i false u4z
        ·cases h8:hitB E i false u3u
         ·exact rst_name hE w i hp h0 h1 h2 h3 h4 h5 h6 h7 h8
         ·exact rst_collect hE w i hp h8
        ·exact rst_atomic hE w i hp h7
       ·exact rst_barrier hE w i hp h6
      ·cases hs:hitB E (i+1) false [59]
       ·exact rst_ret1 hE w i hp h5 hs
       ·exact rst_ret0 hE w i hp h5 hs
     ·exact rst_continue hE w i hp h4
    ·exact rst_break hE w i hp h3
   ·exact rst_let hE w i hp h2
  ·exact rst_while hE w i hB hp h1
 ·exact rst_if hE w i hB hp h0
theorem rrulesB {E:Rv} (hE:E.Ok):∀ (m i:Nat),E.L.length - i<m→RsC E i∧RrC E i false
 | 0,_,h=>absurd h (Nat.not_lt_zero _)
 | m+1,i,h=>by
  have up:∀ j,i<j→RsC E j∧RrC E j false:=fun j hj=>by
   by_cases hl:i<E.L.length
   ·exact rrulesB hE m j (by omega)
   ·exact ⟨fun w hp=>absurd hp.hi (by omega),fun w hp=>absurd hp.hi (by omega)⟩
  have hs:RsC E i:=rstmt hE i fun j d hd w hp=>rblock hE w j d (fun k e he=>by
   cases e
   ·obtain ⟨h1,h2⟩:=he rfl
    have:=hd h1
    exact (up k (by omega)).2
   ·exact rrest_bad hE k) hp
  exact ⟨hs,fun w hp=>rrest hE w i false (fun j hj=>by
   by_cases e:i=j
   ·exact e ▸ hs
   ·exact (up j (by omega)).1) hp⟩
theorem rr_all {E:Rv} (hE:E.Ok) (i:Nat) (b:Bool):RrC E i b:=by
 cases b
 ·exact (rrulesB hE _ i (Nat.lt_succ_self _)).2
 ·exact rrest_bad hE i
theorem rb_all {E:Rv} (hE:E.Ok) (i:Nat) (b:Bool):RbC E i b:=fun w hp=>rblock hE w i b (fun k e _=>rr_all hE k e) hp
end Go.Proofs.YtbkhnilbgocpnaaGreatDoor.SynC
