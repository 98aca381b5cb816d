import Derived.Test.YtbkhnilbgocpnaaGreatDoorY0
import Derived.Test.YtbkhnilbgocpnaaGreatDoorY59
set_option linter.unusedVariables false
set_option linter.unusedSimpArgs false
set_option maxRecDepth 100000
set_option maxHeartbeats 2000000
open Go.Lib (hid)
namespace Go.Proofs.YtbkhnilbgocpnaaGreatDoor.SynC
open Go.Proofs.YtbkhnilbgocpnaaGreatDoor.LexC
open Go Go.ChangeShapes Go.WideShapes Go.ChangeAt Go.RowKit Go.Deep
theorem u9v {h b:Nat} {X w':World} {v:Value} {l:List Ex} (hs:SlE X (fun g=>h≤g∧g<X.heap.size) v l) (hg:X.grownBy w' (some b)) (hb:b<h):SlE w' (fun g=>h≤g∧g<w'.heap.size) v l :=
 u4f hs (u7x (u5t _ _) hg hb) (Nat.le_refl _) hg.size
theorem ss_call {h b:Nat} {X w':World} {v:Value} {l:List St} (hs:SlS X (fun g=>h≤g∧g<X.heap.size) v l) (hg:X.grownBy w' (some b)) (hb:b<h):SlS w' (fun g=>h≤g∧g<w'.heap.size) v l :=
 u3r hs (u7x (u5t _ _) hg hb) (Nat.le_refl _) hg.size
theorem u2r {E:Rv} {i:Nat} {s t:List UInt8} (h:hitB E i false s=true) (hst:s≠t):hitB E i false t=false:=by
 obtain ⟨_,h2,_⟩:=u2n h
 unfold hitB; rw [hit_one h2 hst]; rfl
theorem u1x {E:Rv} {i:Nat} {s:List UInt8} (h:hitB E i false s=false):hit s (E.ks.drop i)=false:=by simpa [hitB] using h
theorem rst_break {E:Rv} (hE:E.Ok) (w:World) (i:Nat)  (hp0:Rp E w i false) (h3:hitB E i false u6k=true) :
  Calls Tryz.prog 175 #[.pointer (some ⟨E.b,0,none⟩)] w (Ro E w (at0 E i false u2s) (RsV w.heap.size)):=by
 have hsz:=hp0.sz
 have hlt:=hE.lt
 have hi:=hp0.hi
 have hlen:=hE.len
 have lE:=hp0.lt
 have HP:=hid (hp0.keep hE (show Below E.base w ((w.alloc (.cells #[.int .i64 0,.int .i64 0,.string ⟨#[]⟩,.slice none 0 0,.slice none 0 0,.slice none 0 0] 136)).alloc (.cells #[.int .i64 0,.int .i64 0,.string ⟨#[]⟩,.slice none 0 0,.slice none 0 0,.slice none 0 0] 136)) from tBEL))
 have h0:=u2r h3 (t:=wIf) (by decide)
 have h1:=u2r h3 (t:=u5u) (by decide)
 have h2:=u2r h3 (t:=wLet) (by decide)
 obtain ⟨_,hh,hil⟩:=u2n h3
 have H0:=hid h0
 have H1:=hid h1
 have H2:=hid h2
 have H3:=hid h3
 have HT:Hid (at0 E i false u2s=at0 E (i+1) false fun r=>(u1k [59] r).bind fun _ q=>.ok (.mk 5 0 [] [] [] []) q):=hid (by
  rw [u0l,u0l]
  unfold u2s endR smpR
  rw [u1x h0,u1x h1,u1x h2,hh]
  simp only [Bool.false_eq_true,if_false,if_true,u0z,List.drop_drop])
 clear hp0 h0 h1 h2 h3 hh
 go_enter Tryz.func175,Tryz.ntmps175
 go_wp2_with fail
 refine (u1f hE _ i false HP.out [105,102] H0.out).mono ?_
 rintro e w1 ⟨g1,rfl,p1⟩
 have z1:=g1.size
 simp only [u0e] at z1
 have l1:=hkeep (q:=w.heap.size) g1 (u0g (by simp) (u0c _ _)) (by omega)
 have m1:=hkeep (q:=w.heap.size+1) g1 (u0k (by simp)) (by omega)
 have G1:=hid (show w.grownBy w1 (some E.b) from tGB)
 go_wp2_with fail
 refine (u1f hE _ i false p1 [119,104,105,108,101] H1.out).mono ?_
 rintro e w2 ⟨g2,rfl,p2⟩
 have z2:=g2.size
 have l2:=hkeep (q:=w.heap.size) g2 l1 (by omega)
 have m2:=hkeep (q:=w.heap.size+1) g2 m1 (by omega)
 have G2:=hid (u0b G1.out g2)
 clear l1 m1 G1 g2
 go_wp2_with fail
 refine (u1f hE _ i false p2 [108,101,116] H2.out).mono ?_
 rintro e w3 ⟨g3,rfl,p3⟩
 have z3:=g3.size
 have l3:=hkeep (q:=w.heap.size) g3 l2 (by omega)
 have m3:=hkeep (q:=w.heap.size+1) g3 m2 (by omega)
 have G3:=hid (u0b G2.out g3)
 clear l2 m2 G2 g3
 skip
 go_wp2_with fail
 refine (u5m hE _ i false p3 [98,114,101,97,107] H3.out).mono ?_
 rintro e w4 ⟨g4,rfl,p4⟩
 have z4:=g4.size
 have l4:=hkeep (q:=w.heap.size) g4 l3 (by omega)
 have m4:=hkeep (q:=w.heap.size+1) g4 m3 (by omega)
 have G4:=hid (u0b G3.out g4)
 clear l3 m3 G3 g4
 skip
 obtain ⟨cc,ff,_⟩:=u0i m4
 go_wp2_with fail
 refine (rneed hE _ (i+1) false (p4.keep hE tBEL) [59]).mono ?_
 rintro e w5 ⟨g5,b5,j5,v5,u5,hR,p5,rfl,rfl⟩
 have z5:=g5.size
 (try simp only [u0e,u0h,u0m] at z5)
 have R5:=hid hR
 clear hR
 have l5:=hkeep (q:=w.heap.size) g5 tLOC tSZ
 have m5:=hkeep (q:=w.heap.size+1) g5 (put6 _ _ _ _ _ _ m4) tSZ
 obtain ⟨ca,fa,_⟩:=u0i m5
 obtain ⟨cb,fb,_⟩:=u0i l5
 clear cc ff
 have HM:=hid (show at0 E i false u2s=mkR b5 (St.mk 5 0 [] [] [] []) (E.ks.drop j5) by
  rw [HT.out,u1y R5.out]
  exact u3j fun _=>St.mk 5 0 [] [] [] [])
 have GG:=hid (show w.grownBy w5 (some E.b) from u0b (by have hg:=G4.out; exact tGB) g5)
 go_wp2_with (refine u3b (v2:=.string ⟨#[]⟩) rfl rfl rfl tRES ?_; exact ⟨by (have hg:=GG.out; exact tGB),b5,j5,_,_,HM.out,p5.keep hE tBEL,rfl,u7f (name:=[]) u5p u2h u2h⟩)
theorem rst_let {E:Rv} (hE:E.Ok) (w:World) (i:Nat)  (hp0:Rp E w i false) (h2:hitB E i false wLet=true) :
  Calls Tryz.prog 175 #[.pointer (some ⟨E.b,0,none⟩)] w (Ro E w (at0 E i false u2s) (RsV w.heap.size)):=by
 have hsz:=hp0.sz
 have hlt:=hE.lt
 have hi:=hp0.hi
 have hlen:=hE.len
 have lE:=hp0.lt
 have HP:=hid (hp0.keep hE (show Below E.base w ((w.alloc (.cells #[.int .i64 0,.int .i64 0,.string ⟨#[]⟩,.slice none 0 0,.slice none 0 0,.slice none 0 0] 136)).alloc (.cells #[.int .i64 0,.int .i64 0,.string ⟨#[]⟩,.slice none 0 0,.slice none 0 0,.slice none 0 0] 136)) from tBEL))
 have h0:=u2r h2 (t:=wIf) (by decide)
 have h1:=u2r h2 (t:=u5u) (by decide)
 obtain ⟨_,hh,hil⟩:=u2n h2
 have H0:=hid h0
 have H1:=hid h1
 have H2:=hid h2
 have HT:Hid (at0 E i false u2s=at0 E (i+1) false fun l=>(needN' l).bind fun x r1=>(u1k [61] r1).bind fun _ r2=>(PE (.ex 1) r2).bind fun e r3=>(u1k [59] r3).bind fun _ q=>.ok (.mk 0 0 x [e] [] []) q):=hid (by
  rw [u0l,u0l]
  unfold u2s endR smpR branR loopR
  rw [u1x h0,u1x h1,hh]
  simp only [Bool.false_eq_true,if_false,if_true,u0z,List.drop_drop,letR,atomR,colR,u7d,u9p,u0y])
 clear hp0 h0 h1 h2 hh
 go_enter Tryz.func175,Tryz.ntmps175
 go_wp2_with fail
 refine (u1f hE _ i false HP.out [105,102] H0.out).mono ?_
 rintro e w1 ⟨g1,rfl,p1⟩
 have z1:=g1.size
 simp only [u0e] at z1
 have l1:=hkeep (q:=w.heap.size) g1 (u0g (by simp) (u0c _ _)) (by omega)
 have m1:=hkeep (q:=w.heap.size+1) g1 (u0k (by simp)) (by omega)
 have G1:=hid (show w.grownBy w1 (some E.b) from tGB)
 go_wp2_with fail
 refine (u1f hE _ i false p1 [119,104,105,108,101] H1.out).mono ?_
 rintro e w2 ⟨g2,rfl,p2⟩
 have z2:=g2.size
 have l2:=hkeep (q:=w.heap.size) g2 l1 (by omega)
 have m2:=hkeep (q:=w.heap.size+1) g2 m1 (by omega)
 have G2:=hid (u0b G1.out g2)
 clear l1 m1 G1 g2
 go_wp2_with fail
 refine (u5m hE _ i false p2 [108,101,116] H2.out).mono ?_
 rintro e w3 ⟨g3,rfl,p3⟩
 have z3:=g3.size
 have l3:=hkeep (q:=w.heap.size) g3 l2 (by omega)
 have m3:=hkeep (q:=w.heap.size+1) g3 m2 (by omega)
 have G3:=hid (u0b G2.out g3)
 clear l2 m2 G2 g3
 skip
 obtain ⟨ca3,fa3,_⟩:=u0i m3
 go_wp2_with fail
 refine (rname hE _ (i+1) false p3).mono ?_
 rintro e w4 ⟨g4,b4,j4,v4,x4,hR,p4,rfl,rfl⟩
 have z4:=g4.size
 (try simp only [u0e,u0h,u0m] at z4)
 have R4:=hid hR
 clear hR
 have l4:=hkeep (q:=w.heap.size) g4 (by exact l3) tSZ
 have m4:=hkeep (q:=w.heap.size+1) g4 (by exact m3) tSZ
 obtain ⟨ca4,fa4,_⟩:=u0i m4
 have G4:=hid (u0b G3.out g4)
 go_wp2_with fail
 refine (rneed hE _ j4 b4 (p4.keep hE tBEL) [61]).mono ?_
 rintro e w5 ⟨g5,b5,j5,v5,u5,hR,p5,rfl,rfl⟩
 have z5:=g5.size
 (try simp only [u0e,u0h,u0m] at z5)
 have R5:=hid hR
 clear hR
 have l5:=hkeep (q:=w.heap.size) g5 tLOC tSZ
 have m5:=hkeep (q:=w.heap.size+1) g5 (by exact put6 _ _ _ _ _ _ m4) tSZ
 obtain ⟨ca5,fa5,_⟩:=u0i m5
 have G5:=hid (show w.grownBy w5 (some E.b) from u0b (by have hg:=G4.out; exact tGB) g5)
 go_wp2_with fail
 refine (rx1 hE _ j5 b5 p5).mono ?_
 rintro e w6 ⟨g6,b6,j6,v6,a6,hR,p6,rfl,⟨ak,ao,an,ax,aA,am,ac,rfl,ha6⟩⟩
 have z6:=g6.size
 (try simp only [u0e,u0h,u0m] at z6)
 have R6:=hid hR
 clear hR
 have l6:=hkeep (q:=w.heap.size) g6 (by exact l5) tSZ
 have m6:=hkeep (q:=w.heap.size+1) g6 (by exact m5) tSZ
 obtain ⟨ca6,fa6,_⟩:=u0i m6
 have G6:=hid (u0b G5.out g6)
 have S6:=hid (show SlE ((w6.setCell ⟨w.heap.size+1,3,none⟩ (.slice (some ⟨w6.heap.size,0,none⟩) 1 1)).alloc (.cells #[.int .i64 ak,.int .i64 ao,.int .i32 an,.string (bs ax),.slice aA am ac] 34)) (fun g=>w.heap.size+2≤g∧g<((w6.setCell ⟨w.heap.size+1,3,none⟩ (.slice (some ⟨w6.heap.size,0,none⟩) 1 1)).alloc (.cells #[.int .i64 ak,.int .i64 ao,.int .i32 an,.string (bs ax),.slice aA am ac] 34)).heap.size) (.slice (some ⟨w6.heap.size,0,none⟩) 1 1) [a6] from sl_one ak ao an ax aA am ac tLOC tSZ (u1s ha6 tKP tSZ tSZ))
 go_wp2_with fail
 refine (rneed hE _ j6 b6 (p6.keep hE tBEL) [59]).mono ?_
 rintro e w7 ⟨g7,b7,j7,v7,u7,hR,p7,rfl,rfl⟩
 have z7:=g7.size
 (try simp only [u0e,u0h,u0m] at z7)
 have R7:=hid hR
 clear hR
 have l7:=hkeep (q:=w.heap.size) g7 tLOC tSZ
 have m7:=hkeep (q:=w.heap.size+1) g7 (by exact u0g tSZ (p6_3 _ m6)) tSZ
 have GG:=hid (show w.grownBy w7 (some E.b) from u0b (by have hg:=G6.out; exact tGB) g7)
 have S7:=hid (u9v S6.out g7 (by omega))
 have HM:=hid (show at0 E i false u2s=mkR b7 (St.mk 0 0 x4 [a6] [] []) (E.ks.drop j7) by
  rw [HT.out,u1y R4.out,u1i R5.out,u1i R6.out,u1i R7.out]
  exact u3j fun _=>St.mk 0 0 x4 [a6] [] [])
 obtain ⟨ca,fa,_⟩:=u0i m7
 obtain ⟨cb,fb,_⟩:=u0i l7
 go_wp2_with (refine u3b  rfl rfl rfl tRES ?_; exact ⟨by (have hg:=GG.out; exact tGB),b7,j7,_,_,HM.out,p7.keep hE tBEL,rfl,u7f (u4f S7.out tKP tSZ tSZ) u2h u2h⟩)
theorem rst_continue {E:Rv} (hE:E.Ok) (w:World) (i:Nat)  (hp0:Rp E w i false) (h4:hitB E i false u2y=true) :
  Calls Tryz.prog 175 #[.pointer (some ⟨E.b,0,none⟩)] w (Ro E w (at0 E i false u2s) (RsV w.heap.size)):=by
 have hsz:=hp0.sz
 have hlt:=hE.lt
 have hi:=hp0.hi
 have hlen:=hE.len
 have lE:=hp0.lt
 have HP:=hid (hp0.keep hE (show Below E.base w ((w.alloc (.cells #[.int .i64 0,.int .i64 0,.string ⟨#[]⟩,.slice none 0 0,.slice none 0 0,.slice none 0 0] 136)).alloc (.cells #[.int .i64 0,.int .i64 0,.string ⟨#[]⟩,.slice none 0 0,.slice none 0 0,.slice none 0 0] 136)) from tBEL))
 have h0:=u2r h4 (t:=wIf) (by decide)
 have h1:=u2r h4 (t:=u5u) (by decide)
 have h2:=u2r h4 (t:=wLet) (by decide)
 have h3:=u2r h4 (t:=u6k) (by decide)
 obtain ⟨_,hh,hil⟩:=u2n h4
 have H0:=hid h0
 have H1:=hid h1
 have H2:=hid h2
 have H3:=hid h3
 have H4:=hid h4
 have HT:Hid (at0 E i false u2s=at0 E (i+1) false fun r=>(u1k [59] r).bind fun _ q=>.ok (.mk 6 0 [] [] [] []) q):=hid (by
  rw [u0l,u0l]
  unfold u2s endR smpR
  rw [u1x h0,u1x h1,u1x h2,u1x h3,hh]
  simp only [Bool.false_eq_true,if_false,if_true,u0z,List.drop_drop])
 clear hp0 h0 h1 h2 h3 h4 hh
 go_enter Tryz.func175,Tryz.ntmps175
 go_wp2_with fail
 refine (u1f hE _ i false HP.out [105,102] H0.out).mono ?_
 rintro e w1 ⟨g1,rfl,p1⟩
 have z1:=g1.size
 simp only [u0e] at z1
 have l1:=hkeep (q:=w.heap.size) g1 (u0g (by simp) (u0c _ _)) (by omega)
 have m1:=hkeep (q:=w.heap.size+1) g1 (u0k (by simp)) (by omega)
 have G1:=hid (show w.grownBy w1 (some E.b) from tGB)
 go_wp2_with fail
 refine (u1f hE _ i false p1 [119,104,105,108,101] H1.out).mono ?_
 rintro e w2 ⟨g2,rfl,p2⟩
 have z2:=g2.size
 have l2:=hkeep (q:=w.heap.size) g2 l1 (by omega)
 have m2:=hkeep (q:=w.heap.size+1) g2 m1 (by omega)
 have G2:=hid (u0b G1.out g2)
 clear l1 m1 G1 g2
 go_wp2_with fail
 refine (u1f hE _ i false p2 [108,101,116] H2.out).mono ?_
 rintro e w3 ⟨g3,rfl,p3⟩
 have z3:=g3.size
 have l3:=hkeep (q:=w.heap.size) g3 l2 (by omega)
 have m3:=hkeep (q:=w.heap.size+1) g3 m2 (by omega)
 have G3:=hid (u0b G2.out g3)
 clear l2 m2 G2 g3
 skip
 go_wp2_with fail
 refine (u1f hE _ i false p3 [98,114,101,97,107] H3.out).mono ?_
 rintro e w4 ⟨g4,rfl,p4⟩
 have z4:=g4.size
 have l4:=hkeep (q:=w.heap.size) g4 l3 (by omega)
 have m4:=hkeep (q:=w.heap.size+1) g4 m3 (by omega)
 have G4:=hid (u0b G3.out g4)
 clear l3 m3 G3 g4
 skip
 go_wp2_with fail
 refine (u5m hE _ i false p4 [99,111,110,116,105,110,117,101] H4.out).mono ?_
 rintro e w5 ⟨g5,rfl,p5⟩
 have z5:=g5.size
 have l5:=hkeep (q:=w.heap.size) g5 l4 (by omega)
 have m5:=hkeep (q:=w.heap.size+1) g5 m4 (by omega)
 have G5:=hid (u0b G4.out g5)
 clear l4 m4 G4 g5
 skip
 obtain ⟨cc,ff,_⟩:=u0i m5
 go_wp2_with fail
 refine (rneed hE _ (i+1) false (p5.keep hE tBEL) [59]).mono ?_
 rintro e w6 ⟨g6,b6,j6,v6,u6,hR,p6,rfl,rfl⟩
 have z6:=g6.size
 (try simp only [u0e,u0h,u0m] at z6)
 have R6:=hid hR
 clear hR
 have l6:=hkeep (q:=w.heap.size) g6 tLOC tSZ
 have m6:=hkeep (q:=w.heap.size+1) g6 (put6 _ _ _ _ _ _ m5) tSZ
 obtain ⟨ca,fa,_⟩:=u0i m6
 obtain ⟨cb,fb,_⟩:=u0i l6
 clear cc ff
 have HM:=hid (show at0 E i false u2s=mkR b6 (St.mk 6 0 [] [] [] []) (E.ks.drop j6) by
  rw [HT.out,u1y R6.out]
  exact u3j fun _=>St.mk 6 0 [] [] [] [])
 have GG:=hid (show w.grownBy w6 (some E.b) from u0b (by have hg:=G5.out; exact tGB) g6)
 go_wp2_with (refine u3b (v2:=.string ⟨#[]⟩) rfl rfl rfl tRES ?_; exact ⟨by (have hg:=GG.out; exact tGB),b6,j6,_,_,HM.out,p6.keep hE tBEL,rfl,u7f (name:=[]) u5p u2h u2h⟩)
theorem rst_barrier {E:Rv} (hE:E.Ok) (w:World) (i:Nat)  (hp0:Rp E w i false) (h6:hitB E i false u4s=true) :
  Calls Tryz.prog 175 #[.pointer (some ⟨E.b,0,none⟩)] w (Ro E w (at0 E i false u2s) (RsV w.heap.size)):=by
 have hsz:=hp0.sz
 have hlt:=hE.lt
 have hi:=hp0.hi
 have hlen:=hE.len
 have lE:=hp0.lt
 have HP:=hid (hp0.keep hE (show Below E.base w ((w.alloc (.cells #[.int .i64 0,.int .i64 0,.string ⟨#[]⟩,.slice none 0 0,.slice none 0 0,.slice none 0 0] 136)).alloc (.cells #[.int .i64 0,.int .i64 0,.string ⟨#[]⟩,.slice none 0 0,.slice none 0 0,.slice none 0 0] 136)) from tBEL))
 have h0:=u2r h6 (t:=wIf) (by decide)
 have h1:=u2r h6 (t:=u5u) (by decide)
 have h2:=u2r h6 (t:=wLet) (by decide)
 have h3:=u2r h6 (t:=u6k) (by decide)
 have h4:=u2r h6 (t:=u2y) (by decide)
 have h5:=u2r h6 (t:=u3i) (by decide)
 obtain ⟨_,hh,hil⟩:=u2n h6
 have H0:=hid h0
 have H1:=hid h1
 have H2:=hid h2
 have H3:=hid h3
 have H4:=hid h4
 have H5:=hid h5
 have H6:=hid h6
 have HT:Hid (at0 E i false u2s=at0 E (i+1) false fun r=>(u1k [59] r).bind fun _ q=>.ok (.mk 8 0 [] [] [] []) q):=hid (by
  rw [u0l,u0l]
  unfold u2s endR smpR
  rw [u1x h0,u1x h1,u1x h2,u1x h3,u1x h4,u1x h5,hh]
  simp only [Bool.false_eq_true,if_false,if_true,u0z,List.drop_drop])
 clear hp0 h0 h1 h2 h3 h4 h5 h6 hh
 go_enter Tryz.func175,Tryz.ntmps175
 go_wp2_with fail
 refine (u1f hE _ i false HP.out [105,102] H0.out).mono ?_
 rintro e w1 ⟨g1,rfl,p1⟩
 have z1:=g1.size
 simp only [u0e] at z1
 have l1:=hkeep (q:=w.heap.size) g1 (u0g (by simp) (u0c _ _)) (by omega)
 have m1:=hkeep (q:=w.heap.size+1) g1 (u0k (by simp)) (by omega)
 have G1:=hid (show w.grownBy w1 (some E.b) from tGB)
 go_wp2_with fail
 refine (u1f hE _ i false p1 [119,104,105,108,101] H1.out).mono ?_
 rintro e w2 ⟨g2,rfl,p2⟩
 have z2:=g2.size
 have l2:=hkeep (q:=w.heap.size) g2 l1 (by omega)
 have m2:=hkeep (q:=w.heap.size+1) g2 m1 (by omega)
 have G2:=hid (u0b G1.out g2)
 clear l1 m1 G1 g2
 go_wp2_with fail
 refine (u1f hE _ i false p2 [108,101,116] H2.out).mono ?_
 rintro e w3 ⟨g3,rfl,p3⟩
 have z3:=g3.size
 have l3:=hkeep (q:=w.heap.size) g3 l2 (by omega)
 have m3:=hkeep (q:=w.heap.size+1) g3 m2 (by omega)
 have G3:=hid (u0b G2.out g3)
 clear l2 m2 G2 g3
 skip
 go_wp2_with fail
 refine (u1f hE _ i false p3 [98,114,101,97,107] H3.out).mono ?_
 rintro e w4 ⟨g4,rfl,p4⟩
 have z4:=g4.size
 have l4:=hkeep (q:=w.heap.size) g4 l3 (by omega)
 have m4:=hkeep (q:=w.heap.size+1) g4 m3 (by omega)
 have G4:=hid (u0b G3.out g4)
 clear l3 m3 G3 g4
 skip
 go_wp2_with fail
 refine (u1f hE _ i false p4 [99,111,110,116,105,110,117,101] H4.out).mono ?_
 rintro e w5 ⟨g5,rfl,p5⟩
 have z5:=g5.size
 have l5:=hkeep (q:=w.heap.size) g5 l4 (by omega)
 have m5:=hkeep (q:=w.heap.size+1) g5 m4 (by omega)
 have G5:=hid (u0b G4.out g5)
 clear l4 m4 G4 g5
 skip
 go_wp2_with fail
 refine (u1f hE _ i false p5 [114,101,116,117,114,110] H5.out).mono ?_
 rintro e w6 ⟨g6,rfl,p6⟩
 have z6:=g6.size
 have l6:=hkeep (q:=w.heap.size) g6 l5 (by omega)
 have m6:=hkeep (q:=w.heap.size+1) g6 m5 (by omega)
 have G6:=hid (u0b G5.out g6)
 clear l5 m5 G5 g6
 skip
 go_wp2_with fail
 refine (u5m hE _ i false p6 [98,97,114,114,105,101,114] H6.out).mono ?_
 rintro e w7 ⟨g7,rfl,p7⟩
 have z7:=g7.size
 have l7:=hkeep (q:=w.heap.size) g7 l6 (by omega)
 have m7:=hkeep (q:=w.heap.size+1) g7 m6 (by omega)
 have G7:=hid (u0b G6.out g7)
 clear l6 m6 G6 g7
 skip
 obtain ⟨cc,ff,_⟩:=u0i m7
 go_wp2_with fail
 refine (rneed hE _ (i+1) false (p7.keep hE tBEL) [59]).mono ?_
 rintro e w8 ⟨g8,b8,j8,v8,u8,hR,p8,rfl,rfl⟩
 have z8:=g8.size
 (try simp only [u0e,u0h,u0m] at z8)
 have R8:=hid hR
 clear hR
 have l8:=hkeep (q:=w.heap.size) g8 tLOC tSZ
 have m8:=hkeep (q:=w.heap.size+1) g8 (put6 _ _ _ _ _ _ m7) tSZ
 obtain ⟨ca,fa,_⟩:=u0i m8
 obtain ⟨cb,fb,_⟩:=u0i l8
 clear cc ff
 have HM:=hid (show at0 E i false u2s=mkR b8 (St.mk 8 0 [] [] [] []) (E.ks.drop j8) by
  rw [HT.out,u1y R8.out]
  exact u3j fun _=>St.mk 8 0 [] [] [] [])
 have GG:=hid (show w.grownBy w8 (some E.b) from u0b (by have hg:=G7.out; exact tGB) g8)
 go_wp2_with (refine u3b (v2:=.string ⟨#[]⟩) rfl rfl rfl tRES ?_; exact ⟨by (have hg:=GG.out; exact tGB),b8,j8,_,_,HM.out,p8.keep hE tBEL,rfl,u7f (name:=[]) u5p u2h u2h⟩)
theorem rst_ret0 {E:Rv} (hE:E.Ok) (w:World) (i:Nat)  (hp0:Rp E w i false) (h5:hitB E i false u3i=true) (hsb:hitB E (i+1) false [59]=true) :
  Calls Tryz.prog 175 #[.pointer (some ⟨E.b,0,none⟩)] w (Ro E w (at0 E i false u2s) (RsV w.heap.size)):=by
 have hsz:=hp0.sz
 have hlt:=hE.lt
 have hi:=hp0.hi
 have hlen:=hE.len
 have lE:=hp0.lt
 have HP:=hid (hp0.keep hE (show Below E.base w ((w.alloc (.cells #[.int .i64 0,.int .i64 0,.string ⟨#[]⟩,.slice none 0 0,.slice none 0 0,.slice none 0 0] 136)).alloc (.cells #[.int .i64 0,.int .i64 0,.string ⟨#[]⟩,.slice none 0 0,.slice none 0 0,.slice none 0 0] 136)) from tBEL))
 have h0:=u2r h5 (t:=wIf) (by decide)
 have h1:=u2r h5 (t:=u5u) (by decide)
 have h2:=u2r h5 (t:=wLet) (by decide)
 have h3:=u2r h5 (t:=u6k) (by decide)
 have h4:=u2r h5 (t:=u2y) (by decide)
 obtain ⟨_,hh,hil⟩:=u2n h5
 have H0:=hid h0
 have H1:=hid h1
 have H2:=hid h2
 have H3:=hid h3
 have H4:=hid h4
 have H5:=hid h5
 have hs:hit [59] (E.ks.drop (i+1))=true:=(u2n hsb).2.1
 have HS:=hid hsb
 have HT:Hid (at0 E i false u2s=at0 E (i+1) false fun r=>(u1k [59] r).bind fun _ q=>.ok (.mk 7 0 [] [] [] []) q):=hid (by
  rw [u0l,u0l]
  unfold u2s endR smpR branR loopR
  rw [u1x h0,u1x h1,u1x h2,u1x h3,u1x h4,hh]
  simp only [Bool.false_eq_true,if_false,if_true,u0z,List.drop_drop,letR,atomR,colR,u7d,u9p,u0y]
  unfold retR
  rw [hs]
  simp only [Bool.false_eq_true,if_false,if_true,u0z,u7d,u0y])
 clear hs hsb hp0 h0 h1 h2 h3 h4 h5 hh
 go_enter Tryz.func175,Tryz.ntmps175
 go_wp2_with fail
 refine (u1f hE _ i false HP.out [105,102] H0.out).mono ?_
 rintro e w1 ⟨g1,rfl,p1⟩
 have z1:=g1.size
 simp only [u0e] at z1
 have l1:=hkeep (q:=w.heap.size) g1 (u0g (by simp) (u0c _ _)) (by omega)
 have m1:=hkeep (q:=w.heap.size+1) g1 (u0k (by simp)) (by omega)
 have G1:=hid (show w.grownBy w1 (some E.b) from tGB)
 go_wp2_with fail
 refine (u1f hE _ i false p1 [119,104,105,108,101] H1.out).mono ?_
 rintro e w2 ⟨g2,rfl,p2⟩
 have z2:=g2.size
 have l2:=hkeep (q:=w.heap.size) g2 l1 (by omega)
 have m2:=hkeep (q:=w.heap.size+1) g2 m1 (by omega)
 have G2:=hid (u0b G1.out g2)
 clear l1 m1 G1 g2
 go_wp2_with fail
 refine (u1f hE _ i false p2 [108,101,116] H2.out).mono ?_
 rintro e w3 ⟨g3,rfl,p3⟩
 have z3:=g3.size
 have l3:=hkeep (q:=w.heap.size) g3 l2 (by omega)
 have m3:=hkeep (q:=w.heap.size+1) g3 m2 (by omega)
 have G3:=hid (u0b G2.out g3)
 clear l2 m2 G2 g3
 skip
 go_wp2_with fail
 refine (u1f hE _ i false p3 [98,114,101,97,107] H3.out).mono ?_
 rintro e w4 ⟨g4,rfl,p4⟩
 have z4:=g4.size
 have l4:=hkeep (q:=w.heap.size) g4 l3 (by omega)
 have m4:=hkeep (q:=w.heap.size+1) g4 m3 (by omega)
 have G4:=hid (u0b G3.out g4)
 clear l3 m3 G3 g4
 skip
 go_wp2_with fail
 refine (u1f hE _ i false p4 [99,111,110,116,105,110,117,101] H4.out).mono ?_
 rintro e w5 ⟨g5,rfl,p5⟩
 have z5:=g5.size
 have l5:=hkeep (q:=w.heap.size) g5 l4 (by omega)
 have m5:=hkeep (q:=w.heap.size+1) g5 m4 (by omega)
 have G5:=hid (u0b G4.out g5)
 clear l4 m4 G4 g5
 skip
 go_wp2_with fail
 refine (u5m hE _ i false p5 [114,101,116,117,114,110] H5.out).mono ?_
 rintro e w6 ⟨g6,rfl,p6⟩
 have z6:=g6.size
 have l6:=hkeep (q:=w.heap.size) g6 l5 (by omega)
 have m6:=hkeep (q:=w.heap.size+1) g6 m5 (by omega)
 have G6:=hid (u0b G5.out g6)
 clear l5 m5 G5 g6
 skip
 obtain ⟨ca6,fa6,_⟩:=u0i m6
 go_wp2_with fail
 refine (ris hE _ (i+1) false (p6.keep hE tBEL) [59] _ HS.out).mono ?_
 rintro e w7 ⟨rfl,hb7⟩
 have g7:=u0d hb7 (some E.b)
 have z7:=g7.size
 (try simp only [u0e,u0h,u0m] at z7)
 have p7:=(p6.keep hE (show Below E.base w6 _ from tBEL)).keepB hE hb7
 have l7:=hkeep (q:=w.heap.size) g7 tLOC tSZ
 have m7:=hkeep (q:=w.heap.size+1) g7 (by exact put6 _ _ _ _ _ _ m6) tSZ
 obtain ⟨ca7,fa7,_⟩:=u0i m7
 have G7:=hid (show w.grownBy w7 (some E.b) from u0b (by have hg:=G6.out; exact tGB) g7)
 go_wp2_with fail
 refine (rneed hE _ (i+1) false p7 [59]).mono ?_
 rintro e w8 ⟨g8,b8,j8,v8,u8,hR,p8,rfl,rfl⟩
 have z8:=g8.size
 (try simp only [u0e,u0h,u0m] at z8)
 have R8:=hid hR
 clear hR
 have l8:=hkeep (q:=w.heap.size) g8 (by exact l7) tSZ
 have m8:=hkeep (q:=w.heap.size+1) g8 (by exact m7) tSZ
 have GG:=hid (u0b G7.out g8)
 have HM:=hid (show at0 E i false u2s=mkR b8 (St.mk 7 0 [] [] [] []) (E.ks.drop j8) by
  rw [HT.out,u1y R8.out]
  exact u3j fun _=>St.mk 7 0 [] [] [] [])
 obtain ⟨ca,fa,_⟩:=u0i m8
 obtain ⟨cb,fb,_⟩:=u0i l8
 go_wp2_with (refine u3b (v2:=.string ⟨#[]⟩) rfl rfl rfl tRES ?_; exact ⟨by (have hg:=GG.out; exact tGB),b8,j8,_,_,HM.out,p8.keep hE tBEL,rfl,u7f (name:=[]) u5p u2h u2h⟩)
theorem rst_ret1 {E:Rv} (hE:E.Ok) (w:World) (i:Nat)  (hp0:Rp E w i false) (h5:hitB E i false u3i=true) (hsb:hitB E (i+1) false [59]=false) :
  Calls Tryz.prog 175 #[.pointer (some ⟨E.b,0,none⟩)] w (Ro E w (at0 E i false u2s) (RsV w.heap.size)):=by
 have hsz:=hp0.sz
 have hlt:=hE.lt
 have hi:=hp0.hi
 have hlen:=hE.len
 have lE:=hp0.lt
 have HP:=hid (hp0.keep hE (show Below E.base w ((w.alloc (.cells #[.int .i64 0,.int .i64 0,.string ⟨#[]⟩,.slice none 0 0,.slice none 0 0,.slice none 0 0] 136)).alloc (.cells #[.int .i64 0,.int .i64 0,.string ⟨#[]⟩,.slice none 0 0,.slice none 0 0,.slice none 0 0] 136)) from tBEL))
 have h0:=u2r h5 (t:=wIf) (by decide)
 have h1:=u2r h5 (t:=u5u) (by decide)
 have h2:=u2r h5 (t:=wLet) (by decide)
 have h3:=u2r h5 (t:=u6k) (by decide)
 have h4:=u2r h5 (t:=u2y) (by decide)
 obtain ⟨_,hh,hil⟩:=u2n h5
 have H0:=hid h0
 have H1:=hid h1
 have H2:=hid h2
 have H3:=hid h3
 have H4:=hid h4
 have H5:=hid h5
 have hs:hit [59] (E.ks.drop (i+1))=false:=u1x hsb
 have HS:=hid hsb
 have HT:Hid (at0 E i false u2s=at0 E (i+1) false fun l=>(PE (.ex 1) l).bind fun e r3=>(u1k [59] r3).bind fun _ q=>.ok (.mk 7 0 [] [e] [] []) q):=hid (by
  rw [u0l,u0l]
  unfold u2s endR smpR branR loopR
  rw [u1x h0,u1x h1,u1x h2,u1x h3,u1x h4,hh]
  simp only [Bool.false_eq_true,if_false,if_true,u0z,List.drop_drop,letR,atomR,colR,u7d,u9p,u0y]
  unfold retR
  rw [hs]
  simp only [Bool.false_eq_true,if_false,if_true,u0z,u7d,u0y])
 clear hs hsb hp0 h0 h1 h2 h3 h4 h5 hh
 go_enter Tryz.func175,Tryz.ntmps175
 go_wp2_with fail
 refine (u1f hE _ i false HP.out [105,102] H0.out).mono ?_
 rintro e w1 ⟨g1,rfl,p1⟩
 have z1:=g1.size
 simp only [u0e] at z1
 have l1:=hkeep (q:=w.heap.size) g1 (u0g (by simp) (u0c _ _)) (by omega)
 have m1:=hkeep (q:=w.heap.size+1) g1 (u0k (by simp)) (by omega)
 have G1:=hid (show w.grownBy w1 (some E.b) from tGB)
 go_wp2_with fail
 refine (u1f hE _ i false p1 [119,104,105,108,101] H1.out).mono ?_
 rintro e w2 ⟨g2,rfl,p2⟩
 have z2:=g2.size
 have l2:=hkeep (q:=w.heap.size) g2 l1 (by omega)
 have m2:=hkeep (q:=w.heap.size+1) g2 m1 (by omega)
 have G2:=hid (u0b G1.out g2)
 clear l1 m1 G1 g2
 go_wp2_with fail
 refine (u1f hE _ i false p2 [108,101,116] H2.out).mono ?_
 rintro e w3 ⟨g3,rfl,p3⟩
 have z3:=g3.size
 have l3:=hkeep (q:=w.heap.size) g3 l2 (by omega)
 have m3:=hkeep (q:=w.heap.size+1) g3 m2 (by omega)
 have G3:=hid (u0b G2.out g3)
 clear l2 m2 G2 g3
 skip
 go_wp2_with fail
 refine (u1f hE _ i false p3 [98,114,101,97,107] H3.out).mono ?_
 rintro e w4 ⟨g4,rfl,p4⟩
 have z4:=g4.size
 have l4:=hkeep (q:=w.heap.size) g4 l3 (by omega)
 have m4:=hkeep (q:=w.heap.size+1) g4 m3 (by omega)
 have G4:=hid (u0b G3.out g4)
 clear l3 m3 G3 g4
 skip
 go_wp2_with fail
 refine (u1f hE _ i false p4 [99,111,110,116,105,110,117,101] H4.out).mono ?_
 rintro e w5 ⟨g5,rfl,p5⟩
 have z5:=g5.size
 have l5:=hkeep (q:=w.heap.size) g5 l4 (by omega)
 have m5:=hkeep (q:=w.heap.size+1) g5 m4 (by omega)
 have G5:=hid (u0b G4.out g5)
 clear l4 m4 G4 g5
 skip
 go_wp2_with fail
 refine (u5m hE _ i false p5 [114,101,116,117,114,110] H5.out).mono ?_
 rintro e w6 ⟨g6,rfl,p6⟩
 have z6:=g6.size
 have l6:=hkeep (q:=w.heap.size) g6 l5 (by omega)
 have m6:=hkeep (q:=w.heap.size+1) g6 m5 (by omega)
 have G6:=hid (u0b G5.out g6)
 clear l5 m5 G5 g6
 skip
 obtain ⟨ca6,fa6,_⟩:=u0i m6
 go_wp2_with fail
 refine (ris hE _ (i+1) false (p6.keep hE tBEL) [59] _ HS.out).mono ?_
 rintro e w7 ⟨rfl,hb7⟩
 have g7:=u0d hb7 (some E.b)
 have z7:=g7.size
 (try simp only [u0e,u0h,u0m] at z7)
 have p7:=(p6.keep hE (show Below E.base w6 _ from tBEL)).keepB hE hb7
 have l7:=hkeep (q:=w.heap.size) g7 tLOC tSZ
 have m7:=hkeep (q:=w.heap.size+1) g7 (by exact put6 _ _ _ _ _ _ m6) tSZ
 obtain ⟨ca7,fa7,_⟩:=u0i m7
 have G7:=hid (show w.grownBy w7 (some E.b) from u0b (by have hg:=G6.out; exact tGB) g7)
 go_wp2_with fail
 refine (rx1 hE _ (i+1) false p7).mono ?_
 rintro e w8 ⟨g8,b8,j8,v8,a8,hR,p8,rfl,⟨ak,ao,an,ax,aA,am,ac,rfl,ha8⟩⟩
 have z8:=g8.size
 (try simp only [u0e,u0h,u0m] at z8)
 have R8:=hid hR
 clear hR
 have l8:=hkeep (q:=w.heap.size) g8 (by exact l7) tSZ
 have m8:=hkeep (q:=w.heap.size+1) g8 (by exact m7) tSZ
 obtain ⟨ca8,fa8,_⟩:=u0i m8
 have G8:=hid (u0b G7.out g8)
 have S8:=hid (show SlE ((w8.setCell ⟨w.heap.size+1,3,none⟩ (.slice (some ⟨w8.heap.size,0,none⟩) 1 1)).alloc (.cells #[.int .i64 ak,.int .i64 ao,.int .i32 an,.string (bs ax),.slice aA am ac] 34)) (fun g=>w.heap.size+2≤g∧g<((w8.setCell ⟨w.heap.size+1,3,none⟩ (.slice (some ⟨w8.heap.size,0,none⟩) 1 1)).alloc (.cells #[.int .i64 ak,.int .i64 ao,.int .i32 an,.string (bs ax),.slice aA am ac] 34)).heap.size) (.slice (some ⟨w8.heap.size,0,none⟩) 1 1) [a8] from sl_one ak ao an ax aA am ac tLOC tSZ (u1s ha8 tKP tSZ tSZ))
 go_wp2_with fail
 refine (rneed hE _ j8 b8 (p8.keep hE tBEL) [59]).mono ?_
 rintro e w9 ⟨g9,b9,j9,v9,u9,hR,p9,rfl,rfl⟩
 have z9:=g9.size
 (try simp only [u0e,u0h,u0m] at z9)
 have R9:=hid hR
 clear hR
 have l9:=hkeep (q:=w.heap.size) g9 tLOC tSZ
 have m9:=hkeep (q:=w.heap.size+1) g9 (by exact u0g tSZ (p6_3 _ m8)) tSZ
 have GG:=hid (show w.grownBy w9 (some E.b) from u0b (by have hg:=G8.out; exact tGB) g9)
 have S9:=hid (u9v S8.out g9 (by omega))
 have HM:=hid (show at0 E i false u2s=mkR b9 (St.mk 7 0 [] [a8] [] []) (E.ks.drop j9) by
  rw [HT.out,u1y R8.out,u1i R9.out]
  exact u3j fun _=>St.mk 7 0 [] [a8] [] [])
 obtain ⟨ca,fa,_⟩:=u0i m9
 obtain ⟨cb,fb,_⟩:=u0i l9
 go_wp2_with (refine u3b (v2:=.string ⟨#[]⟩) rfl rfl rfl tRES ?_; exact ⟨by (have hg:=GG.out; exact tGB),b9,j9,_,_,HM.out,p9.keep hE tBEL,rfl,u7f (name:=[]) (u4f S9.out tKP tSZ tSZ) u2h u2h⟩)
theorem rst_collect {E:Rv} (hE:E.Ok) (w:World) (i:Nat)  (hp0:Rp E w i false) (h8:hitB E i false u3u=true) :
  Calls Tryz.prog 175 #[.pointer (some ⟨E.b,0,none⟩)] w (Ro E w (at0 E i false u2s) (RsV w.heap.size)):=by
 have hsz:=hp0.sz
 have hlt:=hE.lt
 have hi:=hp0.hi
 have hlen:=hE.len
 have lE:=hp0.lt
 have HP:=hid (hp0.keep hE (show Below E.base w ((w.alloc (.cells #[.int .i64 0,.int .i64 0,.string ⟨#[]⟩,.slice none 0 0,.slice none 0 0,.slice none 0 0] 136)).alloc (.cells #[.int .i64 0,.int .i64 0,.string ⟨#[]⟩,.slice none 0 0,.slice none 0 0,.slice none 0 0] 136)) from tBEL))
 have h0:=u2r h8 (t:=wIf) (by decide)
 have h1:=u2r h8 (t:=u5u) (by decide)
 have h2:=u2r h8 (t:=wLet) (by decide)
 have h3:=u2r h8 (t:=u6k) (by decide)
 have h4:=u2r h8 (t:=u2y) (by decide)
 have h5:=u2r h8 (t:=u3i) (by decide)
 have h6:=u2r h8 (t:=u4s) (by decide)
 have h7:=u2r h8 (t:=u4z) (by decide)
 obtain ⟨_,hh,hil⟩:=u2n h8
 have H0:=hid h0
 have H1:=hid h1
 have H2:=hid h2
 have H3:=hid h3
 have H4:=hid h4
 have H5:=hid h5
 have H6:=hid h6
 have H7:=hid h7
 have H8:=hid h8
 have HT:Hid (at0 E i false u2s=at0 E (i+1) false fun l=>(needN' l).bind fun x r1=>(u1k [61] r1).bind fun _ r2=>(needF' r2).bind fun op r3=>(PE (.ex 1) r3).bind fun e r4=>(u1k [59] r4).bind fun _ q=>.ok (.mk 10 op x [e] [] []) q):=hid (by
  rw [u0l,u0l]
  unfold u2s endR smpR branR loopR
  rw [u1x h0,u1x h1,u1x h2,u1x h3,u1x h4,u1x h5,u1x h6,u1x h7,hh]
  simp only [Bool.false_eq_true,if_false,if_true,u0z,List.drop_drop,letR,atomR,colR,u7d,u9p,u0y])
 clear hp0 h0 h1 h2 h3 h4 h5 h6 h7 h8 hh
 go_enter Tryz.func175,Tryz.ntmps175
 go_wp2_with fail
 refine (u1f hE _ i false HP.out [105,102] H0.out).mono ?_
 rintro e w1 ⟨g1,rfl,p1⟩
 have z1:=g1.size
 simp only [u0e] at z1
 have l1:=hkeep (q:=w.heap.size) g1 (u0g (by simp) (u0c _ _)) (by omega)
 have m1:=hkeep (q:=w.heap.size+1) g1 (u0k (by simp)) (by omega)
 have G1:=hid (show w.grownBy w1 (some E.b) from tGB)
 go_wp2_with fail
 refine (u1f hE _ i false p1 [119,104,105,108,101] H1.out).mono ?_
 rintro e w2 ⟨g2,rfl,p2⟩
 have z2:=g2.size
 have l2:=hkeep (q:=w.heap.size) g2 l1 (by omega)
 have m2:=hkeep (q:=w.heap.size+1) g2 m1 (by omega)
 have G2:=hid (u0b G1.out g2)
 clear l1 m1 G1 g2
 go_wp2_with fail
 refine (u1f hE _ i false p2 [108,101,116] H2.out).mono ?_
 rintro e w3 ⟨g3,rfl,p3⟩
 have z3:=g3.size
 have l3:=hkeep (q:=w.heap.size) g3 l2 (by omega)
 have m3:=hkeep (q:=w.heap.size+1) g3 m2 (by omega)
 have G3:=hid (u0b G2.out g3)
 clear l2 m2 G2 g3
 skip
 go_wp2_with fail
 refine (u1f hE _ i false p3 [98,114,101,97,107] H3.out).mono ?_
 rintro e w4 ⟨g4,rfl,p4⟩
 have z4:=g4.size
 have l4:=hkeep (q:=w.heap.size) g4 l3 (by omega)
 have m4:=hkeep (q:=w.heap.size+1) g4 m3 (by omega)
 have G4:=hid (u0b G3.out g4)
 clear l3 m3 G3 g4
 skip
 go_wp2_with fail
 refine (u1f hE _ i false p4 [99,111,110,116,105,110,117,101] H4.out).mono ?_
 rintro e w5 ⟨g5,rfl,p5⟩
 have z5:=g5.size
 have l5:=hkeep (q:=w.heap.size) g5 l4 (by omega)
 have m5:=hkeep (q:=w.heap.size+1) g5 m4 (by omega)
 have G5:=hid (u0b G4.out g5)
 clear l4 m4 G4 g5
 skip
 go_wp2_with fail
 refine (u1f hE _ i false p5 [114,101,116,117,114,110] H5.out).mono ?_
 rintro e w6 ⟨g6,rfl,p6⟩
 have z6:=g6.size
 have l6:=hkeep (q:=w.heap.size) g6 l5 (by omega)
 have m6:=hkeep (q:=w.heap.size+1) g6 m5 (by omega)
 have G6:=hid (u0b G5.out g6)
 clear l5 m5 G5 g6
 skip
 go_wp2_with fail
 refine (u1f hE _ i false p6 [98,97,114,114,105,101,114] H6.out).mono ?_
 rintro e w7 ⟨g7,rfl,p7⟩
 have z7:=g7.size
 have l7:=hkeep (q:=w.heap.size) g7 l6 (by omega)
 have m7:=hkeep (q:=w.heap.size+1) g7 m6 (by omega)
 have G7:=hid (u0b G6.out g7)
 clear l6 m6 G6 g7
 skip
 go_wp2_with fail
 refine (u1f hE _ i false p7 [97,116,111,109,105,99] H7.out).mono ?_
 rintro e w8 ⟨g8,rfl,p8⟩
 have z8:=g8.size
 have l8:=hkeep (q:=w.heap.size) g8 l7 (by omega)
 have m8:=hkeep (q:=w.heap.size+1) g8 m7 (by omega)
 have G8:=hid (u0b G7.out g8)
 clear l7 m7 G7 g8
 skip
 go_wp2_with fail
 refine (u5m hE _ i false p8 [99,111,108,108,101,99,116] H8.out).mono ?_
 rintro e w9 ⟨g9,rfl,p9⟩
 have z9:=g9.size
 have l9:=hkeep (q:=w.heap.size) g9 l8 (by omega)
 have m9:=hkeep (q:=w.heap.size+1) g9 m8 (by omega)
 have G9:=hid (u0b G8.out g9)
 clear l8 m8 G8 g9
 skip
 obtain ⟨ca9,fa9,_⟩:=u0i m9
 go_wp2_with fail
 refine (rname hE _ (i+1) false p9).mono ?_
 rintro e w10 ⟨g10,b10,j10,v10,x10,hR,p10,rfl,rfl⟩
 have z10:=g10.size
 (try simp only [u0e,u0h,u0m] at z10)
 have R10:=hid hR
 clear hR
 have l10:=hkeep (q:=w.heap.size) g10 (by exact l9) tSZ
 have m10:=hkeep (q:=w.heap.size+1) g10 (by exact m9) tSZ
 obtain ⟨ca10,fa10,_⟩:=u0i m10
 have G10:=hid (u0b G9.out g10)
 go_wp2_with fail
 refine (rneed hE _ j10 b10 (p10.keep hE tBEL) [61]).mono ?_
 rintro e w11 ⟨g11,b11,j11,v11,u11,hR,p11,rfl,rfl⟩
 have z11:=g11.size
 (try simp only [u0e,u0h,u0m] at z11)
 have R11:=hid hR
 clear hR
 have l11:=hkeep (q:=w.heap.size) g11 tLOC tSZ
 have m11:=hkeep (q:=w.heap.size+1) g11 (by exact put6 _ _ _ _ _ _ m10) tSZ
 obtain ⟨ca11,fa11,_⟩:=u0i m11
 have G11:=hid (show w.grownBy w11 (some E.b) from u0b (by have hg:=G10.out; exact tGB) g11)
 go_wp2_with fail
 refine (rfold hE _ j11 b11 p11).mono ?_
 rintro e w12 ⟨g12,b12,j12,v12,o12,hR,p12,rfl,rfl⟩
 have z12:=g12.size
 (try simp only [u0e,u0h,u0m] at z12)
 have R12:=hid hR
 clear hR
 have l12:=hkeep (q:=w.heap.size) g12 (by exact l11) tSZ
 have m12:=hkeep (q:=w.heap.size+1) g12 (by exact m11) tSZ
 obtain ⟨ca12,fa12,_⟩:=u0i m12
 have G12:=hid (u0b G11.out g12)
 go_wp2_with fail
 refine (rx1 hE _ j12 b12 (p12.keep hE tBEL)).mono ?_
 rintro e w13 ⟨g13,b13,j13,v13,a13,hR,p13,rfl,⟨ak,ao,an,ax,aA,am,ac,rfl,ha13⟩⟩
 have z13:=g13.size
 (try simp only [u0e,u0h,u0m] at z13)
 have R13:=hid hR
 clear hR
 have l13:=hkeep (q:=w.heap.size) g13 tLOC tSZ
 have m13:=hkeep (q:=w.heap.size+1) g13 (by exact p6_1 _ m12) tSZ
 obtain ⟨ca13,fa13,_⟩:=u0i m13
 have G13:=hid (show w.grownBy w13 (some E.b) from u0b (by have hg:=G12.out; exact tGB) g13)
 have S13:=hid (show SlE ((w13.setCell ⟨w.heap.size+1,3,none⟩ (.slice (some ⟨w13.heap.size,0,none⟩) 1 1)).alloc (.cells #[.int .i64 ak,.int .i64 ao,.int .i32 an,.string (bs ax),.slice aA am ac] 34)) (fun g=>w.heap.size+2≤g∧g<((w13.setCell ⟨w.heap.size+1,3,none⟩ (.slice (some ⟨w13.heap.size,0,none⟩) 1 1)).alloc (.cells #[.int .i64 ak,.int .i64 ao,.int .i32 an,.string (bs ax),.slice aA am ac] 34)).heap.size) (.slice (some ⟨w13.heap.size,0,none⟩) 1 1) [a13] from sl_one ak ao an ax aA am ac tLOC tSZ (u1s ha13 tKP tSZ tSZ))
 go_wp2_with fail
 refine (rneed hE _ j13 b13 (p13.keep hE tBEL) [59]).mono ?_
 rintro e w14 ⟨g14,b14,j14,v14,u14,hR,p14,rfl,rfl⟩
 have z14:=g14.size
 (try simp only [u0e,u0h,u0m] at z14)
 have R14:=hid hR
 clear hR
 have l14:=hkeep (q:=w.heap.size) g14 tLOC tSZ
 have m14:=hkeep (q:=w.heap.size+1) g14 (by exact u0g tSZ (p6_3 _ m13)) tSZ
 have GG:=hid (show w.grownBy w14 (some E.b) from u0b (by have hg:=G13.out; exact tGB) g14)
 have S14:=hid (u9v S13.out g14 (by omega))
 have HM:=hid (show at0 E i false u2s=mkR b14 (St.mk 10 o12 x10 [a13] [] []) (E.ks.drop j14) by
  rw [HT.out,u1y R10.out,u1i R11.out,u1i R12.out,u1i R13.out,u1i R14.out]
  exact u3j fun _=>St.mk 10 o12 x10 [a13] [] [])
 obtain ⟨ca,fa,_⟩:=u0i m14
 obtain ⟨cb,fb,_⟩:=u0i l14
 go_wp2_with (refine u3b  rfl rfl rfl tRES ?_; exact ⟨by (have hg:=GG.out; exact tGB),b14,j14,_,_,HM.out,p14.keep hE tBEL,rfl,u7f (u4f S14.out tKP tSZ tSZ) u2h u2h⟩)
theorem rst_while {E:Rv} (hE:E.Ok) (w:World) (i:Nat) (hB:∀ j d,(d=false→i<j)→RbC E j d) (hp0:Rp E w i false) (h1:hitB E i false u5u=true) :
  Calls Tryz.prog 175 #[.pointer (some ⟨E.b,0,none⟩)] w (Ro E w (at0 E i false u2s) (RsV w.heap.size)):=by
 have hsz:=hp0.sz
 have hlt:=hE.lt
 have hi:=hp0.hi
 have hlen:=hE.len
 have lE:=hp0.lt
 have HP:=hid (hp0.keep hE (show Below E.base w ((w.alloc (.cells #[.int .i64 0,.int .i64 0,.string ⟨#[]⟩,.slice none 0 0,.slice none 0 0,.slice none 0 0] 136)).alloc (.cells #[.int .i64 0,.int .i64 0,.string ⟨#[]⟩,.slice none 0 0,.slice none 0 0,.slice none 0 0] 136)) from tBEL))
 have h0:=u2r h1 (t:=wIf) (by decide)
 obtain ⟨_,hh,hil⟩:=u2n h1
 have H0:=hid h0
 have H1:=hid h1
 have HB:=hid hB
 clear hB
 have HT:Hid (at0 E i false u2s=at0 E (i+1) false fun l=>(PE (.ex 1) l).bind fun e r1=>(u5s r1).bind fun b r2=>.ok (.mk 4 0 [] [e] b []) r2):=hid (by
  rw [u0l,u0l]
  unfold u2s endR smpR branR loopR
  rw [u1x h0,hh]
  simp only [Bool.false_eq_true,if_false,if_true,u0z,List.drop_drop,letR,atomR,colR,u7d,u9p,u0y])
 clear hp0 h0 h1 hh
 go_enter Tryz.func175,Tryz.ntmps175
 go_wp2_with fail
 refine (u1f hE _ i false HP.out [105,102] H0.out).mono ?_
 rintro e w1 ⟨g1,rfl,p1⟩
 have z1:=g1.size
 simp only [u0e] at z1
 have l1:=hkeep (q:=w.heap.size) g1 (u0g (by simp) (u0c _ _)) (by omega)
 have m1:=hkeep (q:=w.heap.size+1) g1 (u0k (by simp)) (by omega)
 have G1:=hid (show w.grownBy w1 (some E.b) from tGB)
 go_wp2_with fail
 refine (u5m hE _ i false p1 [119,104,105,108,101] H1.out).mono ?_
 rintro e w2 ⟨g2,rfl,p2⟩
 have z2:=g2.size
 have l2:=hkeep (q:=w.heap.size) g2 l1 (by omega)
 have m2:=hkeep (q:=w.heap.size+1) g2 m1 (by omega)
 have G2:=hid (u0b G1.out g2)
 clear l1 m1 G1 g2
 obtain ⟨ca2,fa2,_⟩:=u0i m2
 go_wp2_with fail
 refine (rx1 hE _ (i+1) false p2).mono ?_
 rintro e w3 ⟨g3,b3,j3,v3,a3,hR,p3,rfl,⟨ak,ao,an,ax,aA,am,ac,rfl,ha3⟩⟩
 have z3:=g3.size
 (try simp only [u0e,u0h,u0m] at z3)
 have R3:=hid hR
 clear hR
 have l3:=hkeep (q:=w.heap.size) g3 (by exact l2) tSZ
 have m3:=hkeep (q:=w.heap.size+1) g3 (by exact m2) tSZ
 obtain ⟨ca3,fa3,_⟩:=u0i m3
 have G3:=hid (u0b G2.out g3)
 have S3:=hid (show SlE (((((((w3.setCell ⟨w.heap.size+1,0,none⟩ (.int .i64 4)).setCell ⟨w.heap.size+1,1,none⟩ (.int .i64 0)).setCell ⟨w.heap.size+1,2,none⟩ (.string ⟨#[]⟩)).setCell ⟨w.heap.size+1,3,none⟩ (.slice (some ⟨w3.heap.size,0,none⟩) 1 1)).setCell ⟨w.heap.size+1,4,none⟩ (.slice none 0 0)).setCell ⟨w.heap.size+1,5,none⟩ (.slice none 0 0)).alloc (.cells #[.int .i64 ak,.int .i64 ao,.int .i32 an,.string (bs ax),.slice aA am ac] 34)) (fun g=>w.heap.size+2≤g∧g<((((((((w3.setCell ⟨w.heap.size+1,0,none⟩ (.int .i64 4)).setCell ⟨w.heap.size+1,1,none⟩ (.int .i64 0)).setCell ⟨w.heap.size+1,2,none⟩ (.string ⟨#[]⟩)).setCell ⟨w.heap.size+1,3,none⟩ (.slice (some ⟨w3.heap.size,0,none⟩) 1 1)).setCell ⟨w.heap.size+1,4,none⟩ (.slice none 0 0)).setCell ⟨w.heap.size+1,5,none⟩ (.slice none 0 0)).alloc (.cells #[.int .i64 ak,.int .i64 ao,.int .i32 an,.string (bs ax),.slice aA am ac] 34))).heap.size) (.slice (some ⟨w3.heap.size,0,none⟩) 1 1) [a3] from sl_one ak ao an ax aA am ac tLOC tSZ (u1s ha3 tKP tSZ tSZ))
 go_wp2_with fail
 refine (HB.out j3 b3 (fun h=>by have:=at0_ex p3.hi R3.out h; omega) _ (p3.keep hE tBEL)).mono ?_
 rintro e w4 ⟨g4,b4,j4,v4,a4,hR,p4,rfl,⟨A4,n4,c4,rfl,hs4⟩⟩
 have z4:=g4.size
 (try simp only [u0e,u0h,u0m] at z4)
 have R4:=hid hR
 clear hR
 have l4:=hkeep (q:=w.heap.size) g4 tLOC tSZ
 have m4:=hkeep (q:=w.heap.size+1) g4 (by exact u0g tSZ (put6 _ _ _ _ _ _ m3)) tSZ
 have GG:=hid (show w.grownBy w4 (some E.b) from u0b (by have hg:=G3.out; exact tGB) g4)
 have S4:=hid (u9v S3.out g4 (by omega))
 have B4:=hid (u3r hs4 (u5t _ _) (show w.heap.size+2≤_ from tSZ) (Nat.le_refl _))
 have HM:=hid (show at0 E i false u2s=mkR b4 (St.mk 4 0 [] [a3] a4 []) (E.ks.drop j4) by
  rw [HT.out,u1y R3.out,u1i R4.out]
  exact u3j fun b=>St.mk 4 0 [] [a3] b [])
 obtain ⟨ca,fa,_⟩:=u0i m4
 obtain ⟨cb,fb,_⟩:=u0i l4
 go_wp2_with (refine u3b (v2:=.string ⟨#[]⟩) rfl rfl rfl tRES ?_; exact ⟨by (have hg:=GG.out; exact tGB),b4,j4,_,_,HM.out,p4.keep hE tBEL,rfl,u7f (name:=[]) (u4f S4.out tKP tSZ tSZ) (u3r B4.out tKP tSZ tSZ) u2h⟩)
end Go.Proofs.YtbkhnilbgocpnaaGreatDoor.SynC
