import Derived.Test.YtbkhnilbgocpnaaGreatDoorY0
import Derived.Test.YtbkhnilbgocpnaaGreatDoorY37
set_option linter.unusedVariables false
set_option linter.unusedSimpArgs false
set_option maxRecDepth 100000
set_option maxHeartbeats 2000000
open Go.Lib (hid)
namespace Go.Proofs.YtbkhnilbgocpnaaGreatDoor.SynC
open Go.Proofs.YtbkhnilbgocpnaaGreatDoor.LexC
open Go Go.ChangeShapes Go.WideShapes Go.ChangeAt Go.RowKit Go.Deep
theorem args_need {x:List UInt8} {kids:List Ex} {l:List K} (h:hit [44] l=false):PE (.args x kids) l=(u1k [41] l).bind fun _ r=>.ok (.mk 6 0 0 x kids) r:=by
 cases h1:hit [41] l
 ·rw [args_no h1 h]
  cases l with
  | nil=>rfl
  | cons t r=>unfold u1k need; simp only [hit] at h1; simp [h1]; rfl
 ·obtain ⟨n,r,rfl⟩:=hit_cons h1
  rw [args_end]; rfl
theorem call_need {x:List UInt8} {kids:List Ex} {b:Bool} {l:List K} (h:b=true∨hit [44] l=false) :
  (mkR b kids l).bind (fun ks r=>PE (.args x ks) r)=(mkR b kids l).bind (fun ks r=>(u1k [41] r).bind fun _ r=>.ok (.mk 6 0 0 x ks) r):=by
 cases b
 ·rcases h with h | h
  ·cases h
  ·exact args_need h
 ·rfl
def RnRel (E:Rv) (w:World) (x:List UInt8) (i q:Nat) (wr:World):Prop:=∃ (j:Nat) (b:Bool) (kids:List Ex) (A:Option Addr) (m c:Nat),(b=false→i<j)∧kids.length≤E.L.length+1∧(b=false→kids.length≤j)∧w.grownBy wr (some E.b)∧Rp E wr j b ∧
 PE (.named x) (E.ks.drop i)=(mkR b kids (E.ks.drop j)).bind (fun ks r=>PE (.args x ks) r) ∧
 wr.heap[w.heap.size]? = some (.cells #[.int .i64 0,.int .i64 0,.int .i32 0,.string ⟨#[]⟩,.slice none 0 0] 34 (0,0))∧wr.heap[q]? = some (.cells #[.int .i64 6,.int .i64 0,.int .i32 0,.string (bs x),.slice A m c] 34 (0,0)) ∧
 OwnL rdE 34 5 wr (q+1) (.slice A m c) kids
theorem itemR_mk {E:Rv} {j k:Nat} {x:List UInt8} {kids:List Ex} {a:Ex} {b:Bool} (h:at0 E j false (PE (.ex 1))=mkR b a (E.ks.drop k)):itemR x kids (E.ks.drop j)=(mkR b (kids++[a]) (E.ks.drop k)).bind (fun ks r=>PE (.args x ks) r):=by
 rw [u0l] at h
 unfold itemR; rw [h]
 cases b <;> rfl
theorem loc_ownr {W w1:World} {r:Option Nat} {q:Nat} {cs:Array Value} {T:TypeId} (hg:W.grownBy w1 r) (hq:W.heap[q]? = some (.cells cs T (0,0))) (hne:∀ g,r=some g→q≠g) :
  (∀ j,w1.cell? ⟨q,j,none⟩=cs[j]?)∧(∀ j,w1.frozen? ⟨q,j,none⟩=false)∧q<w1.heap.size∧w1.heap[q]? = some (.cells cs T (0,0)):=by
 have h:=(hg.block q (Array.getElem?_eq_some_iff.1 hq).1 (fun e=>hne q e.symm rfl)).trans hq
 exact ⟨fun j=>cell_of_row _ _ j _ _ _ h,fun j=>by simp [World.frozen?,h],(Array.getElem?_eq_some_iff.1 h).1,h⟩
theorem Rp.grown {E:Rv} (hE:E.Ok) {w w':World} {i:Nat} {b:Bool} (h:Rp E w i b) {r:Option Nat} (hg:w.grownBy w' r) (hr:∀ g,r=some g→E.base≤g):Rp E w' i b:=by
 have hlt:=hE.lt
 have hx:=hE.xlt
 exact ⟨(hg.block E.b h.lt (fun e=>by have:=hr _ e.symm; omega)).trans h.hb,fun j u hu=>hg.cell (h.ht j u hu) (fun e=>by have:=hr _ e.symm; simp at this; omega),h.hi,Nat.le_trans h.sz hg.size⟩
theorem put_4 {w:World} {q:Nat} {T:TypeId} {fr:Nat × Nat} {x0 x1 x2 x3 x4:Value} (v:Value) (h:w.heap[q]? = some (.cells #[x0,x1,x2,x3,x4] T fr)):(w.setCell ⟨q,4,none⟩ v).heap[q]? = some (.cells #[x0,x1,x2,x3,v] T fr):=by
 simp [World.setCell,Array.getElem?_modify,h]
theorem ownL_set {α:Type} {rd:Rd α} (ok:rd.Ok) {T sz:Nat} {w:World} {base:Nat} {v:Value} {L:List α} (h:OwnL rd T sz w base v L) {p:Addr} (hp:p.block<base) (u:Value):OwnL rd T sz (w.setCell p u) base v L :=
 h.keep ok (b:=p.block) (u1a (u0q _ _) (.inl rfl) _) hp
theorem ownL_drew {α:Type} {rd:Rd α} (ok:rd.Ok) {T sz:Nat} {w:World} {base:Nat} {v:Value} {L:List α} (h:OwnL rd T sz w base v L) (hb:0<base):OwnL rd T sz w.drew base v L :=
 h.keep ok (b:=0) (u8t (u0q _ _)) hb
theorem rnamed {E:Rv} (hE:E.Ok) (x:List UInt8) (w:World) (i:Nat) (b:Bool) (hL:∀ j,i<j→RxC E j false) (hp0:Rp E w i b) :
  Calls Tryz.prog 182 #[.pointer (some ⟨E.b,0,none⟩),.string (bs x)] w (Ro E w (at0 E i b (PE (.named x))) (RxV w.heap.size)):=by
 have HL:=hid (rx_any hE hL)
 have hsz:=hp0.sz
 have hlt:=hE.lt
 have hi:=hp0.hi
 have hlen:=hE.len
 have HP:=hid hp0
 clear hL hp0
 go_enter Tryz.func182,Tryz.ntmps182
 go_wp2_with fail
 refine (reat hE _ i b (HP.out.keep hE tBEL) [91]).mono ?_
 rintro e w1 ⟨hg1,⟨hh,rfl,hp1⟩ | ⟨hh,rfl,hp1⟩⟩
 all_goals (have HH1:=hid hh; clear hh; have hz1:=hg1.size; (try simp only [u0e,u0h,u0m] at hz1); have hl:=u0a (q:=w.heap.size) hg1 tLOC tSZ; obtain ⟨_,_,_,l1⟩:=hl)
 ·obtain ⟨rfl,h1,hil⟩:=u2n HH1.out
  obtain ⟨n,hd⟩:=u6p hi h1
  have HR0:=hid (show PE (.named x) (E.ks.drop i)=(PE (.ex 1) (E.ks.drop (i+1))).bind fun e r2=>(u1k [93] r2).bind fun _ r3=>.ok (.mk 5 0 0 x [e]) r3 by rw [hd,named_idx]; exact u1v fun _ _ _=>u0x _ _ _)
  clear hd h1
  go_wp2_with fail
  refine (HL.out (i+1) false (fun _=>by omega) 1 _ (by decide) (by decide) (hp1.keep hE tBEL)).mono ?_
  rintro e w2 ⟨hg2,b2,j2,v2,a2,hR,hp2,rfl,⟨ak,ao,an,ax,aA,am,ac,rfl,ha2⟩⟩
  have HR2:=hid hR
  clear hR
  have hz2:=hg2.size
  obtain ⟨_,_,_,l2⟩:=u0a (q:=w.heap.size) hg2 l1 tSZ
  go_wp2_with fail
  refine (rneed hE _ j2 b2 (hp2.keep hE tBEL) [93]).mono ?_
  rintro e w3 ⟨hg3,b3,j3,v3,u3,hR,hp3,rfl,rfl⟩
  have HR3:=hid hR
  clear hR
  have hz3:=hg3.size
  (try simp only [u0e,u0h,u0m] at hz3)
  obtain ⟨_,_,_,l3⟩:=u0a (q:=w.heap.size) hg3 tLOC tSZ
  obtain ⟨_,_,_,m3⟩:=u0a (q:=w2.heap.size) hg3 tLOC tSZ
  go_wp2
  refine u3c rfl rfl rfl tRES ?_
  refine ⟨tGB,b3,j3,_,.mk 5 0 0 x [a2],?_,hp3.keep hE tBEL,rfl,u8p (sl_one (nb:=w3.heap.size) _ _ _ _ _ _ _ tLOC tSZ (u1s ha2 tKP tSZ tSZ))⟩
  have h2:=HR2.out
  rw [u0l] at h2
  rw [u0l,HR0.out,h2,u1i HR3.out]
  exact u3j fun _=>Ex.mk 5 0 0 x [a2]
 ·go_wp2_with fail
  refine (reat hE _ i b (hp1.keep hE tBEL) [40]).mono ?_
  rintro e w2 ⟨hg2,⟨hh,rfl,hp2⟩ | ⟨hh,rfl,hp2⟩⟩
  all_goals (have HH2:=hid hh; clear hh; have hz2:=hg2.size; (try simp only [u0e,u0h,u0m] at hz2); have hl:=u0a (q:=w.heap.size) hg2 tLOC tSZ; obtain ⟨_,_,_,l2⟩:=hl)
  rotate_left 1
  ·go_wp2
   refine u3c rfl rfl rfl tRES ?_
   refine ⟨tGB,b,i,_,.mk 1 0 0 x [],?_,hp2.keep hE tBEL,rfl,u8p u5p⟩
   have h1:=HH1.out
   have h2:=HH2.out
   cases b
   ·exact named_plain (by simpa [hitB] using h1) (by simpa [hitB] using h2)
   ·rfl
  obtain ⟨rfl,h2,hil⟩:=u2n HH2.out
  obtain ⟨n,hd⟩:=u6p hi h2
  have HD:=hid hd
  clear hd h2
  go_wp2_with fail
  refine (reat hE _ (i+1) false (hp2.keep hE tBEL) [41]).mono ?_
  rintro e w3 ⟨hg3,⟨hh,rfl,hp3⟩ | ⟨hh,rfl,hp3⟩⟩
  all_goals (have HH3:=hid hh; clear hh; have hz3:=hg3.size; (try simp only [u0e,u0h,u0m] at hz3); have hl:=u0a (q:=w.heap.size) hg3 tLOC tSZ; obtain ⟨_,_,_,l3⟩:=hl; have hm:=u0a (q:=w2.heap.size) hg3 tLOC tSZ; obtain ⟨_,_,_,m3⟩:=hm)
  ·obtain ⟨_,h3,_⟩:=u2n HH3.out
   obtain ⟨n3,hd3⟩:=u6p (by omega) h3
   have HD3:=hid hd3
   clear hd3 h3
   go_wp2
   refine u3c rfl rfl rfl tRES ?_
   exact ⟨tGB,false,i+1+1,_,.mk 6 0 0 x [],by rw [u0l,HD.out,HD3.out]; exact named_call0,hp3.keep hE tBEL,rfl,u8p u5p⟩
  have HR0:=hid (show PE (.named x) (E.ks.drop i)=itemR x [] (E.ks.drop (i+1)) by
   rw [HD.out]; exact named_call (by have:=HH3.out; simpa [hitB] using this))
  have HP3:=hid hp3
  have HO3:=hid (show OwnL rdE 34 5 w3 (w2.heap.size+1) (.slice none 0 0) ([]:List Ex) from OwnL.nil _ _)
  have HGA:=hid (show w.grownBy w3 (some E.b) from tGB)
  clear hp3 hg3 hg2 hg1 hp2 hp1 l1 l2
  have MQ:=hid m3
  have LQ:=hid l3
  go_wp2_with fail
  go_region_law (first | (refine u9u u6q rfl (.tmp 28) (.tmp 31) 32 rfl _ 64 info34 Tryz.underlying32 rfl (by decide) (by decide) (w2.heap.size+1) (.slice none 0 0) ([]:List Ex) (by simp [Act.eval,Act.put]) (OwnL.nil _ _) x5.heap.size (by simp [Act.eval,Act.put]) #[.int .i64 ak,.int .i64 ao,.int .i32 an,.string (bs ax),.slice aA am ac] (0,0) (u0c _ _) rfl (by intro u hu; simp at hu; rcases hu with rfl | rfl | rfl | rfl | rfl <;> rfl) a5 w3.heap.size (u1s ha5 tKP tSZD tSZD) (by omega) (fun g hg=>by cases hg) (by first | simp | omega) tSZD ?_; intro g' cap w7 hown7 hg7 hb7 hlt7; obtain ⟨_,_,_,m7⟩:=loc_ownr (q:=w2.heap.size) hg7 (u0g (by omega) m5) (by intro g hg; cases hg); obtain ⟨_,_,_,l7⟩:=loc_ownr (q:=w.heap.size) hg7 (u0g (by omega) l5) (by intro g hg; cases hg)) | (go_simp; go_at_call 49; refine (HL.out (i+1) false (fun _=>by omega) 1 _ (by decide) (by decide) (HP3.out.keep hE tBEL)).mono ?_; rintro e x5 ⟨hg5,b5,j5,v5,a5,hR,hp5,rfl,⟨ak,ao,an,ax,aA,am,ac,rfl,ha5⟩⟩; have HR5:=hid hR; clear hR; have hz5:=hg5.size; simp only [u0m] at hz5; obtain ⟨_,_,_,m5⟩:=u0a (q:=w2.heap.size) hg5 (u2d MQ.out) (by omega); obtain ⟨_,_,_,l5⟩:=u0a (q:=w.heap.size) hg5 (u2d LQ.out) (by omega)))
  all_goals
   have G5:w.grownBy w7 (some E.b):=by
    have hg:=HGA.out
    refine u7p (a:=w) (W:=x5.alloc _) (u0o (u0b (u8t hg) hg5) _) hg7 (by intro g hg; cases hg)
   have P7:Rp E w7 j5 b5:=(hp5.keep hE (show Below E.base x5 (x5.alloc _) from tBEL)).grown hE hg7 (by intro g hg; cases hg)
   generalize hV:World.setCell _ ⟨w2.heap.size,4,none⟩ _=V
   have gV:w.grownBy V (some E.b):=by rw [← hV]; exact u1a G5 (.inr (show w.heap.size≤w2.heap.size by omega)) _
   have pV:Rp E V j5 b5:=by rw [← hV]; exact P7.keep hE tBEL
   have zV:V.heap[w.heap.size]? = some (.cells #[.int .i64 0,.int .i64 0,.int .i32 0,.string ⟨#[]⟩,.slice none 0 0] 34 (0,0)):=by rw [← hV]; exact u5n (by show w.heap.size≠w2.heap.size; omega) l7
   have cV:V.heap[w2.heap.size]? = some (.cells #[.int .i64 6,.int .i64 0,.int .i32 0,.string (bs x),.slice (some ⟨g',0,none⟩) (([]:List Ex).length+1) cap] 34 (0,0)):=by rw [← hV]; exact put_4 _ m7
   have oV:OwnL rdE 34 5 V (w2.heap.size+1) (.slice (some ⟨g',0,none⟩) (([]:List Ex).length+1) cap) (([]:List Ex)++[a5]):=by rw [← hV]; exact ownL_set u6q hown7 (show w2.heap.size<w2.heap.size+1 by omega) _
   have hj5:=fun hb:b5=false=>at0_ex hp5.hi HR5.out hb
   have hjl:=hp5.hi
   have MM:PE (.named x) (E.ks.drop i)=(mkR b5 (([]:List Ex)++[a5]) (E.ks.drop j5)).bind (fun ks r=>PE (.args x ks) r):=by
    rw [HR0.out]; exact itemR_mk HR5.out
   have HRELS:=hid (show RnRel E w x i w2.heap.size V from ⟨j5,b5,_,_,_,_,fun hb=>by have:=hj5 hb; omega,by simp,fun hb=>by have:=hj5 hb; simp; omega,gV,pV,MM,zV,cV,oV⟩)
   clear hV gV pV zV cV oV MM hj5 G5 P7 hown7 hg7 l7 m7 hg5 hp5 HR5 m5 l5 hb7 hlt7 MQ LQ m3 l3 HP3 HO3
   go_wp2_with fail
   go_loopw [34] (fun _ wr=>RnRel E w x i w2.heap.size wr) (fun _ wr=>muR E wr)
   case atStart=>exact HRELS.out
   case round =>
    clear HRELS
    obtain ⟨j,b,kids,A,m,c,hij,hkl,hkj,hgr,hp,hTL,hq0,hq6,hown⟩:=hrel
    have HT:=hid hTL
    have HOW:=hid hown
    have hz0:=hgr.size
    have hs6:w2.heap.size<wr.heap.size:=(Array.getElem?_eq_some_iff.1 hq6).1
    have HPR:=hid hp
    obtain ⟨c0,c1,c2,f1,f2⟩:=hp.c
    have HGR:=hid hgr
    clear hTL hown hp c0 c1 f1 f2
    cases b
    ·have hij':=hij rfl
     have hkj':=hkj rfl
     clear hij hkj
     go_wp2_with fail
     refine (reat hE _ j false HPR.out [44]).mono ?_
     rintro e y1 ⟨hg1y,⟨hh,rfl,hpy⟩ | ⟨hh,rfl,hpy⟩⟩
     ·obtain ⟨_,h44,hjl⟩:=u2n hh
      obtain ⟨n44,hd44⟩:=u6p (by omega) h44
      have HR44:=hid (show PE (.named x) (E.ks.drop i)=itemR x kids (E.ks.drop (j+1)) by rw [HT.out,u1p,u0z,hd44,args_more])
      have hzy:=hg1y.size
      obtain ⟨_,_,_,l3⟩:=u0a (q:=w.heap.size) hg1y hq0 (by omega)
      obtain ⟨_,_,_,m3⟩:=u0a (q:=w2.heap.size) hg1y hq6 (by omega)
      have MQ:=hid m3
      have LQ:=hid l3
      have HPY:=hid hpy
      have HGY:=hid (u0b hgr hg1y)
      have HOY:=hid (HOW.out.keep u6q hg1y (by omega))
      clear hh h44 hd44 hgr hpy
      go_wp2_with fail
      go_region_law (first | (refine u9u u6q rfl (.tmp 44) (.tmp 47) 32 rfl _ 64 info34 Tryz.underlying32 rfl (by decide) (by decide) (w2.heap.size+1) (.slice A m c) kids (by simp [Act.eval,Act.put]) ((ownL_drew u6q HOY.out (by omega)).keep u6q hg5 (by omega) |>.alloc u6q (by omega) _) x5.heap.size (by simp [Act.eval,Act.put]) #[.int .i64 ak,.int .i64 ao,.int .i32 an,.string (bs ax),.slice aA am ac] (0,0) (u0c _ _) rfl (by intro u hu; simp at hu; rcases hu with rfl | rfl | rfl | rfl | rfl <;> rfl) a5 y1.heap.size (u1s ha5 tKP tSZD tSZD) (by omega) (fun g hg=>by have:=(HOY.out.lt g hg).2; omega) (by first | simp | omega) tSZD ?_; intro g' cap w7 hown7 hg7 hb7 hlt7; obtain ⟨_,_,_,m7⟩:=loc_ownr (q:=w2.heap.size) hg7 (u0g (by omega) m5) (by intro g hg; have:=(HOY.out.lt g hg).1; omega); obtain ⟨_,_,_,l7⟩:=loc_ownr (q:=w.heap.size) hg7 (u0g (by omega) l5) (by intro g hg; have:=(HOY.out.lt g hg).1; omega)) | (go_simp; go_at_call 49; refine (HL.out (j+1) false (fun _=>by omega) 1 _ (by decide) (by decide) (HPY.out.keep hE tBEL)).mono ?_; rintro e x5 ⟨hg5,b5,j5,v5,a5,hR,hp5,rfl,⟨ak,ao,an,ax,aA,am,ac,rfl,ha5⟩⟩; have HR5:=hid hR; clear hR; have hz5:=hg5.size; simp only [u0m] at hz5; obtain ⟨_,_,_,m5⟩:=u0a (q:=w2.heap.size) hg5 (u2d MQ.out) (by omega); obtain ⟨_,_,_,l5⟩:=u0a (q:=w.heap.size) hg5 (u2d LQ.out) (by omega)))
      all_goals
       have G5:w.grownBy w7 (some E.b):=by
        have hg:=HGY.out
        refine u7p (a:=w) (W:=x5.alloc _) (u0o (u0b (u8t hg) hg5) _) hg7 (by intro g hg; have:=(HOY.out.lt g hg).1; omega)
       have P7:Rp E w7 j5 b5:=(hp5.keep hE (show Below E.base x5 (x5.alloc _) from tBEL)).grown hE hg7 (by intro g hg; have:=(HOY.out.lt g hg).1; omega)
       generalize hV:World.setCell _ ⟨w2.heap.size,4,none⟩ _=V
       have gV:w.grownBy V (some E.b):=by rw [← hV]; exact u1a G5 (.inr (show w.heap.size≤w2.heap.size by omega)) _
       have pV:Rp E V j5 b5:=by rw [← hV]; exact P7.keep hE tBEL
       have zV:V.heap[w.heap.size]? = some (.cells #[.int .i64 0,.int .i64 0,.int .i32 0,.string ⟨#[]⟩,.slice none 0 0] 34 (0,0)):=by rw [← hV]; exact u5n (by show w.heap.size≠w2.heap.size; omega) l7
       have cV:V.heap[w2.heap.size]? = some (.cells #[.int .i64 6,.int .i64 0,.int .i32 0,.string (bs x),.slice (some ⟨g',0,none⟩) (kids.length+1) cap] 34 (0,0)):=by rw [← hV]; exact put_4 _ m7
       have oV:OwnL rdE 34 5 V (w2.heap.size+1) (.slice (some ⟨g',0,none⟩) (kids.length+1) cap) (kids++[a5]):=by rw [← hV]; exact ownL_set u6q hown7 (show w2.heap.size<w2.heap.size+1 by omega) _
       have hj5:=fun hb:b5=false=>at0_ex hp5.hi HR5.out hb
       have hjl:=hp5.hi
       have MM:PE (.named x) (E.ks.drop i)=(mkR b5 (kids++[a5]) (E.ks.drop j5)).bind (fun ks r=>PE (.args x ks) r):=by
        rw [HR44.out]; exact itemR_mk HR5.out
       have HRELS:=hid (show RnRel E w x i w2.heap.size V from ⟨j5,b5,_,_,_,_,fun hb=>by have:=hj5 hb; omega,by simp; omega,fun hb=>by have:=hj5 hb; simp; omega,gV,pV,MM,zV,cV,oV⟩)
       have HMU:muR E V<muR E wr:=by
        rw [HPR.out.mu,pV.mu]
        have:=HPR.out.hi
        cases b5
        ·have:=hj5 rfl
         simp; omega
        ·simp; omega
       clear hV gV pV zV cV oV MM hj5 G5 P7 hown7 hg7 l7 m7 hg5 hp5 HR5 m5 l5 hb7 hlt7
       go_wp2
       go_roundw
       case rel=>exact HRELS.out
       case measure=>exact HMU
     ·have hN:hit [44] (E.ks.drop j)=false:=by simpa [hitB] using hh
      have HN44:=hid hN
      have hzy:=hg1y.size
      obtain ⟨_,_,_,l3⟩:=u0a (q:=w.heap.size) hg1y hq0 (by omega)
      obtain ⟨_,_,_,m3⟩:=u0a (q:=w2.heap.size) hg1y hq6 (by omega)
      have HGY:=hid (u0b hgr hg1y)
      have HOY:=hid (HOW.out.keep u6q hg1y (by omega))
      clear hh hN hgr
      go_wp2_with fail
      refine (rneed hE _ j false hpy [41]).mono ?_
      rintro e y2 ⟨hg2y,b3,j3,v3,u3,hR,hp3,rfl,rfl⟩
      have HR3:=hid hR
      obtain ⟨_,_,_,l4⟩:=u0a (q:=w.heap.size) hg2y l3 (by omega)
      obtain ⟨_,_,_,m4⟩:=u0a (q:=w2.heap.size) hg2y m3 (by omega)
      have HG4:=hid (u0b HGY.out hg2y)
      have HO4:=hid (HOY.out.keep u6q hg2y (by omega))
      have hz2y:=hg2y.size
      clear hR hg2y
      go_wp2
      refine u3c rfl rfl rfl tRES ?_
      refine ⟨?_,b3,j3,_,.mk 6 0 0 x kids,?_,hp3.keep hE tBEL,rfl,u8p ?_⟩
      ·have hg:=HG4.out
       exact tGB
      ·rw [u0l,HT.out,call_need (.inr HN44.out),u1i HR3.out]
       exact u3j fun _=>Ex.mk 6 0 0 x kids
      ·exact HO4.out.slE.keeps (fun p u hp hu=>(show Kp (w2.heap.size+1) y2 _ from tKP) p u hp.1 hu) (fun g hg=>⟨by have:=hg.1; omega,by have:=hg.2; exact tSZ⟩)
    ·go_wp2_with fail
     refine (rneed hE _ j true HPR.out [41]).mono ?_
     rintro e y2 ⟨hg2y,b3,j3,v3,u3,hR,hp3,rfl,rfl⟩
     have HR3:=hid hR
     obtain ⟨_,_,_,l4⟩:=u0a (q:=w.heap.size) hg2y hq0 (by omega)
     obtain ⟨_,_,_,m4⟩:=u0a (q:=w2.heap.size) hg2y hq6 (by omega)
     have HG4:=hid (u0b HGR.out hg2y)
     have HO4:=hid (HOW.out.keep u6q hg2y (by omega))
     have hz2y:=hg2y.size
     clear hR hg2y
     go_wp2
     refine u3c rfl rfl rfl tRES ?_
     refine ⟨?_,b3,j3,_,.mk 6 0 0 x kids,?_,hp3.keep hE tBEL,rfl,u8p ?_⟩
     ·have hg:=HG4.out
      exact tGB
     ·rw [u0l,HT.out,call_need (.inl rfl),u1i HR3.out]
      exact u3j fun _=>Ex.mk 6 0 0 x kids
     ·exact HO4.out.slE.keeps (fun p u hp hu=>(show Kp (w2.heap.size+1) y2 _ from tKP) p u hp.1 hu) (fun g hg=>⟨by have:=hg.1; omega,by have:=hg.2; exact tSZ⟩)
end Go.Proofs.YtbkhnilbgocpnaaGreatDoor.SynC
