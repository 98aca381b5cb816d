import Derived.Test.YtbkhnilbgocpnaaGreatDoorK0
import Derived.Test.YtbkhnilbgocpnaaGreatDoorK23
set_option linter.unusedVariables false
set_option linter.unusedSimpArgs false
set_option maxRecDepth 100000
set_option maxHeartbeats 2000000
open Go.Lib (hid)
namespace Go.Proofs.YtbkhnilbgocpnaaGreatDoor.SynC
open Go.Proofs.YtbkhnilbgocpnaaGreatDoor.LexC
open Go Go.ChangeShapes Go.WideShapes Go.ChangeAt Go.RowKit Go.Deep
def SmSs (l:List St):Prop:=∀ (w:World) (A:Option Addr) (m c:Nat) (B:Option Addr) (mb cb:Nat),SlS w (fun g=>g<w.heap.size) (.slice A m c) l→SlS w (fun g=>g<w.heap.size) (.slice B mb cb) l→rgSs l→l.length≤1125899906842624 →
 Calls Tryz.prog 87 #[.slice A m c,.slice B mb cb] w fun e w'=>e=.returned (.bool true)∧Below w.heap.size w w'
def SmS:St→Prop
 | .mk _ _ _ _ body els=>SmSs body∧SmSs els
theorem u3w {w w':World} {v:Value} {l:List St} (h:SlS w (fun g=>g<w.heap.size) v l) (k:Below w.heap.size w w'):SlS w' (fun g=>g<w'.heap.size) v l:=h.keeps (u0z k fun _ hb=>hb) (fun _ hb=>Nat.lt_of_lt_of_le hb k.size)
theorem same_es (l:List Ex):SmEs l:=same_exprs l fun a _=>sm_all a
theorem same_stmts (l:List St) (hl:∀ a∈l,SmS a):SmSs l:=by
 intro w A m c B mb cb hA hB hg hll
 have hm1:=u7g hA
 have hm2:=u7g hB
 subst hm1
 subst hm2
 have HA:=hid hA
 have HB:=hid hB
 have HG:=hid hg
 have HL:=hid hl
 clear hA hB hg hl
 go_enter Tryz.func87,Tryz.ntmps87
 go_wp2_with fail
 go_loopw [5] (fun i wr=>∃ (k:Nat),k≤l.length∧i=.int .i64 k∧Below w.heap.size w wr) (fun i _=>l.length - (intOf i).toNat)
 case atStart=>exact ⟨0,Nat.zero_le _,rfl,Below.refl _ _⟩
 case round =>
  obtain ⟨k,hk,rfl,hbr⟩:=hrel
  have HBR:=hid hbr
  by_cases hlt:k<l.length
  ·obtain ⟨a,ha⟩:∃ a,l[k]? = some a:=⟨l[k],List.getElem?_eq_getElem hlt⟩
   obtain ⟨g,o,rfl,_,hPg,hrows⟩:=stmts_at (u3w HA.out hbr) (by omega)
   obtain ⟨g2,o2,rfl,_,hPg2,hrows2⟩:=stmts_at (u3w HB.out hbr) (by omega)
   have hmem:=List.mem_of_getElem? ha
   have hsa:=HL.out a hmem
   have hga:=rgSs_at HG.out a hmem
   obtain ⟨kind,op,name,exprs,body,els⟩:=a
   obtain ⟨sk,so,x,xA,xm,xc,xB,xmb,xcb,xC,xmc,xcc,⟨c0,c1,c2,c3,c4,c5⟩,hrx⟩:=hrows k _ ha
   obtain ⟨tk',to',y,yA,ym,yc,yB,ymb,ycb,yC,ymc,ycc,⟨d0,d1,d2,d3,d4,d5⟩,hry⟩:=hrows2 k _ ha
   rw [RS_eq] at hrx hry
   obtain ⟨E,F,G,hc,hE,hF,hG⟩:=hrx
   cases hc
   obtain ⟨E2,F2,G2,hc2,hE2,hF2,hG2⟩:=hry
   cases hc2
   have hin:(0:Int)≤k∧(k:Int)<l.length:=⟨by omega,by omega⟩
   obtain ⟨hs1,hs2⟩:=hsa
   rw [rgS] at hga
   have e1:((kind:Int) != kind)=false:=by simp
   have e2:((op:Int) != op)=false:=by simp
   have e4:((bs name).toList != (bs name).toList)=false:=by simp
   have HE:=hid hE
   have HE2:=hid hE2
   have HF:=hid hF
   have HF2:=hid hF2
   have HGG:=hid hG
   have HG2:=hid hG2
   have HS1:=hid hs1
   have HS2:=hid hs2
   have HGA:=hid hga
   clear hrows hrows2 ha hbr hE hE2 hF hF2 hG hG2 hs1 hs2 hga hmem
   go_wp2_with fail
   go_region
   ·have hba:Below wr.heap.size wr (((wr.alloc (.cells #[.int .i64 kind,.int .i64 op,.string (bs name),.slice xA xm xc,.slice xB xmb xcb,.slice xC xmc xcc] 136)).alloc (.cells #[.int .i64 kind,.int .i64 op,.string (bs name),.slice yA ym yc,.slice yB ymb ycb,.slice yC ymc ycc] 136)).drew):=(((Below.refl _ _).alloc tSZ _).alloc tSZ _).drew
    go_wp2_with fail
    refine (same_es _ _ _ _ _ _ _ _ (sl_bel HE.out hba) (sl_bel HE2.out hba) HGA.out.2.1.2 HGA.out.2.1.1).mono ?_
    rintro e w1 ⟨rfl,hb1⟩
    obtain ⟨_,_,_,l1⟩:=u0a (q:=wr.heap.size) (u0f hb1 (some (wr.heap.size+10))) (u6c (u0e (by simp) (u1d _ _))) (by omega)
    obtain ⟨_,_,_,l2⟩:=u0a (q:=wr.heap.size+1) (u0f hb1 (some (wr.heap.size+10))) (u6c (u0h (by simp))) (by omega)
    have hw1:=seq hba hb1
    go_wp2_with fail
    refine (HS1.out _ _ _ _ _ _ _ (u3w HF.out hw1) (u3w HF2.out hw1) HGA.out.2.2.1.2 HGA.out.2.2.1.1).mono ?_
    rintro e w2 ⟨rfl,hb2⟩
    obtain ⟨_,_,_,l3⟩:=u0a (q:=wr.heap.size) (u0f hb2 (some (wr.heap.size+10))) l1 (by omega)
    obtain ⟨_,_,_,l4⟩:=u0a (q:=wr.heap.size+1) (u0f hb2 (some (wr.heap.size+10))) l2 (by omega)
    have hw2:=seq hw1 hb2
    go_wp2_with fail
    refine (HS2.out _ _ _ _ _ _ _ (u3w HGG.out hw2) (u3w HG2.out hw2) HGA.out.2.2.2.2 HGA.out.2.2.2.1).mono ?_
    rintro e w3 ⟨rfl,hb3⟩
    have hw3:=hid (seq hw2 hb3)
    clear hb1 hb2 hb3
    go_wp2
    go_roundw
    case rel=>exact ⟨k+1,by omega,by go_num,HBR.out.trans (hw3.out.mono HBR.out.size)⟩
    case measure=>simp [intOf]; omega
   ·have hba:Below wr.heap.size wr (((wr.alloc (.cells #[.int .i64 kind,.int .i64 op,.string (bs name),.slice yA ym yc,.slice yB ymb ycb,.slice yC ymc ycc] 136)).alloc (.cells #[.int .i64 kind,.int .i64 op,.string (bs name),.slice xA xm xc,.slice xB xmb xcb,.slice xC xmc xcc] 136)).drew):=(((Below.refl _ _).alloc tSZ _).alloc tSZ _).drew
    go_wp2_with fail
    refine (same_es _ _ _ _ _ _ _ _ (sl_bel HE.out hba) (sl_bel HE2.out hba) HGA.out.2.1.2 HGA.out.2.1.1).mono ?_
    rintro e w1 ⟨rfl,hb1⟩
    obtain ⟨_,_,_,l1⟩:=u0a (q:=wr.heap.size) (u0f hb1 (some (wr.heap.size+10))) (u6c (u0e (by simp) (u1d _ _))) (by omega)
    obtain ⟨_,_,_,l2⟩:=u0a (q:=wr.heap.size+1) (u0f hb1 (some (wr.heap.size+10))) (u6c (u0h (by simp))) (by omega)
    have hw1:=seq hba hb1
    go_wp2_with fail
    refine (HS1.out _ _ _ _ _ _ _ (u3w HF.out hw1) (u3w HF2.out hw1) HGA.out.2.2.1.2 HGA.out.2.2.1.1).mono ?_
    rintro e w2 ⟨rfl,hb2⟩
    obtain ⟨_,_,_,l3⟩:=u0a (q:=wr.heap.size) (u0f hb2 (some (wr.heap.size+10))) l1 (by omega)
    obtain ⟨_,_,_,l4⟩:=u0a (q:=wr.heap.size+1) (u0f hb2 (some (wr.heap.size+10))) l2 (by omega)
    have hw2:=seq hw1 hb2
    go_wp2_with fail
    refine (HS2.out _ _ _ _ _ _ _ (u3w HGG.out hw2) (u3w HG2.out hw2) HGA.out.2.2.2.2 HGA.out.2.2.2.1).mono ?_
    rintro e w3 ⟨rfl,hb3⟩
    have hw3:=hid (seq hw2 hb3)
    clear hb1 hb2 hb3
    go_wp2
    go_roundw
    case rel=>exact ⟨k+1,by omega,by go_num,HBR.out.trans (hw3.out.mono HBR.out.size)⟩
    case measure=>simp [intOf]; omega
  ·go_wp2
   go_ret
   exact ⟨rfl,HBR.out⟩
mutual
theorem smS_all:(s:St)→SmS s
 | .mk _ _ _ _ body els=>⟨same_stmts body (smSs_all body),same_stmts els (smSs_all els)⟩
theorem smSs_all:(l:List St)→∀ a∈l,SmS a
 | [],_,h=>by cases h
 | e :: r,a,h=>by
  rcases List.mem_cons.1 h with h1 | h1
  ·rw [h1]; exact smS_all e
  ·exact smSs_all r a h1
end
theorem same_ss (l:List St):SmSs l:=same_stmts l fun a ha=>smSs_all l a ha
theorem sr_bel {α:Type} {rd:Rd α} {sz:Nat} (ok:rd.Ok) {w w':World} {v:Value} {l:List α} (h:SlR rd sz (fun g=>g<w.heap.size) w v l) (k:Below w.heap.size w w'):SlR rd sz (fun g=>g<w'.heap.size) w' v l:=h.keeps ok (u0z k fun _ hb=>hb) (fun _ hb=>Nat.lt_of_lt_of_le hb k.size)
theorem same_func (f:Fn) (w:World) (fA:Option Addr) (fm fc:Nat) (fB:Option Addr) (fm' fc':Nat) (gA:Option Addr) (gm gc:Nat) (gB:Option Addr) (gm' gc':Nat)
  (hp:SlR rdN 1 (fun g=>g<w.heap.size) w (.slice fA fm fc) f.params) (hb:SlS w (fun g=>g<w.heap.size) (.slice fB fm' fc') f.body) (hp2:SlR rdN 1 (fun g=>g<w.heap.size) w (.slice gA gm gc) f.params) (hb2:SlS w (fun g=>g<w.heap.size) (.slice gB gm' gc') f.body) (hg:rgF f) :
  Calls Tryz.prog 44 #[.agg #[.string (bs f.name),.slice fA fm fc,.slice fB fm' fc'],.agg #[.string (bs f.name),.slice gA gm gc,.slice gB gm' gc']] w fun e w'=>e=.returned (.bool true)∧Below w.heap.size w w':=by
 have HP:=hid hp
 have HB:=hid hb
 have HP2:=hid hp2
 have HB2:=hid hb2
 have HG:=hid hg
 have e4:((bs f.name).toList == (bs f.name).toList)=true:=by simp
 clear hp hb hp2 hb2 hg
 go_enter Tryz.func44,Tryz.ntmps44
 go_wp2_with fail
 have hba:Below w.heap.size w ((w.alloc (.cells #[.string (bs f.name),.slice fA fm fc,.slice fB fm' fc'] 71)).alloc (.cells #[.string (bs f.name),.slice gA gm gc,.slice gB gm' gc'] 71)):=((Below.refl _ _).alloc tSZ _).alloc tSZ _
 refine (same_texts _ _ _ _ _ _ _ _ (sr_bel u4a HP.out hba) (sr_bel u4a HP2.out hba) HG.out.2.2.1).mono ?_
 rintro e w1 ⟨rfl,hb1⟩
 obtain ⟨_,_,_,l1⟩:=u0a (q:=w.heap.size) (u0f hb1 (some (w.heap.size+10))) (u0e (by simp) (u1d _ _)) (by omega)
 obtain ⟨_,_,_,l2⟩:=u0a (q:=w.heap.size+1) (u0f hb1 (some (w.heap.size+10))) (u0h (by simp)) (by omega)
 have hw1:=seq hba hb1
 go_wp2_with fail
 refine (same_ss f.body _ _ _ _ _ _ _ (u3w HB.out hw1) (u3w HB2.out hw1) HG.out.2.2.2.2 HG.out.2.2.2.1).mono ?_
 rintro e w2 ⟨rfl,hb2⟩
 have hw2:=hid (seq hw1 hb2)
 clear hb1 hb2
 go_wp2
 go_ret
 exact ⟨rfl,hw2.out⟩
theorem same_kernel (f:Kr) (w:World) (fA:Option Addr) (fm fc:Nat) (fB:Option Addr) (fm' fc':Nat) (fC:Option Addr) (fm'' fc'':Nat) (gA:Option Addr) (gm gc:Nat) (gB:Option Addr) (gm' gc':Nat) (gC:Option Addr) (gm'' gc'':Nat)
  (hp:SlR rdP 2 (fun g=>g<w.heap.size) w (.slice fA fm fc) f.params) (hd:SlR rdA 2 (fun g=>g<w.heap.size) w (.slice fB fm' fc') f.shared) (hb:SlS w (fun g=>g<w.heap.size) (.slice fC fm'' fc'') f.body)
  (hp2:SlR rdP 2 (fun g=>g<w.heap.size) w (.slice gA gm gc) f.params) (hd2:SlR rdA 2 (fun g=>g<w.heap.size) w (.slice gB gm' gc') f.shared) (hb2:SlS w (fun g=>g<w.heap.size) (.slice gC gm'' gc'') f.body) (hg:rgK f) :
  Calls Tryz.prog 45 #[.agg #[.string (bs f.name),.slice fA fm fc,.slice fB fm' fc',.slice fC fm'' fc''],.agg #[.string (bs f.name),.slice gA gm gc,.slice gB gm' gc',.slice gC gm'' gc'']] w fun e w'=>e=.returned (.bool true)∧Below w.heap.size w w':=by
 have HP:=hid hp
 have HD:=hid hd
 have HB:=hid hb
 have HP2:=hid hp2
 have HD2:=hid hd2
 have HB2:=hid hb2
 have HG:=hid hg
 have e4:((bs f.name).toList == (bs f.name).toList)=true:=by simp
 clear hp hb hp2 hb2 hg hd hd2
 go_enter Tryz.func45,Tryz.ntmps45
 go_wp2_with fail
 have hba:Below w.heap.size w ((w.alloc (.cells #[.string (bs f.name),.slice fA fm fc,.slice fB fm' fc',.slice fC fm'' fc''] 75)).alloc (.cells #[.string (bs f.name),.slice gA gm gc,.slice gB gm' gc',.slice gC gm'' gc''] 75)):=((Below.refl _ _).alloc tSZ _).alloc tSZ _
 refine (same_params _ _ _ _ _ _ _ _ (sr_bel u3d HP.out hba) (sr_bel u3d HP2.out hba) HG.out.2.2.1).mono ?_
 rintro e w1 ⟨rfl,hb1⟩
 obtain ⟨_,_,_,l1⟩:=u0a (q:=w.heap.size) (u0f hb1 (some (w.heap.size+10))) (u0e (by simp) (u1d _ _)) (by omega)
 obtain ⟨_,_,_,l2⟩:=u0a (q:=w.heap.size+1) (u0f hb1 (some (w.heap.size+10))) (u0h (by simp)) (by omega)
 have hw1:=seq hba hb1
 go_wp2_with fail
 refine (same_arrays _ _ _ _ _ _ _ _ (sr_bel u4g HD.out hw1) (sr_bel u4g HD2.out hw1) HG.out.2.2.2.2.1).mono ?_
 rintro e w2 ⟨rfl,hb2⟩
 obtain ⟨_,_,_,l3⟩:=u0a (q:=w.heap.size) (u0f hb2 (some (w.heap.size+10))) l1 (by omega)
 obtain ⟨_,_,_,l4⟩:=u0a (q:=w.heap.size+1) (u0f hb2 (some (w.heap.size+10))) l2 (by omega)
 have hw2:=seq hw1 hb2
 go_wp2_with fail
 refine (same_ss f.body _ _ _ _ _ _ _ (u3w HB.out hw2) (u3w HB2.out hw2) HG.out.2.2.2.2.2.2 HG.out.2.2.2.2.2.1).mono ?_
 rintro e w3 ⟨rfl,hb3⟩
 have hw3:=hid (seq hw2 hb3)
 clear hb1 hb2 hb3
 go_wp2
 go_ret
 exact ⟨rfl,hw3.out⟩
theorem same_17 (q:Pg) (w:World) (A:Option Addr) (m c:Nat) (B:Option Addr) (mb cb:Nat) (A2:Option Addr) (m2 c2:Nat) (B2:Option Addr) (mb2 cb2:Nat) (h1:PgIn w A m c B mb cb q) (h2:PgIn w A2 m2 c2 B2 mb2 cb2 q) :
  Calls Tryz.prog 17 #[.agg #[.slice A m c,.slice B mb cb],.agg #[.slice A2 m2 c2,.slice B2 mb2 cb2]] w fun e w'=>e=.returned (.bool true)∧Below w.heap.size w w':=by
 have hl:=h1.len
 have z1:=h1.f.len
 have z2:=h1.k.len
 have z3:=h2.f.len
 have z4:=h2.k.len
 subst z1
 subst z2
 subst z3
 subst z4
 have H1:=hid h1
 have H2:=hid h2
 clear h1 h2
 go_enter Tryz.func17,Tryz.ntmps17
 go_wp2_with fail
 go_loopw [5] (fun i wr=>∃ (k:Nat),k≤q.fns.length∧i=.int .i64 k∧Below (w.heap.size+2) ((w.alloc (.cells #[.slice A q.fns.length c,.slice B q.krs.length cb] 26)).alloc (.cells #[.slice A2 q.fns.length c2,.slice B2 q.krs.length cb2] 26)) wr) (fun i _=>q.fns.length - (intOf i).toNat)
 case atStart=>exact ⟨0,Nat.zero_le _,rfl,Below.refl _ _⟩
 case round =>
  obtain ⟨k,hk,rfl,hbr⟩:=hrel
  have hw:Below w.heap.size w wr:=(seq (u1e _ _) (u1e _ _)).trans (hbr.mono (by omega))
  have la:wr.heap[w.heap.size]? = some (.cells #[.slice A q.fns.length c,.slice B q.krs.length cb] 26 (0,0)):=(hbr.block _ (by omega)).trans (u0e (by simp) (u1d _ _))
  have lb:wr.heap[w.heap.size+1]? = some (.cells #[.slice A2 q.fns.length c2,.slice B2 q.krs.length cb2] 26 (0,0)):=(hbr.block _ (by omega)).trans (u0h (by simp))
  have xa0:=cell_of_row _ _ 0 _ _ _ la
  have xa1:=cell_of_row _ _ 1 _ _ _ la
  have xb0:=cell_of_row _ _ 0 _ _ _ lb
  have xb1:=cell_of_row _ _ 1 _ _ _ lb
  have HBR:=hid hbr
  have HW:=hid hw
  have hzr:=hbr.size
  simp only [u0c] at hzr
  by_cases hlt:k<q.fns.length
  ·obtain ⟨a,ha⟩:∃ a,q.fns[k]? = some a:=⟨q.fns[k],List.getElem?_eq_getElem hlt⟩
   obtain ⟨g,o,rfl,_,hPg,hrows⟩:=u2i (by decide) (fun P w cs a h=>⟨.string (bs a.name),by obtain ⟨_,_,_,_,_,_,h,_⟩:=h; subst h; rfl⟩) (H1.out.below hw).f (by omega)
   obtain ⟨g2,o2,rfl,_,hPg2,hrows2⟩:=u2i (by decide) (fun P w cs a h=>⟨.string (bs a.name),by obtain ⟨_,_,_,_,_,_,h,_⟩:=h; subst h; rfl⟩) (H2.out.below hw).f (by omega)
   obtain ⟨cs,hcs,fA,fm,fc,fB,fm',fc',rfl,hfp,hfb⟩:=hrows k a ha
   obtain ⟨cs2,hcs2,gA,gm,gc,gB,gm',gc',rfl,hgp,hgb⟩:=hrows2 k a ha
   have c0:=hcs 0 _ rfl
   have c1:=hcs 1 _ rfl
   have c2':=hcs 2 _ rfl
   have y0:=hcs2 0 _ rfl
   have y1:=hcs2 1 _ rfl
   have y2:=hcs2 2 _ rfl
   simp only [Nat.add_zero] at c0 y0
   have hin:(0:Int)≤k∧(k:Int)<q.fns.length:=⟨by omega,by omega⟩
   have hd:Below wr.heap.size wr wr.drew:=(Below.refl _ _).drew
   have HC:=hid (same_func a wr.drew fA fm fc fB fm' fc' gA gm gc gB gm' gc' (sr_bel u4a hfp hd) (u3w hfb hd) (sr_bel u4a hgp hd) (u3w hgb hd) (H1.out.gf a (List.mem_of_getElem? ha)))
   clear hrows hrows2 hcs hcs2 hfp hfb hgp hgb ha la lb hbr hw hd
   go_wp2_with fail
   go_still_tail 10,(by kernel_rfl)
   go_wp2_with fail
   refine HC.out.mono ?_
   rintro e w2 ⟨rfl,hb2⟩
   have HB2:=hid (HBR.out.trans (((Below.refl wr.heap.size wr).drew.trans hb2).mono hzr))
   clear hb2
   go_wp2
   go_roundw
   case rel=>exact ⟨k+1,by omega,by go_num,HB2.out⟩
   case measure=>simp [intOf]; omega
  ·clear la lb hbr hw
   go_wp2_with fail
   go_loopw [6] (fun i wr=>∃ (k:Nat),k≤q.krs.length∧i=.int .i64 k∧Below (w.heap.size+2) ((w.alloc (.cells #[.slice A q.fns.length c,.slice B q.krs.length cb] 26)).alloc (.cells #[.slice A2 q.fns.length c2,.slice B2 q.krs.length cb2] 26)) wr) (fun i _=>q.krs.length - (intOf i).toNat)
   case atStart=>exact ⟨0,Nat.zero_le _,rfl,HBR.out⟩
   case round =>
    clear HBR HW hzr xa0 xa1 xb0 xb1 hlt hk
    obtain ⟨k,hk,rfl,hbr⟩:=hrel
    have hw:Below w.heap.size w wr:=(seq (u1e _ _) (u1e _ _)).trans (hbr.mono (by omega))
    have la:wr.heap[w.heap.size]? = some (.cells #[.slice A q.fns.length c,.slice B q.krs.length cb] 26 (0,0)):=(hbr.block _ (by omega)).trans (u0e (by simp) (u1d _ _))
    have lb:wr.heap[w.heap.size+1]? = some (.cells #[.slice A2 q.fns.length c2,.slice B2 q.krs.length cb2] 26 (0,0)):=(hbr.block _ (by omega)).trans (u0h (by simp))
    have xa0:=cell_of_row _ _ 0 _ _ _ la
    have xa1:=cell_of_row _ _ 1 _ _ _ la
    have xb0:=cell_of_row _ _ 0 _ _ _ lb
    have xb1:=cell_of_row _ _ 1 _ _ _ lb
    have HBR:=hid hbr
    have HW:=hid hw
    have hzr:=hbr.size
    simp only [u0c] at hzr
    by_cases hlt:k<q.krs.length
    ·obtain ⟨a,ha⟩:∃ a,q.krs[k]? = some a:=⟨q.krs[k],List.getElem?_eq_getElem hlt⟩
     obtain ⟨g,o,rfl,_,hPg,hrows⟩:=u2i (by decide) (fun P w cs a h=>⟨.string (bs a.name),by obtain ⟨_,_,_,_,_,_,_,_,_,h,_⟩:=h; subst h; rfl⟩) (H1.out.below hw).k (by omega)
     obtain ⟨g2,o2,rfl,_,hPg2,hrows2⟩:=u2i (by decide) (fun P w cs a h=>⟨.string (bs a.name),by obtain ⟨_,_,_,_,_,_,_,_,_,h,_⟩:=h; subst h; rfl⟩) (H2.out.below hw).k (by omega)
     obtain ⟨cs,hcs,fA,fm,fc,fB,fm',fc',fC,fm'',fc'',rfl,hfp,hfd,hfb⟩:=hrows k a ha
     obtain ⟨cs2,hcs2,gA,gm,gc,gB,gm',gc',gC,gm'',gc'',rfl,hgp,hgd,hgb⟩:=hrows2 k a ha
     have c0:=hcs 0 _ rfl
     have c1:=hcs 1 _ rfl
     have c2':=hcs 2 _ rfl
     have c3:=hcs 3 _ rfl
     have y0:=hcs2 0 _ rfl
     have y1:=hcs2 1 _ rfl
     have y2:=hcs2 2 _ rfl
     have y3:=hcs2 3 _ rfl
     simp only [Nat.add_zero] at c0 y0
     have hin:(0:Int)≤k∧(k:Int)<q.krs.length:=⟨by omega,by omega⟩
     have hd:Below wr.heap.size wr wr.drew:=(Below.refl _ _).drew
     have HC:=hid (same_kernel a wr.drew fA fm fc fB fm' fc' fC fm'' fc'' gA gm gc gB gm' gc' gC gm'' gc'' (sr_bel u3d hfp hd) (sr_bel u4g hfd hd) (u3w hfb hd) (sr_bel u3d hgp hd) (sr_bel u4g hgd hd) (u3w hgb hd) (H1.out.gk a (List.mem_of_getElem? ha)))
     clear hrows hrows2 hcs hcs2 hfp hfb hgp hgb ha la lb hbr hw hd hfd hgd
     go_wp2_with fail
     go_still_tail 10,(by kernel_rfl)
     go_wp2_with fail
     refine HC.out.mono ?_
     rintro e w2 ⟨rfl,hb2⟩
     have HB2:=hid (HBR.out.trans (((Below.refl wr.heap.size wr).drew.trans hb2).mono hzr))
     clear hb2
     go_wp2
     go_roundw
     case rel=>exact ⟨k+1,by omega,by go_num,HB2.out⟩
     case measure=>simp [intOf]; omega
    ·clear la lb hbr hw
     go_wp2
     go_ret
     exact ⟨rfl,HW.out⟩
theorem keys_good {q:Pg} (h:fitP q=true):u2n (q.its.flatMap (tI dgL)):=goodKs_flat fun i hi=>good_I i (by rw [← nm_eq]; exact fitP_ok h i hi)
theorem valid_len {q:Pg} (h:u2s q=true):(writ q).length≤4000:=by
 unfold u2s at h
 rw [Bool.and_eq_true,decide_eq_true_eq] at h
 exact h.2
theorem textP_ok {q:Pg} (h:u2s q=true):u5j q=(writ q,0):=by unfold u5j; rw [h]; rfl
end Go.Proofs.YtbkhnilbgocpnaaGreatDoor.SynC
