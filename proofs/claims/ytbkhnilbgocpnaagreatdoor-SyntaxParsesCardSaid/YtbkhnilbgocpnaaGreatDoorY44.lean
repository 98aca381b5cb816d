import Derived.Deep.RegionHeld3
import Derived.Test.YtbkhnilbgocpnaaGreatDoorY29
import Derived.Test.YtbkhnilbgocpnaaGreatDoorY0
import Derived.Test.YtbkhnilbgocpnaaGreatDoorY43
import Derived.Test.YtbkhnilbgocpnaaGreatDoorY28
import Derived.Test.YtbkhnilbgocpnaaGreatDoorY54
set_option linter.unusedVariables false
set_option linter.unusedSimpArgs false
set_option maxRecDepth 100000
set_option maxHeartbeats 2000000
open Go.Lib (hid)
namespace Go.Proofs.YtbkhnilbgocpnaaGreatDoor.SynC
def Sml (m:Ms):Prop:=0≤m.parts∧m.parts≤100000000000∧(m.right=true→m.parts≤400)
mutual
theorem mE_400 (nm:List UInt8→Bool):(e:Ex)→∀ (m:Ms) (lv:Int),(mE nm m lv e).1.right=true→(mE nm m lv e).1.parts≤400
 | .mk kind op num name kids,m,lv,h=>by
  rw [mE] at h ⊢
  split at h
  ·cases h
  ·rename_i hc
   rw [if_neg hc]
   simp only [not_or,Bool.not_eq_false] at hc
   exact mEs_400 nm kids ⟨m.parts+1,m.depth,true⟩ _ _ (by show m.parts+1≤400; omega) h
theorem mEs_400 (nm:List UInt8→Bool):(l:List Ex)→∀ (m:Ms) (lv d:Int),m.parts≤400→(mEs nm m lv d l).1.right=true→(mEs nm m lv d l).1.parts≤400
 | [],m,lv,d,hp,h=>by rw [mEs] at h ⊢; exact hp
 | e :: r,m,lv,d,hp,h=>by
  rw [mEs] at h ⊢
  cases hr:(mE nm m lv e).1.right
  ·have:=mEs_false nm r (mE nm m lv e).1 lv (max d (mE nm m lv e).2) hr
   rw [this] at h; cases h
  ·exact mEs_400 nm r _ _ _ (mE_400 nm e m lv hr) h
end
theorem u8k {nm:List UInt8→Bool} {kind op:Int} {x:List UInt8} {n:Nat} {nb ne:Bool} (h:u0u nm kind op x n nb ne=true):n≤2:=by
 unfold u0u at h
 repeat' split at h
 all_goals first | (cases h; done) | (simp only [Bool.and_eq_true,beq_iff_eq,decide_eq_true_eq] at h; omega)
theorem sml_exprs {nm:List UInt8→Bool} {l:List Ex} {m:Ms} (h0:0≤m.parts) (hm:m.parts≤401) (hr:m.right=true→m.parts≤400) (hl:l.length≤2):Sml (mEs nm m 1 0 l).1:=by
 have h:=mEs_bd nm l m 1 0 12 2 rfl hl (Int.le_refl _)
 have hb:=bd_le 12 (by omega)
 refine ⟨by omega,by omega,fun h1=>?_⟩
 cases hmr:m.right
 ·have:=mEs_false nm l m 1 0 hmr
  rw [this] at h1; cases h1
 ·exact mEs_400 nm l m 1 0 (hr hmr) h1
theorem mSs_at {nm:List UInt8→Bool} {m:Ms} {lv out:Int} {s:St} {r:List St} (hr:m.right=true) (hb:badS nm m lv s=false) :
  mSs nm m lv out (s :: r)=mSs nm (mS nm m lv s).1 lv (max out (mS nm m lv s).2) r:=by
 rw [mSs,if_neg (by rw [hr]; simp),if_neg (by rw [hb]; simp)]
theorem mSs_bad {nm:List UInt8→Bool} {m:Ms} {lv out:Int} {s:St} {r:List St} (hr:m.right=true) (hb:badS nm m lv s=true) :
  mSs nm m lv out (s :: r)=(⟨m.parts+1,m.depth,false⟩,0):=by
 rw [mSs,if_neg (by rw [hr]; simp),if_pos hb]
theorem mSs_off {nm:List UInt8→Bool} {m:Ms} {lv out:Int} {l:List St} (hr:m.right=false):mSs nm m lv out l=(m,out):=by
 cases l with
 | nil=>rw [mSs]
 | cons s r=>rw [mSs,if_pos hr]
theorem not_bad {nm:List UInt8→Bool} {m:Ms} {lv kind op:Int} {name:List UInt8} {exprs:List Ex} {body els:List St} (h:badS nm m lv (.mk kind op name exprs body els)=false) :
  m.parts+1≤400∧lv≤12∧u0u nm kind op name exprs.length body.isEmpty els.isEmpty=true:=by
 simp only [badS,Bool.or_eq_false_iff,decide_eq_false_iff_not,Bool.not_eq_false'] at h
 exact ⟨by omega,by omega,h.2⟩
mutual
theorem mS_bd (nm:List UInt8→Bool):(s:St)→∀ (m:Ms) (lv:Int),Sml m→badS nm m lv s=false→Sml (mS nm m lv s).1∧1≤(mS nm m lv s).2∧(mS nm m lv s).2≤14 - lv
 | .mk kind op name exprs body els,m,lv,hs,hb=>by
  obtain ⟨h1,h2,h3⟩:=not_bad hb
  have h0:=hs.1
  rw [mS]
  simp only
  have e1:Sml (mEs nm ⟨m.parts+1,m.depth,true⟩ 1 0 exprs).1:=sml_exprs (by show 0≤m.parts+1; omega) (by show m.parts+1≤401; omega) (fun _=>h1) (u8k h3)
  obtain ⟨e2,e3,e4⟩:=mSs_bd nm body _ (lv+1) 0 e1 (by omega) (Int.le_refl _) (by omega)
  obtain ⟨e5,e6,e7⟩:=mSs_bd nm els _ (lv+1) 0 e2 (by omega) (Int.le_refl _) (by omega)
  exact ⟨e5,by omega,by omega⟩
theorem mSs_bd (nm:List UInt8→Bool):(l:List St)→∀ (m:Ms) (lv out:Int),Sml m→lv≤13→0≤out→out≤14 - lv→Sml (mSs nm m lv out l).1∧0≤(mSs nm m lv out l).2∧(mSs nm m lv out l).2≤14 - lv
 | [],m,lv,out,hs,hl,h0,h1=>by rw [mSs]; exact ⟨hs,h0,h1⟩
 | s :: r,m,lv,out,hs,hl,h0,h1=>by
  cases hr:m.right
  ·rw [mSs_off hr]; exact ⟨hs,h0,h1⟩
  ·cases hb:badS nm m lv s
   ·rw [mSs_at hr hb]
    obtain ⟨e1,e2,e3⟩:=mS_bd nm s m lv hs hb
    exact mSs_bd nm r _ lv _ e1 hl (by omega) (by omega)
   ·rw [mSs_bad hr hb]
    have:=hs.2.2 hr
    exact ⟨⟨by show 0≤m.parts+1; have:=hs.1; omega,by show m.parts+1≤_; omega,fun h=>by cases h⟩,by show (0:Int)≤0; omega,by show (0:Int)≤_; omega⟩
end
end Go.Proofs.YtbkhnilbgocpnaaGreatDoor.SynC
namespace Go.Proofs.YtbkhnilbgocpnaaGreatDoor.SynC
open Go.Proofs.YtbkhnilbgocpnaaGreatDoor.LexC
open Go Go.ChangeShapes Go.WideShapes Go.ChangeAt Go.RowKit Go.Deep
def RCs (l:List St):Prop:=∀ (b base:Nat) (lv:Int) (m:Ms) (w:World) (A:Option Addr) (n c:Nat),Mr w b m→base≤b→0≤lv→lv≤13→Sml m→SlS w (fun g=>g<base) (.slice A n c) l→rgSs l→l.length≤1125899906842624 →
 Calls Tryz.prog 107 #[.pointer (some ⟨b,0,none⟩),.slice A n c,.int .i64 lv] w (RMp b w (mSs u0f m lv 0 l))
def RBs:St→Prop
 | .mk _ _ _ _ body els=>RCs body∧RCs els
theorem bad_is {m:Ms} {lv kind op:Int} {name:List UInt8} {exprs:List Ex} {body els:List St}:badS u0f m lv (.mk kind op name exprs body els)=(decide (400<m.parts+1) || decide (12<lv) || !u0u u0f kind op name exprs.length body.isEmpty els.isEmpty):=rfl
set_option maxRecDepth 100000 in
set_option maxHeartbeats 20000000 in
theorem rstmts_l (l:List St) (hK:∀ a∈l,RBs a):RCs l:=by
 intro b base lv m w A n c hm hb hlv0 hlv hsm hs hg hll
 have hml:=u4g hs
 subst hml
 have zb:=(Array.getElem?_eq_some_iff.1 (show w.heap[b]? = _ from hm)).1
 have HM:=hid hm
 have HK:=hid hK
 have HSL:=hid hs
 have HGK:=hid hg
 have HSM:=hid hsm
 obtain ⟨R,hR⟩:∃ R,mSs u0f m lv 0 l=R:=⟨_,rfl⟩
 rw [hR]
 have HR:=hid hR
 clear hm hK hs hg hsm hR
 go_enter Tryz.func107,Tryz.ntmps107
 go_wp2_with fail
 go_loopw [7,8] (fun out i wr=>∃ (k:Nat) (M:Ms) (o:Int),k≤l.length∧i=.int .i64 k∧out=.int .i64 o∧Mr wr b M∧w.grownBy wr (some b)∧Sml M∧0≤o∧o≤14 - lv∧R=mSs u0f M lv o (l.drop k)) (fun _ i _=>l.length - (intOf i).toNat)
 case atStart=>exact ⟨0,m,0,Nat.zero_le _,rfl,rfl,HM.out,u0q _ _,HSM.out,Int.le_refl _,by omega,by rw [List.drop_zero]; exact HR.out.symm⟩
 case round =>
  obtain ⟨k,M,o,hk,rfl,rfl,hmr,hgr,hsm,ho0,ho1,heq⟩:=hrel
  obtain ⟨wo,rfl⟩:∃ z,z=wr:=⟨_,rfl⟩
  have hzr:=hgr.size
  have zbo:b<wo.heap.size:=by omega
  have HGR:=hid hgr
  have HMR:=hid hmr
  have HQ:=hid heq
  have HSN:=hid hsm
  have y0:wo.cell? ⟨b,0,none⟩=some (.int .i64 M.parts):=by rw [cell_of_row _ _ 0 _ _ _ hmr]; rfl
  have y1:wo.cell? ⟨b,1,none⟩=some (.int .i64 M.depth):=by rw [cell_of_row _ _ 1 _ _ _ hmr]; rfl
  have y2:wo.cell? ⟨b,2,none⟩=some (.bool M.right):=by rw [cell_of_row _ _ 2 _ _ _ hmr]; rfl
  have fy0:wo.frozen? ⟨b,0,none⟩=false:=by simp [World.frozen?,show wo.heap[b]? = _ from hmr]
  have fy2:wo.frozen? ⟨b,2,none⟩=false:=by simp [World.frozen?,show wo.heap[b]? = _ from hmr]
  by_cases hlt:k<l.length
  ·cases hri:M.right
   ·rw [hri] at y2
    clear heq hmr hgr hsm
    go_wp2
    go_ret
    rw [HQ.out,mSs_off hri]
    exact ⟨rfl,HGR.out,HMR.out⟩
   rw [hri] at y2
   obtain ⟨a,ha⟩:∃ a,l[k]? = some a:=⟨l[k],List.getElem?_eq_getElem hlt⟩
   have hbase:Below base w wo:=u2g hgr hb zb
   obtain ⟨g,og,rfl,_,hPg,hrows⟩:=u9t (u2k hbase HSL.out) (by omega)
   have hmem:=List.mem_of_getElem? ha
   have hka:=HK.out a hmem
   have hga:=rgSs_at HGK.out a hmem
   obtain ⟨h1,h2⟩:=List.getElem?_eq_some_iff.1 ha
   have hdr:R=mSs u0f M lv o (a :: l.drop (k+1)):=by rw [heq,List.drop_eq_getElem_cons h1,h2]
   obtain ⟨kind,op,name,exprs,body,els⟩:=a
   obtain ⟨sk,so,x,xA,xm,xc,xB,xmb,xcb,xC,xmc,xcc,⟨c0,c1,c2,c3,c4,c5⟩,hrx⟩:=hrows k _ ha
   rw [RS_eq] at hrx
   obtain ⟨E,F,G,hc,hE,hF,hG⟩:=hrx
   cases hc
   have e1:=slE_len hE
   have e2:=u4g hF
   have e3:=u4g hG
   subst e1; subst e2; subst e3
   rw [rgS] at hga
   obtain ⟨hs1,hs2⟩:=hka
   have hin:(0:Int)≤k∧(k:Int)<l.length:=⟨by omega,by omega⟩
   have hp0:=hsm.1
   have hp4:=hsm.2.2 hri
   obtain ⟨z,hz⟩:∃ z,wo.heap.size=z:=⟨_,rfl⟩
   have HSH:=hid (fun w'=>shapeS_164 kind op name xA exprs.length xc xB xcb xC xcc body els hga.1 hga.2.1.1 w')
   obtain ⟨sh,hsh⟩:∃ sh,u0u u0f kind op name exprs.length body.isEmpty els.isEmpty=sh:=⟨_,rfl⟩
   unfold SS at HSH
   rw [hsh] at HSH
   have hbd:badS u0f M lv (.mk kind op name exprs body els)=(decide (400<M.parts+1) || decide (12<lv) || !sh):=by rw [bad_is,hsh]
   have HBD:=hid hbd
   have HDR:=hid hdr
   have HE:=hid hE
   have HF:=hid hF
   have HGG:=hid hG
   have HS1:=hid hs1
   have HS2:=hid hs2
   have HGA:=hid hga
   have HBA:=hid hbase
   have lb:((wo.setCell ⟨b,0,none⟩ (.int .i64 (M.parts+1))).alloc (.cells #[.int .i64 kind,.int .i64 op,.string (bs name),.slice xA exprs.length xc,.slice xB body.length xcb,.slice xC els.length xcc] 136)).heap[b]? = some (.cells #[.int .i64 (M.parts+1),.int .i64 M.depth,.bool M.right] 101 (0,0)):=u0g (by simpa using zbo) (st0 hmr)
   have ls:((wo.setCell ⟨b,0,none⟩ (.int .i64 (M.parts+1))).alloc (.cells #[.int .i64 kind,.int .i64 op,.string (bs name),.slice xA exprs.length xc,.slice xB body.length xcb,.slice xC els.length xcc] 136)).heap[wo.heap.size]? = some (.cells #[.int .i64 kind,.int .i64 op,.string (bs name),.slice xA exprs.length xc,.slice xB body.length xcb,.slice xC els.length xcc] 136 (0,0)):=u0k (by simp)
   have hgs:wo.grownBy ((wo.setCell ⟨b,0,none⟩ (.int .i64 (M.parts+1))).alloc (.cells #[.int .i64 kind,.int .i64 op,.string (bs name),.slice xA exprs.length xc,.slice xB body.length xcb,.slice xC els.length xcc] 136)) (some b):=u0o (u1a (u0q _ _) (.inl rfl) _) _
   have LB:=hid lb
   have LS:=hid ls
   have HGS:=hid hgs
   clear hrows ha heq hmr hgr hsm hbase hE hF hG hs1 hs2 hga hbd hdr hmem h1 h2 lb ls hgs hz
   by_cases hb1:400<M.parts+1
   ·go_wp2
    go_ret
    rw [HDR.out,mSs_bad hri (by rw [HBD.out]; simp [hb1])]
    refine ⟨rfl,u0b HGR.out tGB,?_⟩
    exact u0g (by simpa using zbo) (st2 (st0 HMR.out))
   by_cases hb2:12<lv
   ·go_wp2
    go_ret
    rw [HDR.out,mSs_bad hri (by rw [HBD.out]; simp [hb2])]
    refine ⟨rfl,u0b HGR.out tGB,?_⟩
    exact u0g (by simpa using zbo) (st2 (st0 HMR.out))
   cases sh
   ·go_wp2_with fail
    refine (HSH.out _).mono ?_
    rintro e w1 ⟨rfl,hb1'⟩
    have hgb:=u0d hb1' (some (b+wo.heap.size+1))
    have l1:=hkeep hgb LB.out (by omega)
    obtain ⟨q1,f1,zz1⟩:=u0i l1
    have f12:=f1 2
    have q12:=q1 2
    have HG1:=hid (u0b HGR.out (u0b HGS.out (u0d hb1' (some b))))
    have HL1:=hid l1
    clear hb1' hgb l1 q1 f1
    go_wp2
    go_ret
    rw [HDR.out,mSs_bad hri (by rw [HBD.out]; simp)]
    refine ⟨rfl,u1a HG1.out (.inl rfl) _,?_⟩
    exact st2 HL1.out
   go_wp2_with fail
   refine (HSH.out _).mono ?_
   rintro e w1 ⟨rfl,hb1'⟩
   have hgb:=u0d hb1' (some (b+wo.heap.size+1))
   have l1:=hkeep hgb LB.out (by omega)
   have s1:=hkeep hgb LS.out (by omega)
   rw [hri] at l1
   have hz1:=hb1'.size
   simp only [u0e,u0h] at hz1
   have HG1:=hid (u0b HGS.out (u0d hb1' (some b)))
   have HL1:=hid l1
   have HR1:=hid s1
   have hsm0:Sml (mEs u0f ⟨M.parts+1,M.depth,true⟩ 1 0 exprs).1:=sml_exprs (by show 0≤M.parts+1; omega) (by show M.parts+1≤401; omega) (fun _=>by show M.parts+1≤400; omega) (u8k hsh)
   have hl2:=u8k hsh
   have hbd12:=bd_le 12 (by omega)
   obtain ⟨X,hX⟩:∃ X,X=mEs u0f ⟨M.parts+1,M.depth,true⟩ 1 0:=⟨_,rfl⟩
   have hT:∀ (j:Nat) (a:Ex),exprs[j]? = some a→X (exprs.take (j+1))=((mE u0f (X (exprs.take j)).1 1 a).1,max (X (exprs.take j)).2 (mE u0f (X (exprs.take j)).1 1 a).2):=fun j a h=>by rw [hX]; exact mEs_take u0f exprs _ _ _ j a h
   have hXB:∀ j:Nat,0≤(X (exprs.take j)).1.parts∧(X (exprs.take j)).1.parts≤100000000000:=fun j=>by
    have:=mEs_bd u0f (exprs.take j) ⟨M.parts+1,M.depth,true⟩ 1 0 12 2 rfl (by rw [List.length_take]; omega) (Int.le_refl _)
    rw [← hX] at this
    simp only at this
    omega
   have hX0:X (exprs.take 0)=(⟨M.parts+1,M.depth,true⟩,0):=by rw [List.take_zero,hX,mEs]
   rw [← hX] at hsm0
   have hmS:∀ B1 C1:Ms × Int,mSs u0f (X exprs).1 (lv+1) 0 body=B1→mSs u0f B1.1 (lv+1) 0 els=C1→mS u0f M lv (.mk kind op name exprs body els)=(⟨C1.1.parts,max C1.1.depth (1+max B1.2 C1.2),C1.1.right⟩,1+max B1.2 C1.2):=by
    rintro B1 C1 rfl rfl
    rw [mS,← hX]
   have HT:=hid hT
   have HXB:=hid hXB
   have HX0:=hid hX0
   have HMS:=hid hmS
   have HS0:=hid hsm0
   clear hb1' hgb l1 s1 hsm0 hX hT hXB hX0 hmS hsh
   go_wp2_with fail
   go_loopw [10] (fun i wr=>∃ (j:Nat),j≤exprs.length∧i=.int .i64 j∧Mr wr b (X (exprs.take j)).1∧w1.grownBy wr (some b)) (fun i _=>exprs.length - (intOf i).toNat)
   case atStart=>exact ⟨0,Nat.zero_le _,rfl,by rw [HX0.out]; exact HL1.out,u0q _ _⟩
   case round =>
    obtain ⟨j,hj,rfl,hmj,hgj⟩:=hrel
    obtain ⟨wi,rfl⟩:∃ z,z=wr:=⟨_,rfl⟩
    have hzj:=hgj.size
    have sj:wi.heap[wo.heap.size]? = some (.cells #[.int .i64 kind,.int .i64 op,.string (bs name),.slice xA exprs.length xc,.slice xB body.length xcb,.slice xC els.length xcc] 136 (0,0)):=hkeep hgj HR1.out (by omega)
    have x3:=cell_of_row _ _ 3 _ _ _ sj
    have HMJ:=hid hmj
    have HGJ:=hid hgj
    have hbi:Below base wo wi:=u2g (u0b HG1.out hgj) hb zbo
    by_cases hlt2:j<exprs.length
    ·obtain ⟨a,ha⟩:∃ a,exprs[j]? = some a:=⟨exprs[j],List.getElem?_eq_getElem hlt2⟩
     obtain ⟨ge,oe,rfl,_,hPe,hrowsE⟩:=u3n (u5o hbi HE.out) (by omega)
     obtain ⟨yk,yo,yn,yx,yA,ym,yc,⟨d0,d1,d2,d3,d4⟩,hry⟩:=hrowsE j a ha
     have hin2:(0:Int)≤j∧(j:Int)<exprs.length:=⟨by omega,by omega⟩
     have hxb:=HXB.out j
     have hC:=rc_all a b base 1 12 (X (exprs.take j)).1 wi yk yo yn yx yA ym yc hmj hb (by omega) (by omega) hxb.1 (by omega) hry (u7v HGA.out.2.1.2 a (List.mem_of_getElem? ha))
     have hT:=HT.out j a ha
     obtain ⟨R2,hR2⟩:∃ R2,mE u0f (X (exprs.take j)).1 1 a=R2:=⟨_,rfl⟩
     rw [hR2] at hC hT
     have HC:=hid hC
     have HT2:=hid hT
     clear hrowsE hry ha hT hC hR2 hmj hgj sj hbi hxb
     go_wp2_with fail
     refine HC.out.mono ?_
     rintro e w3 ⟨rfl,hg3,hm3⟩
     have HG3:=hid (u0b HGJ.out hg3)
     have HM3:=hid hm3
     clear hg3 hm3
     go_wp2
     go_roundw
     case rel=>exact ⟨j+1,by omega,by go_num,by rw [HT2.out]; exact HM3.out,HG3.out⟩
     case measure=>simp [intOf]; omega
    ·have ht:exprs.take j=exprs:=List.take_of_length_le (by omega)
     rw [ht] at HMJ
     have x4:=cell_of_row _ _ 4 _ _ _ sj
     have x5:=cell_of_row _ _ 5 _ _ _ sj
     obtain ⟨B1,hB1⟩:∃ B1,mSs u0f (X exprs).1 (lv+1) 0 body=B1:=⟨_,rfl⟩
     obtain ⟨C1,hC1⟩:∃ C1,mSs u0f B1.1 (lv+1) 0 els=C1:=⟨_,rfl⟩
     have hms:=HMS.out B1 C1 hB1 hC1
     obtain ⟨sb,b1,b2⟩:=mSs_bd u0f body (X exprs).1 (lv+1) 0 HS0.out (by omega) (Int.le_refl _) (by omega)
     rw [hB1] at sb b1 b2
     obtain ⟨sc,c1',c2'⟩:=mSs_bd u0f els B1.1 (lv+1) 0 sb (by omega) (Int.le_refl _) (by omega)
     rw [hC1] at sc c1' c2'
     have hcB:∀ w',Mr w' b (X exprs).1→wi.grownBy w' (some b)→Calls Tryz.prog 107 #[.pointer (some ⟨b,0,none⟩),.slice xB body.length xcb,.int .i64 (lv+1)] w' (RMp b w' B1):=by
      intro w' h1 h2
      have:=HS1.out b base (lv+1) (X exprs).1 w' xB body.length xcb h1 hb (by omega) (by omega) HS0.out (u2k (u2g (u0b (u0b HG1.out HGJ.out) h2) hb zbo) HF.out) HGA.out.2.2.1.2 HGA.out.2.2.1.1
      rw [hB1] at this; exact this
     have hcC:∀ w',Mr w' b B1.1→wi.grownBy w' (some b)→Calls Tryz.prog 107 #[.pointer (some ⟨b,0,none⟩),.slice xC els.length xcc,.int .i64 (lv+1)] w' (RMp b w' C1):=by
      intro w' h1 h2
      have:=HS2.out b base (lv+1) B1.1 w' xC els.length xcc h1 hb (by omega) (by omega) sb (u2k (u2g (u0b (u0b HG1.out HGJ.out) h2) hb zbo) HGG.out) HGA.out.2.2.2.2 HGA.out.2.2.2.1
      rw [hC1] at this; exact this
     have hwr:IntKind.i64.wrap (lv+1)=lv+1:=by go_arith
     have hcB:∀ w',Mr w' b (X exprs).1→wi.grownBy w' (some b)→Calls Tryz.prog 107 #[.pointer (some ⟨b,0,none⟩),.slice xB body.length xcb,.int .i64 (IntKind.i64.wrap (lv+1))] w' (RMp b w' B1):=by rw [hwr]; exact hcB
     have hcC:∀ w',Mr w' b B1.1→wi.grownBy w' (some b)→Calls Tryz.prog 107 #[.pointer (some ⟨b,0,none⟩),.slice xC els.length xcc,.int .i64 (IntKind.i64.wrap (lv+1))] w' (RMp b w' C1):=by rw [hwr]; exact hcC
     have hgd:wi.grownBy wi.drew (some b):=u8t (u0q _ _)
     have HGD:=hid hgd
     have HCBD:=hid (hcB wi.drew (show Mr wi.drew b (X exprs).1 from HMJ.out) hgd)
     have SJD:=hid (u2d sj)
     have HCC:=hid hcC
     have HQ2:R=mSs u0f (mS u0f M lv (.mk kind op name exprs body els)).1 lv (max o (mS u0f M lv (.mk kind op name exprs body els)).2) (l.drop (k+1)):=HDR.out.trans (mSs_at hri (by rw [HBD.out]; simp; omega))
     rw [hms] at HQ2
     have HQ3:=hid HQ2
     have SC:=hid sc
     clear HQ2 hms hwr hgd hcB hcC hB1 hC1 hmj hgj sj hbi ht sb sc
     go_wp2_with fail
     go_region_held3 (fun w'=>w'.cell? ⟨wo.heap.size,4,none⟩=some (.slice xB body.length xcb)∧w'.cell? ⟨wo.heap.size,5,none⟩=some (.slice xC els.length xcc)) (first | exact ⟨x4,x5⟩ | exact ⟨(qc 4).trans rfl,(qc 5).trans rfl⟩ | exact ⟨(qd 4).trans rfl,(qd 5).trans rfl⟩) ((first | (go_at_call 107; with_reducible refine HCBD.out.mono ?_; intro e w4 h4; unfold RMp at h4; obtain ⟨rfl,hg4,hm4⟩:=h4; obtain ⟨qc,_,_,l4⟩:=u0a (q:=wo.heap.size) hg4 SJD.out (by omega)) | (go_at_call 107; with_reducible refine (HCC.out w4 hm4 (u0b HGD.out hg4)).mono ?_; intro e w5 h5; unfold RMp at h5; obtain ⟨rfl,hg5,hm5⟩:=h5; obtain ⟨qd,_,_,l5⟩:=u0a (q:=wo.heap.size) hg5 l4 (by omega))))
     all_goals
      have hg6:wi.grownBy w5 (some b):=u0b (u0b HGD.out hg4) hg5
      have HG5:=hid (u0b HGR.out (u0b HG1.out (u0b HGJ.out hg6)))
      have HM5:=hid hm5
      obtain ⟨q5,f5,z5⟩:=u0i (show w5.heap[b]? = _ from hm5)
      have q51:=q5 1
      have f51:=f5 1
      clear hg4 hg5 hg6 hm4 hm5 q5 f5 qc qd l4 l5
      obtain ⟨bb,hbb⟩:∃ bb,B1.2=bb:=⟨_,rfl⟩
      obtain ⟨cc,hcc⟩:∃ cc,C1.2=cc:=⟨_,rfl⟩
      rw [hbb,hcc] at HQ3
      rw [hbb] at b1 b2 ⊢
      rw [hcc] at c1' c2' ⊢
      have hw1:wrap64 (1+max bb cc)=1+max bb cc:=by unfold wrap64; omega
      go_wp2
      go_roundw
      case rel=>exact ⟨k+1,⟨C1.1.parts,max C1.1.depth (1+max bb cc),C1.1.right⟩,max o (1+max bb cc),by omega,by go_num,by go_num,st1 HM5.out,u1a HG5.out (.inl rfl) _,SC.out,by omega,by omega,HQ3.out⟩
      case measure=>simp [intOf]; omega
  ·have hd:l.drop k=[]:=List.drop_eq_nil_of_le (by omega)
   clear heq hmr hgr hsm
   go_wp2
   go_ret
   rw [HQ.out,hd,mSs]
   exact ⟨rfl,HGR.out,HMR.out⟩
mutual
theorem rbs_all:(s:St)→RBs s
 | .mk _ _ _ _ body els=>⟨rstmts_l body (rbs_mem body),rstmts_l els (rbs_mem els)⟩
theorem rbs_mem:(l:List St)→∀ a∈l,RBs a
 | [],_,h=>by cases h
 | e :: r,a,h=>by
  rcases List.mem_cons.1 h with h1 | h1
  ·rw [h1]; exact rbs_all e
  ·exact rbs_mem r a h1
end
theorem rcs_stmts (l:List St):RCs l:=rstmts_l l (rbs_mem l)
end Go.Proofs.YtbkhnilbgocpnaaGreatDoor.SynC
