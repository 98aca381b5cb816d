import Derived.Test.YtbkhnilbgocpnaaGreatDoorK0
import Derived.Test.YtbkhnilbgocpnaaGreatDoorK16
set_option linter.unusedVariables false
set_option linter.unusedSimpArgs false
set_option maxRecDepth 100000
set_option maxHeartbeats 2000000
open Go.Lib (hid)
namespace Go.Proofs.YtbkhnilbgocpnaaGreatDoor.SynC
open Go.Proofs.YtbkhnilbgocpnaaGreatDoor.LexC
open Go Go.ChangeShapes Go.WideShapes Go.ChangeAt Go.RowKit Go.Deep
theorem alls_s (l:List St) (hl:∀ a∈l,CS a) (b base q1 q2:Nat) (lv p d:Int) (w:World) (A:Option Addr) (m c:Nat) (hm:Mz w b p d) (hb:base≤b) (h10:10≤base) (hp:0≤p∧p≤400) (hlv:1≤lv∧lv≤13) (hd:lv - 1≤d) (hT:Tabs w)
  (hs:SlS w (fun g=>g<base) (.slice A m c) l) (hg:rgSs l) (hll:l.length≤1125899906842624) (hn1:q1≠b) (hn2:q2≠b)
  (hq1:w.heap[q1]? = some (.cells #[.pointer (some ⟨b,0,none⟩)] 174 (0,0))) (hq2:w.heap[q2]? = some (.cells #[.int .i64 lv] 3 (0,0))) :
  Calls Tryz.prog 183 #[.slice A m c,.func (.func 184) #[] #[.pointer (some ⟨q1,0,none⟩),.pointer (some ⟨q2,0,none⟩)]] w (Meas b w (u6d u0o p lv l) (p+u0u l) (newD d lv (u1n l) (u3v l))):=by
 have hm1:=u7g hs
 subst hm1
 have zb:=(Array.getElem?_eq_some_iff.1 (show w.heap[b]? = _ from hm)).1
 have z1:=(Array.getElem?_eq_some_iff.1 hq1).1
 have z2:=(Array.getElem?_eq_some_iff.1 hq2).1
 have HL:=hid hl
 have HM:=hid hm
 have HT:=hid hT
 have HS:=hid hs
 have HG:=hid hg
 have HQ1:=hid hq1
 have HQ2:=hid hq2
 clear hl hm hT hs hg hq1 hq2
 go_enter Tryz.func183,Tryz.ntmps183
 go_wp2_with fail
 go_loopw [9] (fun i wr=>∃ (k:Nat),k≤l.length∧i=.int .i64 k∧Mz wr b (p+u0u (l.take k)) (newD d lv (u1n (l.take k)) (u3v (l.take k)))∧w.grownBy wr (some b)∧u6d u0o p lv l=u6d u0o (p+u0u (l.take k)) lv (l.drop k)∧p+u0u (l.take k)≤400) (fun i _=>l.length - (intOf i).toNat)
 case atStart =>
  refine ⟨0,Nat.zero_le _,rfl,?_,u0r _ _,?_,?_⟩
  ·have:=HM.out
   rw [List.take_zero,u0u,u1n,u3v]
   rw [show newD d lv 0 0=d by unfold newD; omega,Int.add_zero]; exact this
  ·rw [List.take_zero,u0u,Int.add_zero,List.drop_zero]
  ·rw [List.take_zero,u0u]; omega
 case round =>
  obtain ⟨k,hkk,rfl,hmr,hgr,hfr,hpr⟩:=hrel
  have hbr:=u1z hgr hb zb
  have zbr:=(Array.getElem?_eq_some_iff.1 (show wr.heap[b]? = _ from hmr)).1
  have HMr:=hid hmr
  have HGr:=hid hgr
  have HFr:=hid hfr
  have hp0:=u1t (l.take k)
  have hzr:=hgr.size
  by_cases hlt:k<l.length
  ·obtain ⟨a,ha⟩:∃ a,l[k]? = some a:=⟨l[k],List.getElem?_eq_getElem hlt⟩
   obtain ⟨g,o,rfl,_,hPg,hrows⟩:=stmts_at (u1v hbr HS.out) (by omega)
   obtain ⟨sk,so,x,xA,xm,xc,xB,xmb,xcb,xC,xmc,xcc,⟨c0,c1,c2,c3,c4,c5⟩,hrx⟩:=hrows k a ha
   have hin:(0:Int)≤k∧(k:Int)<l.length:=⟨by omega,by omega⟩
   have HX:=hid hrx
   have HA:=hid ha
   clear hrows hrx ha hmr hgr hfr
   have hC:∀ w1,Mz w1 b (p+u0u (l.take k)) (newD d lv (u1n (l.take k)) (u3v (l.take k)))→wr.grownBy w1 (some b)→Calls Tryz.prog 184 #[.agg #[.int .i64 sk,.int .i64 so,.string (bs x),.slice xA xm xc,.slice xB xmb xcb,.slice xC xmc xcc],.pointer (some ⟨q1,0,none⟩),.pointer (some ⟨q2,0,none⟩)] w1 (Meas b w1 (fitS u0o (p+u0u (l.take k)) lv a) (p+u0u (l.take k)+u6e a) (newD (newD d lv (u1n (l.take k)) (u3v (l.take k))) lv (depthS a) (exdS a))):=by
    intro w1 h1 h2
    have hgw:=u0j HGr.out h2
    refine HL.out a (List.mem_of_getElem? HA.out) b base q1 q2 lv _ _ w1 _ _ _ _ _ _ _ _ _ _ _ _ h1 hb h10 ⟨by omega,hpr⟩ hlv (by unfold newD; omega) (HT.out.keep hgw (by omega)) (below_rs (u1z h2 hb zbr) HX.out) (rgSs_at HG.out a (List.mem_of_getElem? HA.out)) hn1 hn2 ((hgw.block q1 z1 (by simpa using hn1)).trans HQ1.out) ((hgw.block q2 z2 (by simpa using hn2)).trans HQ2.out)
   cases hfe:fitS u0o (p+u0u (l.take k)) lv a
   ·rw [hfe] at hC
    have HC:=hid hC
    have HFE:=hid hfe
    clear hC hfe
    go_wp2_with fail
    refine (HC.out _ (u0e zbr HMr.out) (u0n (u0r _ _) _)).mono ?_
    rintro e w2 ⟨rfl,hg2,p2,d2,hm2,-⟩
    have HG2:=hid (u0j HGr.out (u0j (u0n (u0r _ _) _) hg2))
    have HM2:=hid hm2
    clear hg2 hm2
    go_wp2
    go_ret
    refine ⟨?_,HG2.out,p2,d2,HM2.out,?_⟩
    ·rw [HFr.out,fitSs_drop u0o p lv l k a HA.out,HFE.out]; rfl
    ·rw [HFr.out,fitSs_drop u0o p lv l k a HA.out,HFE.out]; intro h; cases h
   ·have hle:=fitS_le hfe
    rw [hfe] at hC
    have HC:=hid hC
    have HFE:=hid hfe
    clear hC hfe
    go_wp2_with fail
    refine (HC.out _ (u0e zbr HMr.out) (u0n (u0r _ _) _)).mono ?_
    rintro e w2 ⟨rfl,hg2,p2,d2,hm2,hpd⟩
    obtain ⟨rfl,rfl⟩:=hpd rfl
    have HG2:=hid (u0j HGr.out (u0j (u0n (u0r _ _) _) hg2))
    have HM2:=hid hm2
    clear hg2 hm2 hpd
    go_wp2
    go_roundw
    case rel =>
     refine ⟨k+1,by omega,by go_num,?_,HG2.out,?_,?_⟩
     ·rw [partsSs_take l k a HA.out,depthSs_take l k a HA.out,exdSs_take l k a HA.out]
      have:=HM2.out
      rw [show newD d lv (max (u1n (l.take k)) (depthS a)) (max (u3v (l.take k)) (exdS a))=newD (newD d lv (u1n (l.take k)) (u3v (l.take k))) lv (depthS a) (exdS a) by unfold newD; omega,← Int.add_assoc]
      exact this
     ·rw [HFr.out,fitSs_drop u0o p lv l k a HA.out,HFE.out]; rfl
     ·rw [partsSs_take l k a HA.out]; omega
    case measure=>simp [intOf]; omega
  ·have ht:l.take k=l:=List.take_of_length_le (by omega)
   have hd0:l.drop k=[]:=List.drop_of_length_le (by omega)
   rw [ht] at hmr hfr hpr
   rw [hd0,fitSs_nil u0o _ _ hpr hlv.2] at hfr
   have HMr:=hid hmr
   have HFr:=hid hfr
   clear hmr hfr hgr
   go_wp2
   go_ret
   exact ⟨by rw [HFr.out]; rfl,HGr.out,_,_,HMr.out,fun _=>⟨rfl,rfl⟩⟩
theorem stmts_s (l:List St) (hl:∀ a∈l,CS a):CSs l:=by
 intro b base lv p d w A m c hm hb h10 hp hlv hd hT hs hg hll
 have zb:=(Array.getElem?_eq_some_iff.1 (show w.heap[b]? = _ from hm)).1
 have HM:=hid hm
 have HT:=hid hT
 have HS:=hid hs
 have HG:=hid hg
 have HL:=hid hl
 clear hm hT hs hg hl
 go_enter Tryz.func149,Tryz.ntmps149
 go_wp2_with fail
 have hba:w.grownBy ((w.alloc (.cells #[.pointer (some ⟨b,0,none⟩)] 174)).alloc (.cells #[.int .i64 lv] 3)) (some b):=u0n (u0n (u0r _ _) _) _
 refine (alls_s l HL.out b base w.heap.size (w.heap.size+1) lv p d _ A m c (u0e tSZ (u0e zb HM.out)) hb h10 hp hlv hd (HT.out.keep hba (by omega)) (u1v (u1z hba hb zb) HS.out) HG.out hll (by omega) (by omega) tLOC tLOC).mono ?_
 rintro e w1 ⟨rfl,hg1,hm1⟩
 have HG1:=hid (u0j hba hg1)
 have HM1:=hid hm1
 clear hg1 hm1
 go_wp2
 go_ret
 exact ⟨rfl,HG1.out,HM1.out⟩
mutual
theorem cs_all:(s:St)→CS s
 | .mk kind op name exprs body els=>clo_s kind op name exprs body els (stmts_s body (css_all body)) (stmts_s els (css_all els))
theorem css_all:(l:List St)→∀ a∈l,CS a
 | [],_,h=>by cases h
 | e :: r,a,h=>by
  rcases List.mem_cons.1 h with h1 | h1
  ·rw [h1]; exact cs_all e
  ·exact css_all r a h1
end
theorem u5x (x:List UInt8) (w:World) (hx:x.length≤maxLen) (b:Bool) (h:u0o x=b):Calls Tryz.prog 38 #[.string (bs x)] w fun e w'=>e=.returned (.bool b)∧Below w.heap.size w w':=by
 have:=Go.Proofs.YtbkhnilbgocpnaaGreatDoor.LexC.name_any (bs x) (by rw [u4t]; exact hx) w
 rw [u4d,h] at this
 exact this
theorem fitsParam_b (a:List UInt8 × Bool) (w:World) (hx:a.1.length≤maxLen) (b:Bool) (h:u0o a.1=b):Calls Tryz.prog 151 #[.agg #[.string (bs a.1),.bool a.2]] w fun e w'=>e=.returned (.bool b)∧Below w.heap.size w w':=by
 have H:=hid h
 clear h
 go_enter Tryz.func151,Tryz.ntmps151
 go_wp2_with fail
 refine (u5x _ _ hx _ H.out).mono ?_
 rintro e w1 ⟨rfl,hb⟩
 have HB:=hid (show Below w.heap.size w w1 from (tBEL:Below w.heap.size w _).trans (hb.mono tSZ))
 clear hb
 go_wp2
 go_ret
 exact ⟨rfl,HB.out⟩
def arrB (a:List UInt8 × Int):Bool:=u0o a.1&&decide (1≤a.2)&&decide (a.2≤64)
theorem fitsArray_b (a:List UInt8 × Int) (w:World) (hw0:w.heap.size≠0) (hx:a.1.length≤maxLen) (b:Bool) (h:arrB a=b):Calls Tryz.prog 153 #[.agg #[.string (bs a.1),.int .i64 a.2]] w fun e w'=>e=.returned (.bool b)∧Below w.heap.size w w':=by
 subst h
 obtain ⟨x,n⟩:=a
 unfold arrB
 simp only at hx ⊢
 obtain ⟨bn,hn⟩:∃ b,u0o x=b:=⟨_,rfl⟩
 rw [hn]
 have H:=hid hn
 clear hn
 cases bn
 ·go_enter Tryz.func153,Tryz.ntmps153
  go_wp2_with fail
  refine (u5x _ _ hx _ H.out).mono ?_
  rintro e w1 ⟨rfl,hb⟩
  have HB:=hid (show Below w.heap.size w w1 from (tBEL:Below w.heap.size w _).trans (hb.mono tSZ))
  obtain ⟨_,_,_,_⟩:=u0a (q:=w.heap.size) (u0f hb (some 0)) tLOC hw0
  clear hb
  go_wp2_with fail
  go_ret
  exact ⟨by simp [] <;> (intros; omega),HB.out⟩
 by_cases h1:1≤n
 ·by_cases h2:n≤64
  ·go_enter Tryz.func153,Tryz.ntmps153
   go_wp2_with fail
   refine (u5x _ _ hx _ H.out).mono ?_
   rintro e w1 ⟨rfl,hb⟩
   have HB:=hid (show Below w.heap.size w w1 from (tBEL:Below w.heap.size w _).trans (hb.mono tSZ))
   obtain ⟨_,_,_,_⟩:=u0a (q:=w.heap.size) (u0f hb (some 0)) tLOC hw0
   clear hb
   go_wp2_with fail
   go_ret
   exact ⟨by simp [h1,h2] <;> (intros; omega),HB.out⟩
  ·go_enter Tryz.func153,Tryz.ntmps153
   go_wp2_with fail
   refine (u5x _ _ hx _ H.out).mono ?_
   rintro e w1 ⟨rfl,hb⟩
   have HB:=hid (show Below w.heap.size w w1 from (tBEL:Below w.heap.size w _).trans (hb.mono tSZ))
   obtain ⟨_,_,_,_⟩:=u0a (q:=w.heap.size) (u0f hb (some 0)) tLOC hw0
   clear hb
   go_wp2_with fail
   go_ret
   exact ⟨by simp [h1,h2] <;> (intros; omega),HB.out⟩
 ·go_enter Tryz.func153,Tryz.ntmps153
  go_wp2_with fail
  refine (u5x _ _ hx _ H.out).mono ?_
  rintro e w1 ⟨rfl,hb⟩
  have HB:=hid (show Below w.heap.size w w1 from (tBEL:Below w.heap.size w _).trans (hb.mono tSZ))
  obtain ⟨_,_,_,_⟩:=u0a (q:=w.heap.size) (u0f hb (some 0)) tLOC hw0
  clear hb
  go_wp2_with fail
  go_ret
  exact ⟨by simp [h1] <;> (intros; omega),HB.out⟩
theorem all_drop {α:Type} (f:α→Bool) (l:List α) (k:Nat) (a:α) (h:l[k]? = some a):(l.drop k).all f=(f a&&(l.drop (k+1)).all f):=by
 obtain ⟨h1,h2⟩:=List.getElem?_eq_some_iff.1 h
 rw [List.drop_eq_getElem_cons h1,h2]; rfl
theorem allN_b (l:List (List UInt8)) (base:Nat) (w:World) (A:Option Addr) (m c:Nat) (hw0:w.heap.size≠0) (hbz:base≤w.heap.size) (hs:SlR rdN 1 (fun g=>g<base) w (.slice A m c) l) (hx:∀ a∈l,a.length≤maxLen) (h6:l.length≤1000) :
  Calls Tryz.prog 148 #[.slice A m c,.func (.func 38) #[] #[]] w fun e w'=>e=.returned (.bool (l.all u0o))∧Below w.heap.size w w':=by
 have hm:=hs.len
 subst hm
 have HS:=hid hs
 clear hs
 go_enter Tryz.func148,Tryz.ntmps148
 go_wp2_with fail
 go_loopw [9] (fun i wr=>∃ (k:Nat),k≤l.length∧i=.int .i64 k∧Below w.heap.size w wr∧l.all u0o=(l.drop k).all u0o) (fun i _=>l.length - (intOf i).toNat)
 case atStart=>exact ⟨0,Nat.zero_le _,rfl,Below.refl _ _,by rw [List.drop_zero]⟩
 case round =>
  obtain ⟨k,hkk,rfl,hbr,hfr⟩:=hrel
  have HBr:=hid hbr
  have HFr:=hid hfr
  have hzr:=hbr.size
  by_cases hlt:k<l.length
  ·obtain ⟨a,ha⟩:∃ a,l[k]? = some a:=⟨l[k],List.getElem?_eq_getElem hlt⟩
   obtain ⟨g,o,rfl,_,hPg,hrows⟩:=u2i (by decide) (fun P w cs a h=>⟨.string (bs a),by unfold rdN at h; subst h; rfl⟩) (u1m u4a (hbr.mono hbz) HS.out) (by omega)
   obtain ⟨cs,hcs,hrd⟩:=hrows k a ha
   have hrd:cs=[.string (bs a)]:=hrd
   subst hrd
   have c0:=hcs 0 _ rfl
   simp only [Nat.add_zero,Nat.mul_one] at c0
   have hin:(0:Int)≤k∧(k:Int)<l.length:=⟨by omega,by omega⟩
   have HA:=hid ha
   have hxa:=hx a (List.mem_of_getElem? ha)
   clear hrows ha hcs hbr hfr
   cases hfe:u0o a
   ·have HFE:=hid hfe
    clear hfe
    go_wp2_with fail
    refine (u5x a _ hxa _ HFE.out).mono ?_
    rintro e w2 ⟨rfl,hb2⟩
    have HB2:=hid (show Below w.heap.size w w2 from (HBr.out.trans (tBEL:Below w.heap.size wr _)).trans (hb2.mono tSZ))
    clear hb2
    go_wp2
    go_ret
    exact ⟨by rw [HFr.out,all_drop u0o l k a HA.out,HFE.out]; rfl,HB2.out⟩
   ·have HFE:=hid hfe
    clear hfe
    go_wp2_with fail
    refine (u5x a _ hxa _ HFE.out).mono ?_
    rintro e w2 ⟨rfl,hb2⟩
    have HB2:=hid (show Below w.heap.size w w2 from (HBr.out.trans (tBEL:Below w.heap.size wr _)).trans (hb2.mono tSZ))
    clear hb2
    go_wp2
    go_roundw
    case rel=>exact ⟨k+1,by omega,by go_num,HB2.out,by rw [HFr.out,all_drop u0o l k a HA.out,HFE.out]; rfl⟩
    case measure=>simp [intOf]; omega
  ·rw [List.drop_of_length_le (by omega)] at hfr
   have HFr:=hid hfr
   clear hfr
   go_wp2
   go_ret
   exact ⟨by rw [HFr.out]; rfl,HBr.out⟩
def parB (a:List UInt8 × Bool):Bool:=u0o a.1
theorem allP_b (l:List (List UInt8 × Bool)) (base:Nat) (w:World) (A:Option Addr) (m c:Nat) (hw0:w.heap.size≠0) (hbz:base≤w.heap.size) (hs:SlR rdP 2 (fun g=>g<base) w (.slice A m c) l) (hx:∀ a∈l,a.1.length≤maxLen) (h6:l.length≤1000) :
  Calls Tryz.prog 150 #[.slice A m c,.func (.func 151) #[] #[]] w fun e w'=>e=.returned (.bool (l.all parB))∧Below w.heap.size w w':=by
 have hm:=hs.len
 subst hm
 have HS:=hid hs
 clear hs
 go_enter Tryz.func150,Tryz.ntmps150
 go_wp2_with fail
 go_loopw [9] (fun i wr=>∃ (k:Nat),k≤l.length∧i=.int .i64 k∧Below w.heap.size w wr∧l.all parB=(l.drop k).all parB) (fun i _=>l.length - (intOf i).toNat)
 case atStart=>exact ⟨0,Nat.zero_le _,rfl,Below.refl _ _,by rw [List.drop_zero]⟩
 case round =>
  obtain ⟨k,hkk,rfl,hbr,hfr⟩:=hrel
  have HBr:=hid hbr
  have HFr:=hid hfr
  have hzr:=hbr.size
  by_cases hlt:k<l.length
  ·obtain ⟨a,ha⟩:∃ a,l[k]? = some a:=⟨l[k],List.getElem?_eq_getElem hlt⟩
   obtain ⟨g,o,rfl,_,hPg,hrows⟩:=u2i (by decide) (fun P w cs a h=>⟨.string (bs a.1),by unfold rdP at h; subst h; rfl⟩) (u1m u3d (hbr.mono hbz) HS.out) (by omega)
   obtain ⟨cs,hcs,hrd⟩:=hrows k a ha
   have hrd:cs=[.string (bs a.1),.bool a.2]:=hrd
   subst hrd
   have c0:=hcs 0 _ rfl
   have c1:=hcs 1 _ rfl
   simp only [Nat.add_zero] at c0 c1
   have hin:(0:Int)≤k∧(k:Int)<l.length:=⟨by omega,by omega⟩
   have HA:=hid ha
   have hxa:=hx a (List.mem_of_getElem? ha)
   clear hrows ha hcs hbr hfr
   cases hfe:parB a
   ·have HFE:=hid hfe
    clear hfe
    go_wp2_with fail
    refine (fitsParam_b a _ hxa _ HFE.out).mono ?_
    rintro e w2 ⟨rfl,hb2⟩
    have HB2:=hid (show Below w.heap.size w w2 from (HBr.out.trans (tBEL:Below w.heap.size wr _)).trans (hb2.mono tSZ))
    clear hb2
    go_wp2
    go_ret
    exact ⟨by rw [HFr.out,all_drop parB l k a HA.out,HFE.out]; rfl,HB2.out⟩
   ·have HFE:=hid hfe
    clear hfe
    go_wp2_with fail
    refine (fitsParam_b a _ hxa _ HFE.out).mono ?_
    rintro e w2 ⟨rfl,hb2⟩
    have HB2:=hid (show Below w.heap.size w w2 from (HBr.out.trans (tBEL:Below w.heap.size wr _)).trans (hb2.mono tSZ))
    clear hb2
    go_wp2
    go_roundw
    case rel=>exact ⟨k+1,by omega,by go_num,HB2.out,by rw [HFr.out,all_drop parB l k a HA.out,HFE.out]; rfl⟩
    case measure=>simp [intOf]; omega
  ·rw [List.drop_of_length_le (by omega)] at hfr
   have HFr:=hid hfr
   clear hfr
   go_wp2
   go_ret
   exact ⟨by rw [HFr.out]; rfl,HBr.out⟩
theorem allA_b (l:List (List UInt8 × Int)) (base:Nat) (w:World) (A:Option Addr) (m c:Nat) (hw0:w.heap.size≠0) (hbz:base≤w.heap.size) (hs:SlR rdA 2 (fun g=>g<base) w (.slice A m c) l) (hx:∀ a∈l,a.1.length≤maxLen) (h6:l.length≤1000) :
  Calls Tryz.prog 152 #[.slice A m c,.func (.func 153) #[] #[]] w fun e w'=>e=.returned (.bool (l.all arrB))∧Below w.heap.size w w':=by
 have hm:=hs.len
 subst hm
 have HS:=hid hs
 clear hs
 go_enter Tryz.func152,Tryz.ntmps152
 go_wp2_with fail
 go_loopw [9] (fun i wr=>∃ (k:Nat),k≤l.length∧i=.int .i64 k∧Below w.heap.size w wr∧l.all arrB=(l.drop k).all arrB) (fun i _=>l.length - (intOf i).toNat)
 case atStart=>exact ⟨0,Nat.zero_le _,rfl,Below.refl _ _,by rw [List.drop_zero]⟩
 case round =>
  obtain ⟨k,hkk,rfl,hbr,hfr⟩:=hrel
  have HBr:=hid hbr
  have HFr:=hid hfr
  have hzr:=hbr.size
  by_cases hlt:k<l.length
  ·obtain ⟨a,ha⟩:∃ a,l[k]? = some a:=⟨l[k],List.getElem?_eq_getElem hlt⟩
   obtain ⟨g,o,rfl,_,hPg,hrows⟩:=u2i (by decide) (fun P w cs a h=>⟨.string (bs a.1),by unfold rdA at h; subst h; rfl⟩) (u1m u4g (hbr.mono hbz) HS.out) (by omega)
   obtain ⟨cs,hcs,hrd⟩:=hrows k a ha
   have hrd:cs=[.string (bs a.1),.int .i64 a.2]:=hrd
   subst hrd
   have c0:=hcs 0 _ rfl
   have c1:=hcs 1 _ rfl
   simp only [Nat.add_zero] at c0 c1
   have hin:(0:Int)≤k∧(k:Int)<l.length:=⟨by omega,by omega⟩
   have HA:=hid ha
   have hxa:=hx a (List.mem_of_getElem? ha)
   clear hrows ha hcs hbr hfr
   cases hfe:arrB a
   ·have HFE:=hid hfe
    clear hfe
    go_wp2_with fail
    refine (fitsArray_b a _ tSZ hxa _ HFE.out).mono ?_
    rintro e w2 ⟨rfl,hb2⟩
    have HB2:=hid (show Below w.heap.size w w2 from (HBr.out.trans (tBEL:Below w.heap.size wr _)).trans (hb2.mono tSZ))
    clear hb2
    go_wp2
    go_ret
    exact ⟨by rw [HFr.out,all_drop arrB l k a HA.out,HFE.out]; rfl,HB2.out⟩
   ·have HFE:=hid hfe
    clear hfe
    go_wp2_with fail
    refine (fitsArray_b a _ tSZ hxa _ HFE.out).mono ?_
    rintro e w2 ⟨rfl,hb2⟩
    have HB2:=hid (show Below w.heap.size w w2 from (HBr.out.trans (tBEL:Below w.heap.size wr _)).trans (hb2.mono tSZ))
    clear hb2
    go_wp2
    go_roundw
    case rel=>exact ⟨k+1,by omega,by go_num,HB2.out,by rw [HFr.out,all_drop arrB l k a HA.out,HFE.out]; rfl⟩
    case measure=>simp [intOf]; omega
  ·rw [List.drop_of_length_le (by omega)] at hfr
   have HFr:=hid hfr
   clear hfr
   go_wp2
   go_ret
   exact ⟨by rw [HFr.out]; rfl,HBr.out⟩
def fitF (p:Int) (f:Fn):Bool:=u0o f.name&&decide (f.params.length≤6)&&f.params.all u0o&&u6d u0o p 1 f.body
def fitK (p:Int) (f:Kr):Bool:=u0o f.name&&decide (f.params.length≤6)&&f.params.all parB&&decide (f.shared.length≤4)&&f.shared.all arrB&&u6d u0o p 1 f.body
def rgF (f:Fn):Prop:=f.name.length≤maxLen∧(∀ a∈f.params,a.length≤maxLen)∧f.params.length≤1125899906842624∧f.body.length≤1125899906842624∧rgSs f.body
def rgK (f:Kr):Prop:=f.name.length≤maxLen∧(∀ a∈f.params,a.1.length≤maxLen)∧f.params.length≤1125899906842624∧(∀ a∈f.shared,a.1.length≤maxLen)∧f.shared.length≤1125899906842624∧f.body.length≤1125899906842624∧rgSs f.body
theorem function_m (f:Fn) (b base:Nat) (p d:Int) (w:World) (A:Option Addr) (m c:Nat) (B:Option Addr) (mb cb:Nat) (hm:Mz w b p d) (hb:base≤b) (h10:10≤base) (hp:0≤p∧p≤400) (hd:0≤d) (hT:Tabs w)
  (hps:SlR rdN 1 (fun g=>g<base) w (.slice A m c) f.params) (hs:SlS w (fun g=>g<base) (.slice B mb cb) f.body) (hg:rgF f) :
  Calls Tryz.prog 97 #[.pointer (some ⟨b,0,none⟩),.agg #[.string (bs f.name),.slice A m c,.slice B mb cb]] w (Meas b w (fitF p f) (p+u0u f.body) (newD d 1 (u1n f.body) (u3v f.body))):=by
 obtain ⟨name,params,body⟩:=f
 have hml:=hps.len
 have hbl':=u7g hs
 simp only at hml hbl'
 subst hml; subst hbl'
 obtain ⟨hx,hxs,_,hbl,hgb⟩:=hg
 simp only at hx hxs hbl hgb
 have zb:=(Array.getElem?_eq_some_iff.1 (show w.heap[b]? = _ from hm)).1
 have hns:w.heap.size≠b:=by omega
 have HM:=hid hm
 have HT:=hid hT
 have HP:=hid hps
 have HS:=hid hs
 unfold fitF
 simp only
 obtain ⟨bn,h1⟩:∃ x,u0o name=x:=⟨_,rfl⟩
 obtain ⟨ba,h2⟩:∃ x,params.all u0o=x:=⟨_,rfl⟩
 obtain ⟨bl,h3⟩:∃ x,u6d u0o p 1 body=x:=⟨_,rfl⟩
 rw [h1,h2,h3]
 have HN:=hid h1
 have HAL:=hid h2
 have HL:=hid h3
 clear hm hT hps hs h1 h2 h3
 cases bn
 ·go_enter Tryz.func97,Tryz.ntmps97
  go_wp2_with fail
  refine (u5x _ _ hx _ HN.out).mono ?_
  rintro e w1 ⟨rfl,hb1⟩
  have HA1:=hid (u0f hb1 (some b))
  have HM1:=hid (show Mz w1 b p d from (hb1.block b tSZ).trans (u0e zb HM.out))
  clear hb1
  obtain ⟨_,_,_,_⟩:=u0a (q:=w.heap.size) HA1.out (u0h rfl) hns
  have HG1:=hid (u0j (u0n (u0r w (some b)) _) HA1.out)
  have zz1:=HA1.out.size
  (try simp only [u0c] at zz1)
  go_wp2_with fail
  go_ret
  exact ⟨by simp [] <;> (intros; omega),HG1.out,_,_,HM1.out,fun h=>by (try simp [] at h) <;> (try omega)⟩
 by_cases h6:params.length≤6
 rotate_left 1
 ·go_enter Tryz.func97,Tryz.ntmps97
  go_wp2_with fail
  refine (u5x _ _ hx _ HN.out).mono ?_
  rintro e w1 ⟨rfl,hb1⟩
  have HA1:=hid (u0f hb1 (some b))
  have HM1:=hid (show Mz w1 b p d from (hb1.block b tSZ).trans (u0e zb HM.out))
  clear hb1
  obtain ⟨_,_,_,_⟩:=u0a (q:=w.heap.size) HA1.out (u0h rfl) hns
  have HG1:=hid (u0j (u0n (u0r w (some b)) _) HA1.out)
  have zz1:=HA1.out.size
  (try simp only [u0c] at zz1)
  go_wp2_with fail
  go_ret
  exact ⟨by simp [h6] <;> (intros; omega),HG1.out,_,_,HM1.out,fun h=>by (try simp [h6] at h) <;> (try omega)⟩
 cases ba
 ·go_enter Tryz.func97,Tryz.ntmps97
  go_wp2_with fail
  refine (u5x _ _ hx _ HN.out).mono ?_
  rintro e w1 ⟨rfl,hb1⟩
  have HA1:=hid (u0f hb1 (some b))
  have HM1:=hid (show Mz w1 b p d from (hb1.block b tSZ).trans (u0e zb HM.out))
  clear hb1
  obtain ⟨_,_,_,_⟩:=u0a (q:=w.heap.size) HA1.out (u0h rfl) hns
  have HG1:=hid (u0j (u0n (u0r w (some b)) _) HA1.out)
  have zz1:=HA1.out.size
  (try simp only [u0c] at zz1)
  go_wp2_with fail
  have hall:=allN_b _ base w1 _ _ _ (by omega) (by omega) (u1m u4a (u1z HG1.out hb zb) HP.out) hxs (by omega)
  rw [HAL.out] at hall
  refine hall.mono ?_
  rintro e w2 ⟨rfl,hb2⟩
  have HA2:=hid (u0j HA1.out (u0f hb2 (some b)))
  have HM2:=hid (show Mz w2 b p d from (hb2.block b (by omega)).trans HM1.out)
  clear hb2 hall
  obtain ⟨_,_,_,_⟩:=u0a (q:=w.heap.size) HA2.out (u0h rfl) hns
  have HG2:=hid (u0j (u0n (u0r w (some b)) _) HA2.out)
  have zz2:=HA2.out.size
  (try simp only [u0c] at zz2)
  go_wp2_with fail
  go_ret
  exact ⟨by simp [] <;> (intros; omega),HG2.out,_,_,HM2.out,fun h=>by (try simp [] at h) <;> (try omega)⟩
 go_enter Tryz.func97,Tryz.ntmps97
 go_wp2_with fail
 refine (u5x _ _ hx _ HN.out).mono ?_
 rintro e w1 ⟨rfl,hb1⟩
 have HA1:=hid (u0f hb1 (some b))
 have HM1:=hid (show Mz w1 b p d from (hb1.block b tSZ).trans (u0e zb HM.out))
 clear hb1
 obtain ⟨_,_,_,_⟩:=u0a (q:=w.heap.size) HA1.out (u0h rfl) hns
 have HG1:=hid (u0j (u0n (u0r w (some b)) _) HA1.out)
 have zz1:=HA1.out.size
 (try simp only [u0c] at zz1)
 go_wp2_with fail
 have hall:=allN_b _ base w1 _ _ _ (by omega) (by omega) (u1m u4a (u1z HG1.out hb zb) HP.out) hxs (by omega)
 rw [HAL.out] at hall
 refine hall.mono ?_
 rintro e w2 ⟨rfl,hb2⟩
 have HA2:=hid (u0j HA1.out (u0f hb2 (some b)))
 have HM2:=hid (show Mz w2 b p d from (hb2.block b (by omega)).trans HM1.out)
 clear hb2 hall
 obtain ⟨_,_,_,_⟩:=u0a (q:=w.heap.size) HA2.out (u0h rfl) hns
 have HG2:=hid (u0j (u0n (u0r w (some b)) _) HA2.out)
 have zz2:=HA2.out.size
 (try simp only [u0c] at zz2)
 go_wp2_with fail
 have hst:=stmts_s _ (css_all _) b base 1 p d w2 _ _ _ HM2.out hb h10 hp (by omega) (by omega) (HT.out.keep HG2.out (by omega)) (u1v (u1z HG2.out hb zb) HS.out) hgb hbl
 rw [HL.out] at hst
 refine hst.mono ?_
 rintro e w3 ⟨rfl,hg3,p3,d3,hm3,hpd⟩
 have HG3:=hid (u0j HG2.out hg3)
 have HPD:=hid hpd
 have HM3:=hid hm3
 clear hg3 hm3 hpd hst
 go_wp2_with fail
 go_ret
 exact ⟨by simp [h6],HG3.out,_,_,HM3.out,fun h=>HPD.out (by simpa [h6] using h)⟩
theorem kernel_m (f:Kr) (b base:Nat) (p d:Int) (w:World) (A:Option Addr) (m c:Nat) (B:Option Addr) (mb cb:Nat) (C:Option Addr) (mc cc:Nat) (hm:Mz w b p d) (hb:base≤b) (h10:10≤base) (hp:0≤p∧p≤400) (hd:0≤d) (hT:Tabs w)
  (hps:SlR rdP 2 (fun g=>g<base) w (.slice A m c) f.params) (hds:SlR rdA 2 (fun g=>g<base) w (.slice B mb cb) f.shared) (hs:SlS w (fun g=>g<base) (.slice C mc cc) f.body) (hg:rgK f) :
  Calls Tryz.prog 99 #[.pointer (some ⟨b,0,none⟩),.agg #[.string (bs f.name),.slice A m c,.slice B mb cb,.slice C mc cc]] w (Meas b w (fitK p f) (p+u0u f.body) (newD d 1 (u1n f.body) (u3v f.body))):=by
 obtain ⟨name,params,shared,body⟩:=f
 have hml:=hps.len
 have hdl:=hds.len
 have hbl':=u7g hs
 simp only at hml hdl hbl'
 subst hml; subst hdl; subst hbl'
 obtain ⟨hx,hxs,_,hys,_,hbl,hgb⟩:=hg
 simp only at hx hxs hys hbl hgb
 have zb:=(Array.getElem?_eq_some_iff.1 (show w.heap[b]? = _ from hm)).1
 have hns:w.heap.size≠b:=by omega
 have HM:=hid hm
 have HT:=hid hT
 have HP:=hid hps
 have HD:=hid hds
 have HS:=hid hs
 unfold fitK
 simp only
 obtain ⟨bn,h1⟩:∃ x,u0o name=x:=⟨_,rfl⟩
 obtain ⟨ba,h2⟩:∃ x,params.all parB=x:=⟨_,rfl⟩
 obtain ⟨bd,h4⟩:∃ x,shared.all arrB=x:=⟨_,rfl⟩
 obtain ⟨bl,h3⟩:∃ x,u6d u0o p 1 body=x:=⟨_,rfl⟩
 rw [h1,h2,h3,h4]
 have HN:=hid h1
 have HAL:=hid h2
 have HDL:=hid h4
 have HL:=hid h3
 clear hm hT hps hds hs h1 h2 h3 h4
 cases bn
 ·go_enter Tryz.func99,Tryz.ntmps99
  go_wp2_with fail
  refine (u5x _ _ hx _ HN.out).mono ?_
  rintro e w1 ⟨rfl,hb1⟩
  have HA1:=hid (u0f hb1 (some b))
  have HM1:=hid (show Mz w1 b p d from (hb1.block b tSZ).trans (u0e zb HM.out))
  clear hb1
  obtain ⟨_,_,_,_⟩:=u0a (q:=w.heap.size) HA1.out (u0h rfl) hns
  have HG1:=hid (u0j (u0n (u0r w (some b)) _) HA1.out)
  have zz1:=HA1.out.size
  (try simp only [u0c] at zz1)
  go_wp2_with fail
  go_ret
  exact ⟨by simp [] <;> (intros; omega),HG1.out,_,_,HM1.out,fun h=>by (try simp [] at h) <;> (try omega)⟩
 by_cases h6:params.length≤6
 rotate_left 1
 ·go_enter Tryz.func99,Tryz.ntmps99
  go_wp2_with fail
  refine (u5x _ _ hx _ HN.out).mono ?_
  rintro e w1 ⟨rfl,hb1⟩
  have HA1:=hid (u0f hb1 (some b))
  have HM1:=hid (show Mz w1 b p d from (hb1.block b tSZ).trans (u0e zb HM.out))
  clear hb1
  obtain ⟨_,_,_,_⟩:=u0a (q:=w.heap.size) HA1.out (u0h rfl) hns
  have HG1:=hid (u0j (u0n (u0r w (some b)) _) HA1.out)
  have zz1:=HA1.out.size
  (try simp only [u0c] at zz1)
  go_wp2_with fail
  go_ret
  exact ⟨by simp [h6] <;> (intros; omega),HG1.out,_,_,HM1.out,fun h=>by (try simp [h6] at h) <;> (try omega)⟩
 cases ba
 ·go_enter Tryz.func99,Tryz.ntmps99
  go_wp2_with fail
  refine (u5x _ _ hx _ HN.out).mono ?_
  rintro e w1 ⟨rfl,hb1⟩
  have HA1:=hid (u0f hb1 (some b))
  have HM1:=hid (show Mz w1 b p d from (hb1.block b tSZ).trans (u0e zb HM.out))
  clear hb1
  obtain ⟨_,_,_,_⟩:=u0a (q:=w.heap.size) HA1.out (u0h rfl) hns
  have HG1:=hid (u0j (u0n (u0r w (some b)) _) HA1.out)
  have zz1:=HA1.out.size
  (try simp only [u0c] at zz1)
  go_wp2_with fail
  have hall:=allP_b _ base w1 _ _ _ (by omega) (by omega) (u1m u3d (u1z HG1.out hb zb) HP.out) hxs (by omega)
  rw [HAL.out] at hall
  refine hall.mono ?_
  rintro e w2 ⟨rfl,hb2⟩
  have HA2:=hid (u0j HA1.out (u0f hb2 (some b)))
  have HM2:=hid (show Mz w2 b p d from (hb2.block b (by omega)).trans HM1.out)
  clear hb2 hall
  obtain ⟨_,_,_,_⟩:=u0a (q:=w.heap.size) HA2.out (u0h rfl) hns
  have HG2:=hid (u0j (u0n (u0r w (some b)) _) HA2.out)
  have zz2:=HA2.out.size
  (try simp only [u0c] at zz2)
  go_wp2_with fail
  go_ret
  exact ⟨by simp [] <;> (intros; omega),HG2.out,_,_,HM2.out,fun h=>by (try simp [] at h) <;> (try omega)⟩
 by_cases h4:shared.length≤4
 rotate_left 1
 ·go_enter Tryz.func99,Tryz.ntmps99
  go_wp2_with fail
  refine (u5x _ _ hx _ HN.out).mono ?_
  rintro e w1 ⟨rfl,hb1⟩
  have HA1:=hid (u0f hb1 (some b))
  have HM1:=hid (show Mz w1 b p d from (hb1.block b tSZ).trans (u0e zb HM.out))
  clear hb1
  obtain ⟨_,_,_,_⟩:=u0a (q:=w.heap.size) HA1.out (u0h rfl) hns
  have HG1:=hid (u0j (u0n (u0r w (some b)) _) HA1.out)
  have zz1:=HA1.out.size
  (try simp only [u0c] at zz1)
  go_wp2_with fail
  have hall:=allP_b _ base w1 _ _ _ (by omega) (by omega) (u1m u3d (u1z HG1.out hb zb) HP.out) hxs (by omega)
  rw [HAL.out] at hall
  refine hall.mono ?_
  rintro e w2 ⟨rfl,hb2⟩
  have HA2:=hid (u0j HA1.out (u0f hb2 (some b)))
  have HM2:=hid (show Mz w2 b p d from (hb2.block b (by omega)).trans HM1.out)
  clear hb2 hall
  obtain ⟨_,_,_,_⟩:=u0a (q:=w.heap.size) HA2.out (u0h rfl) hns
  have HG2:=hid (u0j (u0n (u0r w (some b)) _) HA2.out)
  have zz2:=HA2.out.size
  (try simp only [u0c] at zz2)
  go_wp2_with fail
  go_ret
  exact ⟨by simp [h4] <;> (intros; omega),HG2.out,_,_,HM2.out,fun h=>by (try simp [h4] at h) <;> (try omega)⟩
 cases bd
 ·go_enter Tryz.func99,Tryz.ntmps99
  go_wp2_with fail
  refine (u5x _ _ hx _ HN.out).mono ?_
  rintro e w1 ⟨rfl,hb1⟩
  have HA1:=hid (u0f hb1 (some b))
  have HM1:=hid (show Mz w1 b p d from (hb1.block b tSZ).trans (u0e zb HM.out))
  clear hb1
  obtain ⟨_,_,_,_⟩:=u0a (q:=w.heap.size) HA1.out (u0h rfl) hns
  have HG1:=hid (u0j (u0n (u0r w (some b)) _) HA1.out)
  have zz1:=HA1.out.size
  (try simp only [u0c] at zz1)
  go_wp2_with fail
  have hall:=allP_b _ base w1 _ _ _ (by omega) (by omega) (u1m u3d (u1z HG1.out hb zb) HP.out) hxs (by omega)
  rw [HAL.out] at hall
  refine hall.mono ?_
  rintro e w2 ⟨rfl,hb2⟩
  have HA2:=hid (u0j HA1.out (u0f hb2 (some b)))
  have HM2:=hid (show Mz w2 b p d from (hb2.block b (by omega)).trans HM1.out)
  clear hb2 hall
  obtain ⟨_,_,_,_⟩:=u0a (q:=w.heap.size) HA2.out (u0h rfl) hns
  have HG2:=hid (u0j (u0n (u0r w (some b)) _) HA2.out)
  have zz2:=HA2.out.size
  (try simp only [u0c] at zz2)
  go_wp2_with fail
  have hall:=allA_b _ base w2 _ _ _ (by omega) (by omega) (u1m u4g (u1z HG2.out hb zb) HD.out) hys (by omega)
  rw [HDL.out] at hall
  refine hall.mono ?_
  rintro e w3 ⟨rfl,hb3⟩
  have HA3:=hid (u0j HA2.out (u0f hb3 (some b)))
  have HM3:=hid (show Mz w3 b p d from (hb3.block b (by omega)).trans HM2.out)
  clear hb3 hall
  obtain ⟨_,_,_,_⟩:=u0a (q:=w.heap.size) HA3.out (u0h rfl) hns
  have HG3:=hid (u0j (u0n (u0r w (some b)) _) HA3.out)
  have zz3:=HA3.out.size
  (try simp only [u0c] at zz3)
  go_wp2_with fail
  go_ret
  exact ⟨by simp [] <;> (intros; omega),HG3.out,_,_,HM3.out,fun h=>by (try simp [] at h) <;> (try omega)⟩
 go_enter Tryz.func99,Tryz.ntmps99
 go_wp2_with fail
 refine (u5x _ _ hx _ HN.out).mono ?_
 rintro e w1 ⟨rfl,hb1⟩
 have HA1:=hid (u0f hb1 (some b))
 have HM1:=hid (show Mz w1 b p d from (hb1.block b tSZ).trans (u0e zb HM.out))
 clear hb1
 obtain ⟨_,_,_,_⟩:=u0a (q:=w.heap.size) HA1.out (u0h rfl) hns
 have HG1:=hid (u0j (u0n (u0r w (some b)) _) HA1.out)
 have zz1:=HA1.out.size
 (try simp only [u0c] at zz1)
 go_wp2_with fail
 have hall:=allP_b _ base w1 _ _ _ (by omega) (by omega) (u1m u3d (u1z HG1.out hb zb) HP.out) hxs (by omega)
 rw [HAL.out] at hall
 refine hall.mono ?_
 rintro e w2 ⟨rfl,hb2⟩
 have HA2:=hid (u0j HA1.out (u0f hb2 (some b)))
 have HM2:=hid (show Mz w2 b p d from (hb2.block b (by omega)).trans HM1.out)
 clear hb2 hall
 obtain ⟨_,_,_,_⟩:=u0a (q:=w.heap.size) HA2.out (u0h rfl) hns
 have HG2:=hid (u0j (u0n (u0r w (some b)) _) HA2.out)
 have zz2:=HA2.out.size
 (try simp only [u0c] at zz2)
 go_wp2_with fail
 have hall:=allA_b _ base w2 _ _ _ (by omega) (by omega) (u1m u4g (u1z HG2.out hb zb) HD.out) hys (by omega)
 rw [HDL.out] at hall
 refine hall.mono ?_
 rintro e w3 ⟨rfl,hb3⟩
 have HA3:=hid (u0j HA2.out (u0f hb3 (some b)))
 have HM3:=hid (show Mz w3 b p d from (hb3.block b (by omega)).trans HM2.out)
 clear hb3 hall
 obtain ⟨_,_,_,_⟩:=u0a (q:=w.heap.size) HA3.out (u0h rfl) hns
 have HG3:=hid (u0j (u0n (u0r w (some b)) _) HA3.out)
 have zz3:=HA3.out.size
 (try simp only [u0c] at zz3)
 go_wp2_with fail
 have hst:=stmts_s _ (css_all _) b base 1 p d w3 _ _ _ HM3.out hb h10 hp (by omega) (by omega) (HT.out.keep HG3.out (by omega)) (u1v (u1z HG3.out hb zb) HS.out) hgb hbl
 rw [HL.out] at hst
 refine hst.mono ?_
 rintro e w4 ⟨rfl,hg4,p3,d3,hm3,hpd⟩
 have HG4:=hid (u0j HG3.out hg4)
 have HPD:=hid hpd
 have HM4:=hid hm3
 clear hg4 hm3 hpd hst
 go_wp2_with fail
 go_ret
 exact ⟨by simp [h6,h4],HG4.out,_,_,HM4.out,fun h=>HPD.out (by simpa [h6,h4] using h)⟩
end Go.Proofs.YtbkhnilbgocpnaaGreatDoor.SynC
