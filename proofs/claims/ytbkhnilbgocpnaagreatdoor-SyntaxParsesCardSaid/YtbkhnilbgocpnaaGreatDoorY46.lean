import Derived.Test.YtbkhnilbgocpnaaGreatDoorY0
import Derived.Test.YtbkhnilbgocpnaaGreatDoorY44
import Derived.Test.YtbkhnilbgocpnaaGreatDoorY45
import Derived.Test.YtbkhnilbgocpnaaGreatDoorY28
import Derived.Test.YtbkhnilbgocpnaaGreatDoorY49
set_option linter.unusedVariables false
set_option linter.unusedSimpArgs false
set_option maxRecDepth 100000
set_option maxHeartbeats 2000000
open Go.Lib (hid)
namespace Go.Proofs.YtbkhnilbgocpnaaGreatDoor.SynC
open Go.Proofs.YtbkhnilbgocpnaaGreatDoor.LexC
open Go Go.ChangeShapes Go.WideShapes Go.ChangeAt Go.RowKit Go.Deep
theorem ret_ms3 {fn:Func} {R:Ending→World→Prop} {a:Act} {W:World} {q s:Nat} {v0 v1 v2:Value} {fr:Nat × Nat} (hr:fn.results=#[ResultVar.cell s 101]) (hd:a.defers=[])
  (hs:a.tmps.getD s undef=.pointer (some ⟨q,0,none⟩)) (hq:W.heap[q]? = some (.cells #[v0,v1,v2] 101 fr)) (h:R (.returned (.agg #[v0,v1,v2])) W):bodyPost Tryz.prog fn R Exit.ret a W:=by
 have c:∀ j,W.cell? ⟨q,j,none⟩=#[v0,v1,v2][j]?:=fun j=>cell_of_row _ _ j _ _ _ hq
 refine bodyPost_ret (v:=.agg #[v0,v1,v2]) ?_ hd h
 rw [Array.getD_eq_getD_getElem?] at hs
 simp [results,hr,go_sem,hs,c]
theorem szO_on {α:Type} {hd:α→Bool} {bd:α→List St} {m:Ms} {a:α} (h:hd a=true):szO hd bd m a=(mSs u0f ⟨m.parts,m.depth,true⟩ 1 0 (bd a)).1:=by unfold szO; rw [if_pos h]
theorem szO_no {α:Type} {hd:α→Bool} {bd:α→List St} {m:Ms} {a:α} (h:hd a=false):szO hd bd m a=⟨m.parts,m.depth,false⟩:=by unfold szO; rw [if_neg (by rw [h]; simp)]
def szW (w:World) (v0 v1:Value):World:=((w.alloc (.cells #[v0,v1] 26)).alloc (.cells #[.int .i64 0,.int .i64 0,.bool false] 101)).alloc (.cells #[.int .i64 0,.int .i64 0,.bool true] 101)
theorem sized_56 (q:Pg) (w:World) (A:Option Addr) (m c:Nat) (B:Option Addr) (mb cb:Nat) (hp:PgAr w A m c B mb cb q) :
  Calls Tryz.prog 56 #[.agg #[.slice A m c,.slice B mb cb]] w fun e w'=>e=.returned (.agg #[.int .i64 (szP q).parts,.int .i64 (szP q).depth,.bool (szP q).right])∧Below w.heap.size w w':=by
 obtain ⟨fns,krs⟩:=q
 obtain ⟨hf,hk,hgf,hgk,hlf,hlk⟩:=hp
 simp only at *
 have z1:=hf.len
 have z2:=hk.len
 subst z1; subst z2
 have HF:=hid hf
 have HK:=hid hk
 have HGF:=hid hgf
 have HGK:=hid hgk
 obtain ⟨F,hF⟩:∃ F,szL headF (·.body) ⟨0,0,true⟩ fns=F:=⟨_,rfl⟩
 obtain ⟨S,hS⟩:∃ S,szP ⟨fns,krs⟩=S:=⟨_,rfl⟩
 have hS2:S=szL headK (·.body) F krs:=by rw [← hS,← hF]; rfl
 rw [hS]
 have HFF:=hid hF
 have HSS:=hid hS2
 clear hf hk hgf hgk hF hS hS2
 go_enter Tryz.func56,Tryz.ntmps56
 go_wp2_with fail
 obtain ⟨W0,hW0⟩:∃ W0,W0=szW w (.slice A fns.length c) (.slice B krs.length cb):=⟨_,rfl⟩
 have hbw0:Below w.heap.size w W0:=by rw [hW0]; unfold szW; exact tBEL
 have hz0:W0.heap.size=w.heap.size+3:=by rw [hW0]; unfold szW; simp
 have hbox:W0.heap[w.heap.size]? = some (.cells #[.slice A fns.length c,.slice B krs.length cb] 26 (0,0)):=by rw [hW0]; unfold szW; exact tLOC
 have hres:W0.heap[w.heap.size+1]? = some (.cells #[.int .i64 0,.int .i64 0,.bool false] 101 (0,0)):=by rw [hW0]; unfold szW; exact tLOC
 have hmr0:Mr W0 (w.heap.size+2) ⟨0,0,true⟩:=by rw [hW0]; unfold szW Mr; exact tLOC
 have HBW0:=hid hbw0
 have HBOX:=hid hbox
 have HRES:=hid hres
 have HMR0:=hid hmr0
 have HW0:=hid hW0
 have hgw0:W0.grownBy (szW w (.slice A fns.length c) (.slice B krs.length cb)) (some (w.heap.size+2)):=by rw [← hW0]; exact u0q _ _
 have hmw0:Mr (szW w (.slice A fns.length c) (.slice B krs.length cb)) (w.heap.size+2) ⟨0,0,true⟩:=by rw [← hW0]; exact hmr0
 have HGW0:=hid hgw0
 have HMW0:=hid hmw0
 clear hbw0 hbox hres hmr0 hW0 hgw0 hmw0
 go_loopw [4] (fun i wr=>∃ (k:Nat) (M:Ms),k≤fns.length∧i=.int .i64 k∧Mr wr (w.heap.size+2) M∧W0.grownBy wr (some (w.heap.size+2))∧Sml M∧F=szL headF (·.body) M (fns.drop k)) (fun i _=>fns.length - (intOf i).toNat)
 case atStart=>exact ⟨0,⟨0,0,true⟩,Nat.zero_le _,rfl,HMW0.out,HGW0.out,by refine ⟨?_,?_,fun _=>?_⟩ <;> simp,by rw [List.drop_zero]; exact HFF.out.symm⟩
 case round =>
  obtain ⟨k,M,hk,rfl,hmr,hgr,hsm,heq⟩:=hrel
  obtain ⟨wo,rfl⟩:∃ z,z=wr:=⟨_,rfl⟩
  have hzr:=hgr.size
  have zbo:w.heap.size+2<wo.heap.size:=by omega
  have lx:=hkeep hgr HBOX.out (by omega)
  have xb0:=cell_of_row _ _ 0 _ _ _ lx
  have xb1:=cell_of_row _ _ 1 _ _ _ lx
  have hbo:Below w.heap.size w wo:=HBW0.out.trans (u2g hgr (by omega) (by omega))
  obtain ⟨qm,_,_⟩:=u0i (show wo.heap[w.heap.size+2]? = _ from hmr)
  have qm2:=qm 2
  have HGR:=hid hgr
  have HMR:=hid hmr
  have HQ:=hid heq
  have HSM:=hid hsm
  have HBO:=hid hbo
  clear qm
  by_cases hlt:k<fns.length∧M.right=true
  ·obtain ⟨hlt,hri⟩:=hlt
   rw [hri] at qm2
   obtain ⟨a,ha⟩:∃ a,fns[k]? = some a:=⟨fns[k],List.getElem?_eq_getElem hlt⟩
   obtain ⟨g,o,rfl,_,hPg,hrows⟩:=u2c (by decide) (fun P w cs a h=>⟨.string (bs a.name),by obtain ⟨_,_,_,_,_,_,h,_⟩:=h; subst h; rfl⟩) (u1m u4c hbo HF.out) (by omega)
   obtain ⟨cs,hcs,fA,fm,fc,fB,fm',fc',rfl,hfp,hfb⟩:=hrows k a ha
   have hmem:=List.mem_of_getElem? ha
   have hga:=HGF.out a hmem
   have hm2:=hfp.len
   have hm3:=u4g hfb
   subst hm2
   subst hm3
   have c0:=hcs 0 _ rfl
   have c1:=hcs 1 _ rfl
   have c2':=hcs 2 _ rfl
   simp only [Nat.add_zero] at c0
   have hin:(0:Int)≤k∧(k:Int)<fns.length:=⟨by omega,by omega⟩
   obtain ⟨h1,h2⟩:=List.getElem?_eq_some_iff.1 ha
   have hdr:F=szL headF (·.body) (szO headF (·.body) M a) (fns.drop (k+1)):=by rw [heq,List.drop_eq_getElem_cons h1,h2,szL_on headF (·.body) hri]
   have HDR:=hid hdr
   have HFP:=hid hfp
   have HFB:=hid hfb
   have HGA:=hid hga
   obtain ⟨q,hq⟩:∃ q,u0f a.name=q:=⟨_,rfl⟩
   have HN:=hid (fun w'=>u5l a.name hga.1 w')
   rw [hq] at HN
   obtain ⟨r,hr⟩:∃ r,a.params.all u0f=r:=⟨_,rfl⟩
   have HAN:=hid (fun w' (h:Below wo.heap.size wo w')=>allNames_106 a.params hga.2.1 hga.2.2.1 w' fA a.params.length fc (hfp.keeps u2t (u0w h fun b hb=>by have:b<w.heap.size:=hb; omega) (fun b hb=>by have:b<w.heap.size:=hb; have:=h.size; omega)))
   rw [hr] at HAN
   have hhd:headF a=(q&&decide (a.params.length≤6)&&r):=by rw [← hq,← hr]; rfl
   have HHD:=hid hhd
   have hb1:Below wo.heap.size wo (wo.alloc (.cells #[.string (bs a.name),.slice fA a.params.length fc,.slice fB a.body.length fc'] 71)):=u0j _ _
   have HB1:=hid hb1
   clear hrows hcs ha hfp hfb hmem hga hq hr hhd heq hmr hgr hsm hbo lx hdr h1 h2 hb1
   by_cases hbad:headF a=false
   ·have hsz:szO headF (·.body) M a=⟨M.parts,M.depth,false⟩:=szO_no hbad
    rw [hsz] at HDR
    rw [HHD.out] at hbad
    have HSL:Sml ⟨M.parts,M.depth,false⟩:=⟨HSM.out.1,HSM.out.2.1,fun h=>by cases h⟩
    cases q
    ·go_wp2_with fail
     refine (HN.out _).mono ?_
     rintro e w1 ⟨rfl,hb2⟩
     have HB2:=hid (seq HB1.out hb2)
     have lm:=(HB2.out.block _ zbo).trans HMR.out
     obtain ⟨qn,fn_,_⟩:=u0i lm
     have qn2:=qn 2
     have fn2:=fn_ 2
     have HLM:=hid lm
     clear hb2 qn fn_ lm
     go_wp2
     go_roundw
     case rel=>exact ⟨k+1,⟨M.parts,M.depth,false⟩,by omega,by go_num,st2 HLM.out,u1a (u0b HGR.out (u0d HB2.out _)) (.inl rfl) _,HSL,HDR.out⟩
     case measure=>simp [intOf]; omega
    ·by_cases h6:a.params.length≤6
     ·obtain rfl:r=false:=by simpa [h6] using hbad
      go_wp2_with fail
      refine (HN.out _).mono ?_
      rintro e w1 ⟨rfl,hb2⟩
      obtain ⟨_,_,_,k1⟩:=u0a (q:=wo.heap.size) (u0d hb2 (some (wo.heap.size+10))) (u0c _ _) (by omega)
      have HB2:=hid (seq HB1.out hb2)
      clear hb2
      go_wp2_with fail
      refine (HAN.out _ HB2.out).mono ?_
      rintro e w2 ⟨rfl,hb3⟩
      have HB3:=hid (seq HB2.out hb3)
      have lm:=(HB3.out.block _ zbo).trans HMR.out
      obtain ⟨qn,fn_,_⟩:=u0i lm
      have qn2:=qn 2
      have fn2:=fn_ 2
      have HLM:=hid lm
      clear hb3 qn fn_ lm
      go_wp2
      go_roundw
      case rel=>exact ⟨k+1,⟨M.parts,M.depth,false⟩,by omega,by go_num,st2 HLM.out,u1a (u0b HGR.out (u0d HB3.out _)) (.inl rfl) _,HSL,HDR.out⟩
      case measure=>simp [intOf]; omega
     ·go_wp2_with fail
      refine (HN.out _).mono ?_
      rintro e w1 ⟨rfl,hb2⟩
      obtain ⟨_,_,_,k1⟩:=u0a (q:=wo.heap.size) (u0d hb2 (some (wo.heap.size+10))) (u0c _ _) (by omega)
      have HB2:=hid (seq HB1.out hb2)
      have lm:=(HB2.out.block _ zbo).trans HMR.out
      obtain ⟨qn,fn_,_⟩:=u0i lm
      have qn2:=qn 2
      have fn2:=fn_ 2
      have HLM:=hid lm
      clear hb2 qn fn_ lm
      go_wp2
      go_roundw
      case rel=>exact ⟨k+1,⟨M.parts,M.depth,false⟩,by omega,by go_num,st2 HLM.out,u1a (u0b HGR.out (u0d HB2.out _)) (.inl rfl) _,HSL,HDR.out⟩
      case measure=>simp [intOf]; omega
   ·have hbad:headF a=true:=by simpa using hbad
    have hsz:=szO_on (bd:=(·.body)) (m:=M) hbad
    rw [hsz] at HDR
    rw [HHD.out] at hbad
    simp only [Bool.and_eq_true,decide_eq_true_eq] at hbad
    obtain ⟨⟨rfl,h6⟩,rfl⟩:=hbad
    obtain ⟨R,hR⟩:∃ R,mSs u0f ⟨M.parts,M.depth,true⟩ 1 0 a.body=R:=⟨_,rfl⟩
    have hsR:=(mSs_bd u0f a.body ⟨M.parts,M.depth,true⟩ 1 0 ⟨HSM.out.1,HSM.out.2.1,fun _=>HSM.out.2.2 hri⟩ (by omega) (Int.le_refl _) (by omega)).1
    rw [hR] at HDR hsR
    have HST:=hid (fun w' (h:Below w.heap.size wo w') (hm:Mr w' (w.heap.size+2) ⟨M.parts,M.depth,true⟩)=>rcs_stmts a.body (w.heap.size+2) w.heap.size 1 ⟨M.parts,M.depth,true⟩ w' fB a.body.length fc' hm (by omega) (by omega) (by omega) ⟨HSM.out.1,HSM.out.2.1,fun _=>HSM.out.2.2 hri⟩ (HFB.out.keeps (u0w h fun b hb=>hb) (fun b hb=>hb)) HGA.out.2.2.2.2 HGA.out.2.2.2.1)
    rw [hR] at HST
    have HSR:=hid hsR
    clear hR hsR hsz
    go_wp2_with fail
    refine (HN.out _).mono ?_
    rintro e w1 ⟨rfl,hb2⟩
    obtain ⟨_,_,_,k1⟩:=u0a (q:=wo.heap.size) (u0d hb2 (some (wo.heap.size+10))) (u0c _ _) (by omega)
    have HB2:=hid (seq HB1.out hb2)
    clear hb2
    go_wp2_with fail
    refine (HAN.out _ HB2.out).mono ?_
    rintro e w2 ⟨rfl,hb3⟩
    obtain ⟨_,_,_,k2⟩:=u0a (q:=wo.heap.size) (u0d hb3 (some (wo.heap.size+w1.heap.size+10))) k1 (by omega)
    have HB3:=hid (seq HB2.out hb3)
    have lm:=(HB3.out.block _ zbo).trans HMR.out
    obtain ⟨qn,fn_,_⟩:=u0i lm
    have qn2:=qn 2
    have fn2:=fn_ 2
    have HLM:=hid lm
    clear hb3 qn fn_ lm
    go_wp2_with fail
    refine (HST.out _ (Below.setCell (HB3.out.mono (by omega)) (by show _≤w.heap.size+2; omega) _) (st2 HLM.out)).mono ?_
    rintro e w4 ⟨rfl,hg4,hm4⟩
    have HG4:=hid (u0b (u1a (u0b HGR.out (u0d HB3.out _)) (.inl rfl) _) hg4)
    have HM4:=hid hm4
    clear hg4 hm4
    go_wp2
    go_roundw
    case rel=>exact ⟨k+1,R.1,by omega,by go_num,HM4.out,HG4.out,HSR.out,HDR.out⟩
    case measure=>simp [intOf]; omega
  ·have hFM:F=M:=by
    rw [heq]
    by_cases hl:k<fns.length
    ·exact szL_off _ _ (by cases h:M.right with
      | false=>rfl
      | true=>exact absurd ⟨hl,h⟩ hlt)
    ·rw [List.drop_eq_nil_of_le (by omega)]; rfl
   have hSS:=HSS.out
   rw [hFM] at hSS
   have HSS2:=hid hSS
   have hor:(¬ k<fns.length)∨(k<fns.length∧M.right=false):=by
    by_cases hl:k<fns.length
    ·exact .inr ⟨hl,by cases h:M.right with
      | false=>rfl
      | true=>exact absurd ⟨hl,h⟩ hlt⟩
    ·exact .inl hl
   clear hlt hFM hSS HSS heq hmr hgr hsm hbo lx HQ
   rcases hor with hlt | ⟨hlt,hri⟩
   rotate_left 1
   rw [hri] at qm2
   all_goals
    go_wp2_with fail
    go_loopw [6] (fun i wr=>∃ (k:Nat) (M:Ms),k≤krs.length∧i=.int .i64 k∧Mr wr (w.heap.size+2) M∧W0.grownBy wr (some (w.heap.size+2))∧Sml M∧S=szL headK (·.body) M (krs.drop k)) (fun i _=>krs.length - (intOf i).toNat)
    case atStart=>exact ⟨0,M,Nat.zero_le _,rfl,HMR.out,HGR.out,HSM.out,by rw [List.drop_zero]; exact HSS2.out⟩
    case round =>
     clear HGR HMR HSM HBO HSS2 qm2 xb0 xb1 zbo hzr hk hlt
     obtain ⟨k,M,hk,rfl,hmr,hgr,hsm,heq⟩:=hrel
     obtain ⟨wo,rfl⟩:∃ z,z=wr:=⟨_,rfl⟩
     have hzr:=hgr.size
     have zbo:w.heap.size+2<wo.heap.size:=by omega
     have lx:=hkeep hgr HBOX.out (by omega)
     have xb1:=cell_of_row _ _ 1 _ _ _ lx
     have hbo:Below w.heap.size w wo:=HBW0.out.trans (u2g hgr (by omega) (by omega))
     obtain ⟨qm,_,_⟩:=u0i (show wo.heap[w.heap.size+2]? = _ from hmr)
     have qm0:=qm 0
     have qm1:=qm 1
     have qm2:=qm 2
     have HGR:=hid hgr
     have HMR:=hid hmr
     have HQ:=hid heq
     have HSM:=hid hsm
     have HBO:=hid hbo
     clear qm
     by_cases hlt:k<krs.length∧M.right=true
     ·obtain ⟨hlt,hri⟩:=hlt
      rw [hri] at qm2
      obtain ⟨a,ha⟩:∃ a,krs[k]? = some a:=⟨krs[k],List.getElem?_eq_getElem hlt⟩
      obtain ⟨g,o,rfl,_,hPg,hrows⟩:=u2c (by decide) (fun P w cs a h=>⟨.string (bs a.name),by obtain ⟨_,_,_,_,_,_,_,_,_,h,_⟩:=h; subst h; rfl⟩) (u1m u4j hbo HK.out) (by omega)
      obtain ⟨cs,hcs,fA,fm,fc,fB,fm',fc',fC,fm'',fc'',rfl,hfp,hfd,hfb⟩:=hrows k a ha
      have hmem:=List.mem_of_getElem? ha
      have hga:=HGK.out a hmem
      have hm2:=hfp.len
      have hm4:=hfd.len
      have hm3:=u4g hfb
      subst hm2
      subst hm4
      subst hm3
      have c0:=hcs 0 _ rfl
      have c1:=hcs 1 _ rfl
      have c2':=hcs 2 _ rfl
      have c3:=hcs 3 _ rfl
      simp only [Nat.add_zero] at c0
      have hin:(0:Int)≤k∧(k:Int)<krs.length:=⟨by omega,by omega⟩
      obtain ⟨h1,h2⟩:=List.getElem?_eq_some_iff.1 ha
      have hdr:S=szL headK (·.body) (szO headK (·.body) M a) (krs.drop (k+1)):=by rw [heq,List.drop_eq_getElem_cons h1,h2,szL_on headK (·.body) hri]
      have HDR:=hid hdr
      have HFB:=hid hfb
      have HGA:=hid hga
      obtain ⟨q,hq⟩:∃ q,headK a=q:=⟨_,rfl⟩
      have HHD:=hid (fun w' (h:Below wo.heap.size wo w')=>head_108 a hga w' fA a.params.length fc fB a.shared.length fc' (hfp.keeps u2l (u0w h fun b hb=>by have:b<w.heap.size:=hb; omega) (fun b hb=>by have:b<w.heap.size:=hb; have:=h.size; omega)) (hfd.keeps u2z (u0w h fun b hb=>by have:b<w.heap.size:=hb; omega) (fun b hb=>by have:b<w.heap.size:=hb; have:=h.size; omega)))
      rw [hq] at HHD
      have HQH:=hid hq
      have hb1:Below wo.heap.size wo (wo.alloc (.cells #[.string (bs a.name),.slice fA a.params.length fc,.slice fB a.shared.length fc',.slice fC a.body.length fc''] 75)):=u0j _ _
      have HB1:=hid hb1
      clear hrows hcs ha hfp hfd hfb hmem hga hq heq hmr hgr hsm hbo lx hdr h1 h2 hb1
      cases q
      ·have hsz:szO headK (·.body) M a=⟨M.parts,M.depth,false⟩:=szO_no HQH.out
       rw [hsz] at HDR
       have HSL:Sml ⟨M.parts,M.depth,false⟩:=⟨HSM.out.1,HSM.out.2.1,fun h=>by cases h⟩
       go_wp2_with fail
       refine (HHD.out _ HB1.out).mono ?_
       rintro e w1 ⟨rfl,hb2⟩
       have HB2:=hid (seq HB1.out hb2)
       have lm:=(HB2.out.block _ zbo).trans HMR.out
       obtain ⟨qn,fn_,_⟩:=u0i lm
       have qn2:=qn 2
       have fn2:=fn_ 2
       have HLM:=hid lm
       clear hb2 qn fn_ lm hsz
       go_wp2
       go_roundw
       case rel=>exact ⟨k+1,⟨M.parts,M.depth,false⟩,by omega,by go_num,st2 HLM.out,u1a (u0b HGR.out (u0d HB2.out _)) (.inl rfl) _,HSL,HDR.out⟩
       case measure=>simp [intOf]; omega
      ·have hsz:=szO_on (bd:=(·.body)) (m:=M) HQH.out
       rw [hsz] at HDR
       obtain ⟨R,hR⟩:∃ R,mSs u0f ⟨M.parts,M.depth,true⟩ 1 0 a.body=R:=⟨_,rfl⟩
       have hsR:=(mSs_bd u0f a.body ⟨M.parts,M.depth,true⟩ 1 0 ⟨HSM.out.1,HSM.out.2.1,fun _=>HSM.out.2.2 hri⟩ (by omega) (Int.le_refl _) (by omega)).1
       rw [hR] at HDR hsR
       have HST:=hid (fun w' (h:Below w.heap.size wo w') (hm:Mr w' (w.heap.size+2) ⟨M.parts,M.depth,true⟩)=>rcs_stmts a.body (w.heap.size+2) w.heap.size 1 ⟨M.parts,M.depth,true⟩ w' fC a.body.length fc'' hm (by omega) (by omega) (by omega) ⟨HSM.out.1,HSM.out.2.1,fun _=>HSM.out.2.2 hri⟩ (HFB.out.keeps (u0w h fun b hb=>hb) (fun b hb=>hb)) HGA.out.2.2.2.2.2.2 HGA.out.2.2.2.2.2.1)
       rw [hR] at HST
       have HSR:=hid hsR
       clear hR hsR hsz
       go_wp2_with fail
       refine (HHD.out _ HB1.out).mono ?_
       rintro e w1 ⟨rfl,hb2⟩
       obtain ⟨_,_,_,k1⟩:=u0a (q:=wo.heap.size) (u0d hb2 (some (wo.heap.size+10))) (u0c _ _) (by omega)
       have HB2:=hid (seq HB1.out hb2)
       have lm:=(HB2.out.block _ zbo).trans HMR.out
       obtain ⟨qn,fn_,_⟩:=u0i lm
       have qn2:=qn 2
       have fn2:=fn_ 2
       have HLM:=hid lm
       clear hb2 qn fn_ lm
       go_wp2_with fail
       refine (HST.out _ (Below.setCell (HB2.out.mono (by omega)) (by show _≤w.heap.size+2; omega) _) (st2 HLM.out)).mono ?_
       rintro e w4 ⟨rfl,hg4,hm4⟩
       have HG4:=hid (u0b (u1a (u0b HGR.out (u0d HB2.out _)) (.inl rfl) _) hg4)
       have HM4:=hid hm4
       clear hg4 hm4
       go_wp2
       go_roundw
       case rel=>exact ⟨k+1,R.1,by omega,by go_num,HM4.out,HG4.out,HSR.out,HDR.out⟩
       case measure=>simp [intOf]; omega
     ·have hFM:S=M:=by
       rw [heq]
       by_cases hl:k<krs.length
       ·exact szL_off _ _ (by cases h:M.right with
         | false=>rfl
         | true=>exact absurd ⟨hl,h⟩ hlt)
       ·rw [List.drop_eq_nil_of_le (by omega)]; rfl
      have hor:(¬ k<krs.length)∨(k<krs.length∧M.right=false):=by
       by_cases hl:k<krs.length
       ·exact .inr ⟨hl,by cases h:M.right with
         | false=>rfl
         | true=>exact absurd ⟨hl,h⟩ hlt⟩
       ·exact .inl hl
      have lr:=hkeep hgr HRES.out (by omega)
      obtain ⟨qr,fr,_⟩:=u0i lr
      have qr0:=qr 0
      have qr1:=qr 1
      have qr2:=qr 2
      have fr0:=fr 0
      have fr1:=fr 1
      have fr2:=fr 2
      have HLR:=hid lr
      have HFM:=hid hFM
      clear hlt hFM heq hmr hgr hsm hbo lx HQ lr qr fr
      rcases hor with hlt | ⟨hlt,hri⟩
      ·go_wp2_with (refine ret_ms3 rfl rfl rfl (put3 _ _ _ HLR.out) ?_; exact ⟨by rw [HFM.out],((HBO.out.setCell (by show _≤w.heap.size+1; omega) _).setCell (by show _≤w.heap.size+1; omega) _).setCell (by show _≤w.heap.size+1; omega) _⟩)
      ·rw [hri] at qm2
       go_wp2_with (refine ret_ms3 rfl rfl rfl (put3 _ _ _ HLR.out) ?_; exact ⟨by rw [HFM.out,hri],((HBO.out.setCell (by show _≤w.heap.size+1; omega) _).setCell (by show _≤w.heap.size+1; omega) _).setCell (by show _≤w.heap.size+1; omega) _⟩)
end Go.Proofs.YtbkhnilbgocpnaaGreatDoor.SynC
