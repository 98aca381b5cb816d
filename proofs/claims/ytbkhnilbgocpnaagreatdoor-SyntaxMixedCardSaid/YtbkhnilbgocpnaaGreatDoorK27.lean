import Derived.Deep.RegionHeld3
import Derived.Handy
import Derived.Test.YtbkhnilbgocpnaaGreatDoorK25
import Derived.Test.YtbkhnilbgocpnaaGreatDoorK29
import Derived.Test.YtbkhnilbgocpnaaGreatDoorK24
import Derived.Test.YtbkhnilbgocpnaaGreatDoorK22
set_option linter.unusedVariables false
set_option linter.unusedSimpArgs false
set_option maxRecDepth 100000
set_option maxHeartbeats 2000000
open Go.Lib (hid)
namespace Go.Proofs.YtbkhnilbgocpnaaGreatDoor.SynC
open Go.Proofs.YtbkhnilbgocpnaaGreatDoor.LexC
open Go Go.ChangeShapes Go.WideShapes Go.ChangeAt Go.RowKit Go.Deep
mutual
def cntS:St→Int→Int→Int
 | .mk _ _ x exprs body els,most,n =>
  wrap64 (wrap64 (wrap64 (wrap64 (wrap64 (n+1)+lgB x)+cntL exprs (wrap64 (most - wrap64 (wrap64 (n+1)+lgB x))) 0)+u4z body (wrap64 (most - wrap64 (wrap64 (wrap64 (n+1)+lgB x)+cntL exprs (wrap64 (most - wrap64 (wrap64 (n+1)+lgB x))) 0))) 0)
   + u4z els (wrap64 (most - wrap64 (wrap64 (wrap64 (wrap64 (n+1)+lgB x)+cntL exprs (wrap64 (most - wrap64 (wrap64 (n+1)+lgB x))) 0)+u4z body (wrap64 (most - wrap64 (wrap64 (wrap64 (n+1)+lgB x)+cntL exprs (wrap64 (most - wrap64 (wrap64 (n+1)+lgB x))) 0))) 0))) 0)
def u4z:List St→Int→Int→Int
 | [],_,n=>n
 | s :: r,most,n=>if n≤most then u4z r most (cntS s most n) else n
end
theorem cntS_eq (k o:Int) (x:List UInt8) (exprs:List Ex) (body els:List St) (most n n1 n2 n3:Int) (h1:wrap64 (wrap64 (n+1)+lgB x)=n1) (h2:wrap64 (n1+cntL exprs (wrap64 (most - n1)) 0)=n2) (h3:wrap64 (n2+u4z body (wrap64 (most - n2)) 0)=n3) :
  cntS (.mk k o x exprs body els) most n=wrap64 (n3+u4z els (wrap64 (most - n3)) 0):=by
 rw [cntS,h1,h2,h3]
theorem nmS16 {kind op:Int} {x:List UInt8} {n:Nat} {nb ne:Bool} (h:u3x u0o kind op x n nb ne=true):x.length≤16:=by
 unfold u3x at h
 repeat' split at h
 all_goals (try simp only [Bool.and_eq_true] at h)
 all_goals first | (cases h; done) | skip
 all_goals first | exact name_le h.1.1.1.2 | exact name_le h.1.1.2 | exact (by rw [List.isEmpty_iff.1 h.1.1.1.2]; simp) | exact (by rw [List.isEmpty_iff.1 h.1.1.2]; simp) | exact (by rw [List.isEmpty_iff.1 h.1.2]; simp)
mutual
theorem cntS_ok:(s:St)→∀ most n:Int,okS u0o s=true→0≤n→600+n+u6e s≤most→most≤1000→cntS s most n=n+u6e s
 | .mk kind op x exprs body els,most,n,ho,hn,h1,h2=>by
  rw [okS] at ho
  simp only [Bool.and_eq_true] at ho
  obtain ⟨⟨⟨hs,he⟩,hb⟩,hc⟩:=ho
  rw [u6e] at h1 ⊢
  have p0:=u2p exprs
  have p1:=u1t body
  have p2:=u1t els
  have hlg:=lg_ok (nmS16 hs)
  have e1:wrap64 (wrap64 (n+1)+lgB x)=n+1:=by rw [hlg,w64_id (n:=n+1) (by omega) (by omega),w64_id (by omega) (by omega)]; omega
  have e2:wrap64 (n+1+cntL exprs (wrap64 (most - (n+1))) 0)=n+1+u0x exprs:=by
   rw [w64_id (n:=most - (n+1)) (by omega) (by omega),cntL_ok exprs _ 0 (by rw [okEs_all]; exact he) (by omega) (by omega) (by omega),w64_id (by omega) (by omega)]; omega
  have e3:wrap64 (n+1+u0x exprs+u4z body (wrap64 (most - (n+1+u0x exprs))) 0)=n+1+u0x exprs+u0u body:=by
   rw [w64_id (n:=most - (n+1+u0x exprs)) (by omega) (by omega),cntSs_ok body _ 0 hb (by omega) (by omega) (by omega),w64_id (by omega) (by omega)]; omega
  rw [cntS_eq kind op x exprs body els most n _ _ _ e1 e2 e3,w64_id (n:=most - (n+1+u0x exprs+u0u body)) (by omega) (by omega),cntSs_ok els _ 0 hc (by omega) (by omega) (by omega),w64_id (by omega) (by omega)]
  omega
theorem cntSs_ok:(l:List St)→∀ most n:Int,okSs u0o l=true→0≤n→600+n+u0u l≤most→most≤1000→u4z l most n=n+u0u l
 | [],most,n,_,_,_,_=>by rw [u4z,u0u]; omega
 | s :: r,most,n,ho,hn,h1,h2=>by
  rw [okSs,Bool.and_eq_true] at ho
  rw [u0u] at h1 ⊢
  have p1:=partsS_pos s
  have p2:=u1t r
  rw [u4z,if_pos (by omega),cntS_ok s most n ho.1 hn (by omega) h2,cntSs_ok r most _ ho.2 (by omega) (by omega) h2]
  omega
end
theorem cntSs_drop (l:List St) (k:Nat) (a:St) (most n:Int) (h:l[k]? = some a) (hn:n≤most):u4z (l.drop k) most n=u4z (l.drop (k+1)) most (cntS a most n):=by
 obtain ⟨h1,h2⟩:=List.getElem?_eq_some_iff.1 h
 rw [List.drop_eq_getElem_cons h1,h2,u4z,if_pos hn]
theorem cntSs_stop (l:List St) (most n:Int) (h:l=[]∨¬ n≤most):u4z l most n=n:=by
 cases l with
 | nil=>rw [u4z]
 | cons e r =>
  rcases h with h | h
  ·cases h
  ·rw [u4z,if_neg h]
def CSl (l:List St):Prop:=∀ (w:World) (most:Int) (A:Option Addr) (m c:Nat),SlS w (fun g=>g<w.heap.size) (.slice A m c) l→rgSs l→l.length≤1125899906842624 →
 Calls Tryz.prog 51 #[.slice A m c,.int .i64 most] w fun e' w'=>e'=.returned (.int .i64 (u4z l most 0))∧Below w.heap.size w w'
def CPa:St→Prop
 | .mk _ _ _ _ body els=>CSl body∧CSl els
theorem stmts_l (l:List St) (hl:∀ a∈l,CPa a):CSl l:=by
 intro w most A m c hs hg hll
 have hm1:=u7g hs
 subst hm1
 have HS:=hid hs
 have HL:=hid hl
 have HG:=hid hg
 clear hs hl hg
 obtain ⟨tot,htot⟩:∃ tot,u4z l most 0=tot:=⟨_,rfl⟩
 have HT:=hid htot
 rw [htot]
 clear htot
 go_enter Tryz.func51,Tryz.ntmps51
 go_wp2_with fail
 go_loopw [5,6] (fun n i wr=>∃ (k:Nat) (v:Int),k≤l.length∧i=.int .i64 k∧n=.int .i64 v∧tot=u4z (l.drop k) most v∧Below w.heap.size w wr) (fun _ i _=>l.length - (intOf i).toNat)
 case atStart=>exact ⟨0,0,Nat.zero_le _,rfl,rfl,by rw [List.drop_zero]; exact HT.out.symm,Below.refl _ _⟩
 case round =>
  obtain ⟨k,v,hk,rfl,rfl,htk,hbr⟩:=hrel
  have HTK:=hid htk
  have HBR:=hid hbr
  clear htk
  by_cases hlt:k<l.length
  ·by_cases hm:v≤most
   ·obtain ⟨a,ha⟩:∃ a,l[k]? = some a:=⟨l[k],List.getElem?_eq_getElem hlt⟩
    obtain ⟨g,o,rfl,_,hPg,hrows⟩:=stmts_at (u3w HS.out hbr) (by omega)
    have hmem:=List.mem_of_getElem? ha
    have hsa:=HL.out a hmem
    have hga:=rgSs_at HG.out a hmem
    have hdrop:=cntSs_drop l k a most v ha hm
    obtain ⟨kind,op,name,exprs,body,els⟩:=a
    obtain ⟨sk,so,x,xA,xm,xc,xB,xmb,xcb,xC,xmc,xcc,⟨c0,c1,c2,c3,c4,c5⟩,hrx⟩:=hrows k _ ha
    rw [RS_eq] at hrx
    obtain ⟨E,F,G,hc,hE,hF,hG⟩:=hrx
    cases hc
    rw [rgS] at hga
    have hin:(0:Int)≤k∧(k:Int)<l.length:=⟨by omega,by omega⟩
    obtain ⟨hs1,hs2⟩:=hsa
    obtain ⟨lg,hlg⟩:∃ lg,lgB name=lg:=⟨_,rfl⟩
    have hln:∀ w',Calls Tryz.prog 52 #[.string (bs name)] w' fun e w2=>e=.returned (.int .i64 lg)∧w2=w':=by rw [← hlg]; exact fun w'=>u7z name hga.1 w'
    obtain ⟨n1,h1⟩:∃ n1,wrap64 (wrap64 (v+1)+lg)=n1:=⟨_,rfl⟩
    obtain ⟨r1,hr1⟩:∃ r1,cntL exprs (wrap64 (most - n1)) 0=r1:=⟨_,rfl⟩
    obtain ⟨n2,h2⟩:∃ n2,wrap64 (n1+r1)=n2:=⟨_,rfl⟩
    obtain ⟨r2,hr2⟩:∃ r2,u4z body (wrap64 (most - n2)) 0=r2:=⟨_,rfl⟩
    obtain ⟨n3,h3⟩:∃ n3,wrap64 (n2+r2)=n3:=⟨_,rfl⟩
    obtain ⟨r3,hr3⟩:∃ r3,u4z els (wrap64 (most - n3)) 0=r3:=⟨_,rfl⟩
    have hall:=cntS_eq kind op name exprs body els most v n1 n2 n3 (by rw [hlg]; exact h1) (by rw [hr1]; exact h2) (by rw [hr2]; exact h3)
    rw [hr3] at hall
    rw [hall] at hdrop
    have HD:=hid (HTK.out.trans hdrop)
    have HE:=hid hE
    have HF:=hid hF
    have HGG:=hid hG
    have HS1:=hid hs1
    have HS2:=hid hs2
    have HGA:=hid hga
    have HLN:=hid hln
    have HR1:=hid hr1
    have HR2:=hid hr2
    have HR3:=hid hr3
    clear hrows ha hbr hE hF hG hs1 hs2 hga hmem hlg hln hr1 hr2 hr3 hdrop hall
    have hba:Below wr.heap.size wr (wr.alloc (.cells #[.int .i64 kind,.int .i64 op,.string (bs name),.slice xA xm xc,.slice xB xmb xcb,.slice xC xmc xcc] 136)):=u1e _ _
    go_wp2_with fail
    refine (HLN.out _).mono ?_
    rintro e w1 ⟨rfl,rfl⟩
    go_wp2_with fail
    rw [h1]
    refine (exprs_28 exprs _ _ _ _ _ (sl_bel HE.out hba) HGA.out.2.1.2 HGA.out.2.1.1).mono ?_
    rintro e w1 ⟨rfl,j1,rfl⟩
    rw [HR1.out]
    go_wp2_with fail
    rw [h2]
    have hw1:Below wr.heap.size wr ((wr.alloc (.cells #[.int .i64 kind,.int .i64 op,.string (bs name),.slice xA xm xc,.slice xB xmb xcb,.slice xC xmc xcc] 136)).drewN j1):=u6r hba j1
    refine (HS1.out _ _ _ _ _ (u3w HF.out hw1) HGA.out.2.2.1.2 HGA.out.2.2.1.1).mono ?_
    rintro e w2 ⟨rfl,hb2⟩
    rw [HR2.out]
    obtain ⟨_,_,_,l3⟩:=u0a (q:=wr.heap.size) (u0f hb2 (some (wr.heap.size+10))) (show ((wr.alloc (.cells #[.int .i64 kind,.int .i64 op,.string (bs name),.slice xA xm xc,.slice xB xmb xcb,.slice xC xmc xcc] 136)).drewN j1).heap[wr.heap.size]? = _ from u1d wr _) (by omega)
    have hw2:=seq hw1 hb2
    go_wp2_with fail
    rw [h3]
    refine (HS2.out _ _ _ _ _ (u3w HGG.out hw2) HGA.out.2.2.2.2 HGA.out.2.2.2.1).mono ?_
    rintro e w3 ⟨rfl,hb3⟩
    rw [HR3.out]
    have hw3:=hid (seq hw2 hb3)
    clear hb2 hb3
    go_wp2
    go_roundw
    case rel=>exact ⟨k+1,_,by omega,by go_num,rfl,HD.out,HBR.out.trans (hw3.out.mono HBR.out.size)⟩
    case measure=>simp [intOf]; omega
   ·have hm2:decide (v≤most)=false:=by simpa using hm
    have hstop:=cntSs_stop (l.drop k) most v (.inr hm)
    have HST:=hid (HTK.out.trans hstop)
    clear hstop hbr
    go_wp2
    go_ret
    exact ⟨by rw [HST.out]; rfl,HBR.out⟩
  ·have hd:l.drop k=[]:=List.drop_eq_nil_of_le (by omega)
   have hstop:=cntSs_stop (l.drop k) most v (.inl hd)
   have HST:=hid (HTK.out.trans hstop)
   clear hstop hd hbr
   go_wp2
   go_ret
   exact ⟨by rw [HST.out]; rfl,HBR.out⟩
mutual
theorem cpa_all:(s:St)→CPa s
 | .mk _ _ _ _ body els=>⟨stmts_l body (cpas_all body),stmts_l els (cpas_all els)⟩
theorem cpas_all:(l:List St)→∀ a∈l,CPa a
 | [],_,h=>by cases h
 | e :: r,a,h=>by
  rcases List.mem_cons.1 h with h1 | h1
  ·rw [h1]; exact cpa_all e
  ·exact cpas_all r a h1
end
theorem stmts_51 (l:List St):CSl l:=stmts_l l fun a ha=>cpas_all l a ha
theorem fitFs_at:∀ (l:List Fn) (p:Int),0≤p→fitFs p l=true→∀ f∈l,∃ p',0≤p'∧fitF p' f=true
 | [],_,_,_=>fun _ h=>by cases h
 | f :: r,p,hp,h=>by
  rw [fitFs,Bool.and_eq_true] at h
  intro g hg
  rcases List.mem_cons.1 hg with rfl | hg
  ·exact ⟨p,hp,h.1⟩
  ·exact fitFs_at r _ (by have:=u1t f.body; omega) h.2 g hg
theorem fitKs_at:∀ (l:List Kr) (p:Int),0≤p→fitKs p l=true→∀ f∈l,∃ p',0≤p'∧fitK p' f=true
 | [],_,_,_=>fun _ h=>by cases h
 | f :: r,p,hp,h=>by
  rw [fitKs,Bool.and_eq_true] at h
  intro g hg
  rcases List.mem_cons.1 hg with rfl | hg
  ·exact ⟨p,hp,h.1⟩
  ·exact fitKs_at r _ (by have:=u1t f.body; omega) h.2 g hg
theorem body_nice {p:Int} {l:List St} (hp:0≤p) (h:u6d u0o p 1 l=true):0≤u4z l 1000 0∧u4z l 1000 0≤400:=by
 have h1:=fitSs_ok h
 have h2:=fitSs_le h
 have h3:=u1t l
 rw [cntSs_ok l 1000 0 h1 (by omega) (by omega) (by omega)]
 omega
theorem fn_nice {q:Pg} (h:fitP q=true) {f:Fn} (hf:f∈q.fns):f.params.length≤6∧(∀ x∈f.params,lgB x=0)∧lgB f.name=0∧0≤u4z f.body 1000 0∧u4z f.body 1000 0≤400:=by
 unfold fitP at h
 rw [Bool.and_eq_true] at h
 obtain ⟨p,hp,h⟩:=fitFs_at _ _ (by omega) h.1 f hf
 unfold fitF at h
 simp only [Bool.and_eq_true,decide_eq_true_eq,List.all_eq_true] at h
 obtain ⟨⟨⟨h1,h2⟩,h3⟩,h4⟩:=h
 exact ⟨h2,fun x hx=>lg_ok (name_le (h3 x hx)),lg_ok (name_le h1),body_nice hp h4⟩
theorem kr_nice {q:Pg} (h:fitP q=true) {f:Kr} (hf:f∈q.krs):f.params.length≤6∧(∀ x∈f.params,lgB x.1=0)∧f.shared.length≤4∧(∀ x∈f.shared,lgB x.1=0)∧lgB f.name=0∧0≤u4z f.body 1000 0∧u4z f.body 1000 0≤400:=by
 unfold fitP at h
 rw [Bool.and_eq_true] at h
 obtain ⟨p,hp,h⟩:=fitKs_at _ _ (sumP_pos _) h.2 f hf
 unfold fitK at h
 simp only [Bool.and_eq_true,decide_eq_true_eq,List.all_eq_true] at h
 obtain ⟨⟨⟨⟨⟨h1,h2⟩,h3⟩,h4⟩,h5⟩,h6⟩:=h
 refine ⟨h2,fun x hx=>lg_ok (name_le (h3 x hx)),h4,fun x hx=>?_,lg_ok (name_le h1),body_nice hp h6⟩
 have:=h5 x hx
 simp only [arrB,Bool.and_eq_true] at this
 exact lg_ok (name_le this.1.1)
def NB (q:Pg) (n:Int):Prop:=fitP q=true→((q.fns.length+q.krs.length:Nat):Int)≤n∧n≤4503599627370496
theorem NB.step {q:Pg} {n v:Int} (h:NB q n) (hn:n≤1000) (hv:fitP q=true→0≤n→n≤v∧v≤10000):NB q v:=fun hf=>by
 have h1:=h hf
 have h2:=hv hf (by omega)
 omega
def GP (q:Pg) (w:World) (e:Ending) (w':World):Prop:=(∃ g,e=.returned (.bool g)∧(g=false→fitP q=true→q.fns.length+q.krs.length≤1000))∧Below w.heap.size w w'
theorem great_21 (q:Pg) (w:World) (A:Option Addr) (m c:Nat) (B:Option Addr) (mb cb:Nat) (hp:PgAr w A m c B mb cb q) :
  Calls Tryz.prog 21 #[.agg #[.slice A m c,.slice B mb cb]] w (GP q w):=by
 have z1:=hp.f.len
 have z2:=hp.k.len
 have lf:=hp.lf
 have lk:=hp.lk
 subst z1
 subst z2
 have HP:=hid hp
 clear hp
 go_enter Tryz.func21,Tryz.ntmps21
 go_wp2_with fail
 go_loopw [3,4] (fun n i wr=>∃ (k:Nat) (v:Int),k≤q.fns.length∧i=.int .i64 k∧n=.int .i64 v∧NB q v∧Below (w.heap.size+1) (w.alloc (.cells #[.slice A q.fns.length c,.slice B q.krs.length cb] 26)) wr) (fun _ i _=>q.fns.length - (intOf i).toNat)
 case atStart=>exact ⟨0,_,Nat.zero_le _,rfl,rfl,fun _=>by omega,Below.refl _ _⟩
 case round =>
  obtain ⟨k,v,hk,rfl,rfl,hnb,hbr⟩:=hrel
  obtain ⟨wo,rfl⟩:∃ z,z=wr:=⟨_,rfl⟩
  have hw:Below w.heap.size w wo:=(u1e _ _).trans (hbr.mono (by omega))
  have la:wo.heap[w.heap.size]? = some (.cells #[.slice A q.fns.length c,.slice B q.krs.length cb] 26 (0,0)):=(hbr.block _ (by omega)).trans (u1d _ _)
  have xa0:=cell_of_row _ _ 0 _ _ _ la
  have xa1:=cell_of_row _ _ 1 _ _ _ la
  have HBR:=hid hbr
  have HNB:=hid hnb
  have HW:=hid hw
  have hzr:=hbr.size
  simp only [u0c] at hzr
  by_cases hgo:k<q.fns.length∧v≤1000
  ·obtain ⟨hlt,hv⟩:=hgo
   obtain ⟨a,ha⟩:∃ a,q.fns[k]? = some a:=⟨q.fns[k],List.getElem?_eq_getElem hlt⟩
   obtain ⟨g,o,rfl,_,hPg,hrows⟩:=u2i (by decide) (fun P w cs a h=>⟨.string (bs a.name),by obtain ⟨_,_,_,_,_,_,h,_⟩:=h; subst h; rfl⟩) (HP.out.below hw).f (by omega)
   obtain ⟨cs,hcs,fA,fm,fc,fB,fm',fc',rfl,hfp,hfb⟩:=hrows k a ha
   have hmem:=List.mem_of_getElem? ha
   have hga:=HP.out.gf a hmem
   have hm2:=hfp.len
   have hm3:=u7g hfb
   subst hm2
   subst hm3
   have c0:=hcs 0 _ rfl
   have c1:=hcs 1 _ rfl
   have c2':=hcs 2 _ rfl
   simp only [Nat.add_zero] at c0
   have hin:(0:Int)≤k∧(k:Int)<q.fns.length:=⟨by omega,by omega⟩
   obtain ⟨r1,hr1⟩:∃ r1,u4z a.body 1000 0=r1:=⟨_,rfl⟩
   obtain ⟨lg,hlg⟩:∃ lg,lgB a.name=lg:=⟨_,rfl⟩
   have hba:Below wo.heap.size wo ((wo.alloc (.cells #[.string (bs a.name),.slice fA a.params.length fc,.slice fB a.body.length fc'] 71)).drew):=((Below.refl _ _).alloc (Nat.le_refl _) _).drew
   have HST:=hid (stmts_51 a.body _ 1000 _ _ _ (u3w hfb hba) hga.2.2.2.2 hga.2.2.2.1)
   have hlong:∀ w',Calls Tryz.prog 52 #[.string (bs a.name)] w' fun e w2=>e=.returned (.int .i64 lg)∧w2=w':=by rw [← hlg]; exact fun w'=>u7z a.name hga.1 w'
   have HLN:=hid hlong
   have hpl0:=hga.2.2.1
   have hnice:=fun hf=>fn_nice (q:=q) hf hmem
   rw [hr1,hlg] at hnice
   rw [hr1] at HST
   have HNI:=hid hnice
   have HFP:=hid hfp
   have HGA:=hid hga
   clear hrows ha hcs hfp hfb la hbr hw hnb hmem hga hr1 hlg hlong hnice
   go_wp2_with fail
   go_region_held3 (fun w'=>w'.cell? ⟨wo.heap.size,0,none⟩=some (.string (bs a.name))∧w'.cell? ⟨wo.heap.size,1,none⟩=some (.slice fA a.params.length fc)∧w'.cell? ⟨wo.heap.size,2,none⟩=some (.slice fB a.body.length fc')) (first | exact ⟨by simp,by simp,by simp⟩ | exact ⟨(qc 0).trans rfl,(qc 1).trans rfl,(qc 2).trans rfl⟩) ((first | (go_at_call 52; refine (HLN.out _).mono ?_; rintro e w' ⟨rfl,rfl⟩) | (go_at_call 51; refine HST.out.mono ?_; rintro e w4 ⟨rfl,hb4⟩; obtain ⟨qc,_,_,l4⟩:=u0a (q:=wo.heap.size) (u0f hb4 (some (wo.heap.size+10))) (u6c (u1d _ _)) (by omega))))
   obtain ⟨v',hv'⟩:∃ v',IntKind.i64.wrap (IntKind.i64.wrap (IntKind.i64.wrap (v + ↑a.params.length)+r1)+lg)=v':=⟨_,rfl⟩
   have hnb2:NB q v':=NB.step HNB.out hv (fun hf h0=>by have:=HNI.out hf; rw [← hv']; go_arith)
   rw [hv']
   have HNB2:=hid hnb2
   have HL4:=hid l4
   have HW4:=hid (seq hba hb4)
   have hz4:=HW4.out.size
   clear hnb2 hv' l4 hb4 qc hba
   go_wp2_with fail
   go_loopw [3,6] (fun n i wrA=>∃ (jA:Nat) (vA:Int),jA≤a.params.length∧i=.int .i64 jA∧n=.int .i64 vA∧NB q vA∧Below (wo.heap.size+1) w' wrA) (fun _ i _=>a.params.length - (intOf i).toNat)
   case atStart=>exact ⟨0,_,Nat.zero_le _,rfl,rfl,HNB2.out,Below.refl _ _⟩
   case round =>
    obtain ⟨jA,vA,hjA,rfl,rfl,hnbA,hbrA⟩:=hrel
    obtain ⟨wrA,rfl⟩:∃ z,z=wr:=⟨_,rfl⟩
    have l5:wrA.heap[wo.heap.size]? = some (.cells #[.string (bs a.name),.slice fA a.params.length fc,.slice fB a.body.length fc'] 71 (0,0)):=(hbrA.block wo.heap.size (by omega)).trans HL4.out
    have xbA:=cell_of_row _ _ 1 _ _ _ l5
    have hw5:Below wo.heap.size wo wrA:=HW4.out.trans (hbrA.mono (by omega))
    have HWA:=hid hw5
    have HNBA:=hid hnbA
    have HBRA:=hid hbrA
    have HLA:=hid l5
    have hzA:=hw5.size
    by_cases hgo2:jA<a.params.length∧vA≤1000
    ·obtain ⟨hlt2,hv2⟩:=hgo2
     obtain ⟨y,hy⟩:∃ y,a.params[jA]? = some y:=⟨a.params[jA],List.getElem?_eq_getElem hlt2⟩
     obtain ⟨g2,o2,rfl,_,hPg2,hrows2⟩:=u2i (by decide) (fun P w cs a h=>⟨.string (bs a),by unfold rdN at h; subst h; rfl⟩) (HFP.out.keeps u4a (u0z HWA.out fun _ hb=>hb) (fun _ hb=>hb)) (by omega)
     obtain ⟨cs2,hcs2,hrd2⟩:=hrows2 jA y hy
     have hrd2:cs2=[.string (bs y)]:=hrd2
     subst hrd2
     have d0:=hcs2 0 _ rfl
     simp only [Nat.mul_one,Nat.add_zero] at d0
     have hin2:(0:Int)≤jA∧(jA:Int)<a.params.length:=⟨by omega,by omega⟩
     have hmy:=List.mem_of_getElem? hy
     obtain ⟨lg2,hlg2⟩:∃ lg2,lgB y=lg2:=⟨_,rfl⟩
     have hlong2:∀ w',Calls Tryz.prog 52 #[.string (bs y)] w' fun e w2=>e=.returned (.int .i64 lg2)∧w2=w':=by rw [← hlg2]; exact fun w'=>u7z y (HGA.out.2.1 y hmy) w'
     have HLN2:=hid hlong2
     have hn3:fitP q=true→lg2=0:=fun hf=>by rw [← hlg2]; exact (HNI.out hf).2.1 y hmy
     have hnb4:NB q (wrap64 (vA+lg2)):=NB.step HNBA.out hv2 (fun hf h0=>by have:=hn3 hf; unfold wrap64; omega)
     have HNB4:=hid hnb4
     clear hrows2 hcs2 hy hmy hlg2 hlong2 hn3 hnb4 hnbA hbrA hw5 l5
     go_wp2_with fail
     refine (HLN2.out _).mono ?_
     rintro e w3 ⟨rfl,rfl⟩
     go_wp2
     go_roundw
     case rel=>exact ⟨jA+1,_,by omega,by go_num,rfl,HNB4.out,HBRA.out⟩
     case measure=>simp [intOf]; omega
    ·have hor:(¬ jA<a.params.length)∨(jA<a.params.length∧¬ vA≤1000):=by omega
     clear hgo2 hnbA hbrA hw5 l5
     rcases hor with hlt2 | ⟨hlt2,hv2⟩
     all_goals
      go_wp2
      go_roundw
      case rel=>exact ⟨k+1,vA,by omega,by go_num,rfl,HNBA.out,HBR.out.trans (HWA.out.mono hzr)⟩
      case measure=>simp [intOf]; omega
  ·have hor:(¬ k<q.fns.length)∨(k<q.fns.length∧¬ v≤1000):=by omega
   clear hgo hnb hbr hw la
   rcases hor with hlt | ⟨hlt,hv⟩
   all_goals
    go_wp2_with fail
    clear hlt
    go_loopw [3,7] (fun n i wr=>∃ (k:Nat) (v:Int),k≤q.krs.length∧i=.int .i64 k∧n=.int .i64 v∧NB q v∧Below (w.heap.size+1) (w.alloc (.cells #[.slice A q.fns.length c,.slice B q.krs.length cb] 26)) wr) (fun _ i _=>q.krs.length - (intOf i).toNat)
    case atStart=>exact ⟨0,_,Nat.zero_le _,rfl,rfl,HNB.out,HBR.out⟩
    case round =>
     clear HBR HNB HW hzr xa0 xa1 hk
     obtain ⟨k,v,hk,rfl,rfl,hnb,hbr⟩:=hrel
     obtain ⟨wo,rfl⟩:∃ z,z=wr:=⟨_,rfl⟩
     have hw:Below w.heap.size w wo:=(u1e _ _).trans (hbr.mono (by omega))
     have la:wo.heap[w.heap.size]? = some (.cells #[.slice A q.fns.length c,.slice B q.krs.length cb] 26 (0,0)):=(hbr.block _ (by omega)).trans (u1d _ _)
     have xa0:=cell_of_row _ _ 0 _ _ _ la
     have xa1:=cell_of_row _ _ 1 _ _ _ la
     have HBR:=hid hbr
     have HNB:=hid hnb
     have HW:=hid hw
     have hzr:=hbr.size
     simp only [u0c] at hzr
     by_cases hgo:k<q.krs.length∧v≤1000
     ·obtain ⟨hlt,hv⟩:=hgo
      obtain ⟨a,ha⟩:∃ a,q.krs[k]? = some a:=⟨q.krs[k],List.getElem?_eq_getElem hlt⟩
      obtain ⟨g,o,rfl,_,hPg,hrows⟩:=u2i (by decide) (fun P w cs a h=>⟨.string (bs a.name),by obtain ⟨_,_,_,_,_,_,_,_,_,h,_⟩:=h; subst h; rfl⟩) (HP.out.below hw).k (by omega)
      obtain ⟨cs,hcs,fA,fm,fc,fB,fm',fc',fC,fm'',fc'',rfl,hfp,hfd,hfb⟩:=hrows k a ha
      have hmem:=List.mem_of_getElem? ha
      have hga:=HP.out.gk a hmem
      have hm2:=hfp.len
      have hm4:=hfd.len
      have hm3:=u7g hfb
      subst hm2
      subst hm4
      subst hm3
      have c0:=hcs 0 _ rfl
      have c1:=hcs 1 _ rfl
      have c2':=hcs 2 _ rfl
      have c3:=hcs 3 _ rfl
      simp only [Nat.add_zero] at c0
      have hin:(0:Int)≤k∧(k:Int)<q.krs.length:=⟨by omega,by omega⟩
      obtain ⟨r1,hr1⟩:∃ r1,u4z a.body 1000 0=r1:=⟨_,rfl⟩
      obtain ⟨lg,hlg⟩:∃ lg,lgB a.name=lg:=⟨_,rfl⟩
      have hba:Below wo.heap.size wo ((wo.alloc (.cells #[.string (bs a.name),.slice fA a.params.length fc,.slice fB a.shared.length fc',.slice fC a.body.length fc''] 75)).drew):=((Below.refl _ _).alloc (Nat.le_refl _) _).drew
      have HST:=hid (stmts_51 a.body _ 1000 _ _ _ (u3w hfb hba) hga.2.2.2.2.2.2 hga.2.2.2.2.2.1)
      have hlong:∀ w',Calls Tryz.prog 52 #[.string (bs a.name)] w' fun e w2=>e=.returned (.int .i64 lg)∧w2=w':=by rw [← hlg]; exact fun w'=>u7z a.name hga.1 w'
      have HLN:=hid hlong
      have hpl0:=hga.2.2.1
      have hpl1:=hga.2.2.2.2.1
      have hnice:=fun hf=>kr_nice (q:=q) hf hmem
      rw [hr1,hlg] at hnice
      rw [hr1] at HST
      have HNI:=hid hnice
      have HFP:=hid hfp
      have HFD:=hid hfd
      have HGA:=hid hga
      clear hrows ha hcs hfp hfb la hbr hw hnb hmem hga hr1 hlg hlong hnice hfd
      go_wp2_with fail
      go_region_held3 (fun w'=>w'.cell? ⟨wo.heap.size,0,none⟩=some (.string (bs a.name))∧w'.cell? ⟨wo.heap.size,1,none⟩=some (.slice fA a.params.length fc)∧w'.cell? ⟨wo.heap.size,2,none⟩=some (.slice fB a.shared.length fc')∧w'.cell? ⟨wo.heap.size,3,none⟩=some (.slice fC a.body.length fc'')) (first | exact ⟨by simp,by simp,by simp,by simp⟩ | exact ⟨(qc 0).trans rfl,(qc 1).trans rfl,(qc 2).trans rfl,(qc 3).trans rfl⟩) ((first | (go_at_call 52; refine (HLN.out _).mono ?_; rintro e w' ⟨rfl,rfl⟩) | (go_at_call 51; refine HST.out.mono ?_; rintro e w4 ⟨rfl,hb4⟩; obtain ⟨qc,_,_,l4⟩:=u0a (q:=wo.heap.size) (u0f hb4 (some (wo.heap.size+10))) (u6c (u1d _ _)) (by omega))))
      obtain ⟨v',hv'⟩:∃ v',IntKind.i64.wrap (IntKind.i64.wrap (IntKind.i64.wrap (IntKind.i64.wrap (v + ↑a.params.length) + ↑a.shared.length)+r1)+lg)=v':=⟨_,rfl⟩
      have hnb2:NB q v':=NB.step HNB.out hv (fun hf h0=>by have:=HNI.out hf; rw [← hv']; go_arith)
      rw [hv']
      have HNB2:=hid hnb2
      have HL4:=hid l4
      have HW4:=hid (seq hba hb4)
      have hz4:=HW4.out.size
      clear hnb2 hv' l4 hb4 qc hba
      go_wp2_with fail
      go_loopw [3,9] (fun n i wrA=>∃ (jA:Nat) (vA:Int),jA≤a.params.length∧i=.int .i64 jA∧n=.int .i64 vA∧NB q vA∧Below (wo.heap.size+1) w' wrA) (fun _ i _=>a.params.length - (intOf i).toNat)
      case atStart=>exact ⟨0,_,Nat.zero_le _,rfl,rfl,HNB2.out,Below.refl _ _⟩
      case round =>
       obtain ⟨jA,vA,hjA,rfl,rfl,hnbA,hbrA⟩:=hrel
       obtain ⟨wrA,rfl⟩:∃ z,z=wr:=⟨_,rfl⟩
       have l5:wrA.heap[wo.heap.size]? = some (.cells #[.string (bs a.name),.slice fA a.params.length fc,.slice fB a.shared.length fc',.slice fC a.body.length fc''] 75 (0,0)):=(hbrA.block wo.heap.size (by omega)).trans HL4.out
       have xbA:=cell_of_row _ _ 1 _ _ _ l5
       have xbA2:=cell_of_row _ _ 2 _ _ _ l5
       have hw5:Below wo.heap.size wo wrA:=HW4.out.trans (hbrA.mono (by omega))
       have HWA:=hid hw5
       have HNBA:=hid hnbA
       have HBRA:=hid hbrA
       have HLA:=hid l5
       have hzA:=hw5.size
       by_cases hgo2:jA<a.params.length∧vA≤1000
       ·obtain ⟨hlt2,hv2⟩:=hgo2
        obtain ⟨y,hy⟩:∃ y,a.params[jA]? = some y:=⟨a.params[jA],List.getElem?_eq_getElem hlt2⟩
        obtain ⟨g2,o2,rfl,_,hPg2,hrows2⟩:=u2i (by decide) (fun P w cs a h=>⟨.string (bs a.1),by unfold rdP at h; subst h; rfl⟩) (HFP.out.keeps u3d (u0z HWA.out fun _ hb=>hb) (fun _ hb=>hb)) (by omega)
        obtain ⟨cs2,hcs2,hrd2⟩:=hrows2 jA y hy
        have hrd2:cs2=[.string (bs y.1),.bool y.2]:=hrd2
        subst hrd2
        have d0:=hcs2 0 _ rfl
        simp only [Nat.mul_one,Nat.add_zero] at d0
        have hin2:(0:Int)≤jA∧(jA:Int)<a.params.length:=⟨by omega,by omega⟩
        have hmy:=List.mem_of_getElem? hy
        obtain ⟨lg2,hlg2⟩:∃ lg2,lgB y.1=lg2:=⟨_,rfl⟩
        have hlong2:∀ w',Calls Tryz.prog 52 #[.string (bs y.1)] w' fun e w2=>e=.returned (.int .i64 lg2)∧w2=w':=by rw [← hlg2]; exact fun w'=>u7z y.1 (HGA.out.2.1 y hmy) w'
        have HLN2:=hid hlong2
        have hn3:fitP q=true→lg2=0:=fun hf=>by rw [← hlg2]; exact (HNI.out hf).2.1 y hmy
        have hnb4:NB q (wrap64 (vA+lg2)):=NB.step HNBA.out hv2 (fun hf h0=>by have:=hn3 hf; unfold wrap64; omega)
        have HNB4:=hid hnb4
        clear hrows2 hcs2 hy hmy hlg2 hlong2 hn3 hnb4 hnbA hbrA hw5 l5
        go_wp2_with fail
        refine (HLN2.out _).mono ?_
        rintro e w3 ⟨rfl,rfl⟩
        go_wp2
        go_roundw
        case rel=>exact ⟨jA+1,_,by omega,by go_num,rfl,HNB4.out,HBRA.out⟩
        case measure=>simp [intOf]; omega
       ·have hor:(¬ jA<a.params.length)∨(jA<a.params.length∧¬ vA≤1000):=by omega
        clear hgo2 hnbA hbrA hw5 l5
        rcases hor with hlt2 | ⟨hlt2,hv2⟩
        all_goals
         go_wp2_with fail
         clear hlt2
         go_loopw [3,10] (fun n i wrB=>∃ (jB:Nat) (vB:Int),jB≤a.shared.length∧i=.int .i64 jB∧n=.int .i64 vB∧NB q vB∧Below (wo.heap.size+1) wrA wrB) (fun _ i _=>a.shared.length - (intOf i).toNat)
         case atStart=>exact ⟨0,_,Nat.zero_le _,rfl,rfl,HNBA.out,Below.refl _ _⟩
         case round =>
          obtain ⟨jB,vB,hjB,rfl,rfl,hnbB,hbrB⟩:=hrel
          obtain ⟨wrB,rfl⟩:∃ z,z=wr:=⟨_,rfl⟩
          have l5:wrB.heap[wo.heap.size]? = some (.cells #[.string (bs a.name),.slice fA a.params.length fc,.slice fB a.shared.length fc',.slice fC a.body.length fc''] 75 (0,0)):=(hbrB.block wo.heap.size (by omega)).trans HLA.out
          have xbB:=cell_of_row _ _ 2 _ _ _ l5
          have hw5:Below wo.heap.size wo wrB:=HWA.out.trans (hbrB.mono (by omega))
          have HWB:=hid hw5
          have HNBB:=hid hnbB
          have HBRB:=hid hbrB
          have HLB:=hid l5
          have hzB:=hw5.size
          by_cases hgo2:jB<a.shared.length∧vB≤1000
          ·obtain ⟨hlt2,hv2⟩:=hgo2
           obtain ⟨y,hy⟩:∃ y,a.shared[jB]? = some y:=⟨a.shared[jB],List.getElem?_eq_getElem hlt2⟩
           obtain ⟨g2,o2,rfl,_,hPg2,hrows2⟩:=u2i (by decide) (fun P w cs a h=>⟨.string (bs a.1),by unfold rdA at h; subst h; rfl⟩) (HFD.out.keeps u4g (u0z HWB.out fun _ hb=>hb) (fun _ hb=>hb)) (by omega)
           obtain ⟨cs2,hcs2,hrd2⟩:=hrows2 jB y hy
           have hrd2:cs2=[.string (bs y.1),.int .i64 y.2]:=hrd2
           subst hrd2
           have d0:=hcs2 0 _ rfl
           simp only [Nat.mul_one,Nat.add_zero] at d0
           have hin2:(0:Int)≤jB∧(jB:Int)<a.shared.length:=⟨by omega,by omega⟩
           have hmy:=List.mem_of_getElem? hy
           obtain ⟨lg2,hlg2⟩:∃ lg2,lgB y.1=lg2:=⟨_,rfl⟩
           have hlong2:∀ w',Calls Tryz.prog 52 #[.string (bs y.1)] w' fun e w2=>e=.returned (.int .i64 lg2)∧w2=w':=by rw [← hlg2]; exact fun w'=>u7z y.1 (HGA.out.2.2.2.1 y hmy) w'
           have HLN2:=hid hlong2
           have hn3:fitP q=true→lg2=0:=fun hf=>by rw [← hlg2]; exact (HNI.out hf).2.2.2.1 y hmy
           have hnb4:NB q (wrap64 (vB+lg2)):=NB.step HNBB.out hv2 (fun hf h0=>by have:=hn3 hf; unfold wrap64; omega)
           have HNB4:=hid hnb4
           clear hrows2 hcs2 hy hmy hlg2 hlong2 hn3 hnb4 hnbB hbrB hw5 l5
           go_wp2_with fail
           refine (HLN2.out _).mono ?_
           rintro e w3 ⟨rfl,rfl⟩
           go_wp2
           go_roundw
           case rel=>exact ⟨jB+1,_,by omega,by go_num,rfl,HNB4.out,HBRB.out⟩
           case measure=>simp [intOf]; omega
          ·have hor:(¬ jB<a.shared.length)∨(jB<a.shared.length∧¬ vB≤1000):=by omega
           clear hgo2 hnbB hbrB hw5 l5
           rcases hor with hlt2 | ⟨hlt2,hv2⟩
           all_goals
            go_wp2
            go_roundw
            case rel=>exact ⟨k+1,vB,by omega,by go_num,rfl,HNBB.out,HBR.out.trans (HWB.out.mono hzr)⟩
            case measure=>simp [intOf]; omega
     ·have hor:(¬ k<q.krs.length)∨(k<q.krs.length∧¬ v≤1000):=by omega
      clear hgo hnb hbr hw la
      rcases hor with hlt | ⟨hlt,hv⟩
      all_goals
       go_wp2
       go_ret
       exact ⟨⟨_,rfl,fun hg hf=>by have:=HNB.out hf; (simp at hg <;> omega)⟩,HW.out⟩
theorem textP_bad {q:Pg} (h:u2s q=false):u5j q=([],1):=by unfold u5j; rw [h]; rfl
theorem validP_fit {q:Pg} (h:u2s q=true):fitP q=true:=by unfold u2s at h; rw [Bool.and_eq_true] at h; exact h.1
end Go.Proofs.YtbkhnilbgocpnaaGreatDoor.SynC
