import Derived.Test.YtbkhnilbgocpnaaGreatDoorK17
import Derived.Test.YtbkhnilbgocpnaaGreatDoorK0
set_option linter.unusedVariables false
set_option linter.unusedSimpArgs false
set_option maxRecDepth 100000
set_option maxHeartbeats 2000000
open Go.Lib (hid)
namespace Go.Proofs.YtbkhnilbgocpnaaGreatDoor.SynC
open Go.Proofs.YtbkhnilbgocpnaaGreatDoor.LexC
open Go Go.ChangeShapes Go.WideShapes Go.ChangeAt Go.RowKit Go.Deep
def sumP:List (List St)→Int
 | []=>0
 | s :: r=>u0u s+sumP r
def maxD:List (List St)→Int
 | []=>0
 | s :: r=>max (u1n s) (maxD r)
def maxX:List (List St)→Int
 | []=>0
 | s :: r=>max (u3v s) (maxX r)
theorem u7k (l:List (List St)):∀ k a,l[k]? = some a→sumP (l.take (k+1))=sumP (l.take k)+u0u a:=by
 induction l with
 | nil=>intro k a h; simp at h
 | cons e r ih =>
  intro k a h
  cases k with
  | zero=>simp at h; subst h; simp [sumP]
  | succ k =>
   have:=ih k a (by simpa using h)
   rw [List.take_succ_cons,List.take_succ_cons,sumP,sumP,this]; omega
theorem maxD_take (l:List (List St)):∀ k a,l[k]? = some a→maxD (l.take (k+1))=max (maxD (l.take k)) (u1n a):=by
 induction l with
 | nil=>intro k a h; simp at h
 | cons e r ih =>
  intro k a h
  cases k with
  | zero=>simp at h; subst h; simp [maxD]; have:=u4b e; omega
  | succ k =>
   have:=ih k a (by simpa using h)
   rw [List.take_succ_cons,List.take_succ_cons,maxD,maxD,this]; omega
theorem maxX_take (l:List (List St)):∀ k a,l[k]? = some a→maxX (l.take (k+1))=max (maxX (l.take k)) (u3v a):=by
 induction l with
 | nil=>intro k a h; simp at h
 | cons e r ih =>
  intro k a h
  cases k with
  | zero=>simp at h; subst h; simp [maxX]; have:=u7s e; omega
  | succ k =>
   have:=ih k a (by simpa using h)
   rw [List.take_succ_cons,List.take_succ_cons,maxX,maxX,this]; omega
theorem sumP_pos:∀ l:List (List St),0≤sumP l
 | []=>by rw [sumP]; omega
 | e :: r=>by rw [sumP]; have:=u1t e; have:=sumP_pos r; omega
theorem fitF_le {p:Int} {f:Fn} (h:fitF p f=true):p+u0u f.body≤400:=by
 unfold fitF at h; simp only [Bool.and_eq_true] at h; exact fitSs_le h.2
theorem fitK_le {p:Int} {f:Kr} (h:fitK p f=true):p+u0u f.body≤400:=by
 unfold fitK at h; simp only [Bool.and_eq_true] at h; exact fitSs_le h.2
def fitFs (p:Int):List Fn→Bool
 | []=>true
 | f :: r=>fitF p f&&fitFs (p+u0u f.body) r
def bodF (l:List Fn):List (List St):=l.map (·.body)
theorem fitFs_drop (p:Int) (l:List Fn) (k:Nat) (a:Fn) (h:l[k]? = some a):fitFs (p+sumP ((bodF l).take k)) (l.drop k)=(fitF (p+sumP ((bodF l).take k)) a&&fitFs (p+sumP ((bodF l).take (k+1))) (l.drop (k+1))):=by
 obtain ⟨h1,h2⟩:=List.getElem?_eq_some_iff.1 h
 rw [List.drop_eq_getElem_cons h1,h2,fitFs,u7k (bodF l) k a.body (by simp [bodF,h])]
 congr 2; omega
theorem allFs (l:List Fn) (b base:Nat) (p d:Int) (w:World) (A:Option Addr) (m c:Nat) (hm:Mz w b p d) (hb:base≤b) (h10:10≤base) (hp:0≤p∧p≤400) (hd:0≤d) (hT:Tabs w)
  (hs:SlR rdF 3 (fun g=>g<base) w (.slice A m c) l) (hg:∀ a∈l,rgF a) (hll:l.length≤1125899906842624) :
  Calls Tryz.prog 96 #[.slice A m c,.func (.func 97) #[.pointer (some ⟨b,0,none⟩)] #[]] w (Meas b w (fitFs p l) (p+sumP (bodF l)) (newD d 1 (maxD (bodF l)) (maxX (bodF l)))):=by
 have hm1:=hs.len
 subst hm1
 have zb:=(Array.getElem?_eq_some_iff.1 (show w.heap[b]? = _ from hm)).1
 have HM:=hid hm
 have HT:=hid hT
 have HS:=hid hs
 have HG:=hid hg
 clear hm hT hs hg
 go_enter Tryz.func96,Tryz.ntmps96
 go_wp2_with fail
 go_loopw [9] (fun i wr=>∃ (k:Nat),k≤l.length∧i=.int .i64 k∧Mz wr b (p+sumP ((bodF l).take k)) (newD d 1 (maxD ((bodF l).take k)) (maxX ((bodF l).take k)))∧w.grownBy wr (some b)∧fitFs p l=fitFs (p+sumP ((bodF l).take k)) (l.drop k)∧p+sumP ((bodF l).take k)≤400) (fun i _=>l.length - (intOf i).toNat)
 case atStart =>
  refine ⟨0,Nat.zero_le _,rfl,?_,u0r _ _,?_,?_⟩
  ·have:=HM.out
   rw [List.take_zero,sumP,maxD,maxX]
   rw [show newD d 1 0 0=d by unfold newD; omega,Int.add_zero]; exact this
  ·rw [List.take_zero,sumP,Int.add_zero,List.drop_zero]
  ·rw [List.take_zero,sumP]; omega
 case round =>
  obtain ⟨k,hkk,rfl,hmr,hgr,hfr,hpr⟩:=hrel
  have hbr:=u1z hgr hb zb
  have zbr:=(Array.getElem?_eq_some_iff.1 (show wr.heap[b]? = _ from hmr)).1
  have HMr:=hid hmr
  have HGr:=hid hgr
  have HFr:=hid hfr
  have hp0:=sumP_pos ((bodF l).take k)
  have hzr:=hgr.size
  by_cases hlt:k<l.length
  ·obtain ⟨a,ha⟩:∃ a,l[k]? = some a:=⟨l[k],List.getElem?_eq_getElem hlt⟩
   obtain ⟨g,o,rfl,_,hPg,hrows⟩:=u2i (by decide) (fun P w cs a h=>⟨.string (bs a.name),by obtain ⟨_,_,_,_,_,_,h,_⟩:=h; subst h; rfl⟩) (u1m u2l hbr HS.out) (by omega)
   obtain ⟨cs,hcs,fA,fm,fc,fB,fm2,fc2,rfl,hfp,hfb⟩:=hrows k a ha
   have c0:=hcs 0 _ rfl
   have c1:=hcs 1 _ rfl
   have c2:=hcs 2 _ rfl
   simp only [Nat.add_zero] at c0 c1 c2
   have hin:(0:Int)≤k∧(k:Int)<l.length:=⟨by omega,by omega⟩
   have HA:=hid ha
   have hab:(bodF l)[k]? = some a.body:=by simp [bodF,ha]
   have HAB:=hid hab
   have hC:∀ w1,Mz w1 b (p+sumP ((bodF l).take k)) (newD d 1 (maxD ((bodF l).take k)) (maxX ((bodF l).take k)))→wr.grownBy w1 (some b)→Calls Tryz.prog 97 #[.pointer (some ⟨b,0,none⟩),.agg #[.string (bs a.name),.slice fA fm fc,.slice fB fm2 fc2]] w1 (Meas b w1 (fitF (p+sumP ((bodF l).take k)) a) (p+sumP ((bodF l).take k)+u0u a.body) (newD (newD d 1 (maxD ((bodF l).take k)) (maxX ((bodF l).take k))) 1 (u1n a.body) (u3v a.body))):=by
    intro w1 h1 h2
    have hgw:=u0j HGr.out h2
    have hbw:=u1z h2 hb zbr
    exact function_m a b base _ _ w1 fA fm fc fB fm2 fc2 h1 hb h10 ⟨by omega,hpr⟩ (by unfold newD; omega) (HT.out.keep hgw (by omega)) (u1m u4a hbw hfp) (u1v hbw hfb) (HG.out a (List.mem_of_getElem? HA.out))
   clear hrows ha hcs hmr hgr hfr hab hfp hfb
   cases hfe:fitF (p+sumP ((bodF l).take k)) a
   ·rw [hfe] at hC
    have HC:=hid hC
    have HFE:=hid hfe
    clear hC hfe
    go_wp2_with fail
    refine (HC.out _ (u0e zbr HMr.out) (u0n (u0r _ _) _)).mono ?_
    rintro e w2 ⟨rfl,hg2,p2,d2,hm2,-⟩
    have HG2:=hid (u0j HGr.out (u0j (u0n (u0r _ _) _) hg2))
    have HM2:=hid hm2
    clear hg2 hm2
    go_wp2
    go_ret
    refine ⟨?_,HG2.out,p2,d2,HM2.out,?_⟩
    ·rw [HFr.out,fitFs_drop p l k a HA.out,HFE.out]; rfl
    ·rw [HFr.out,fitFs_drop p l k a HA.out,HFE.out]; intro h; cases h
   ·have hle:=fitF_le hfe
    rw [hfe] at hC
    have HC:=hid hC
    have HFE:=hid hfe
    clear hC hfe
    go_wp2_with fail
    refine (HC.out _ (u0e zbr HMr.out) (u0n (u0r _ _) _)).mono ?_
    rintro e w2 ⟨rfl,hg2,p2,d2,hm2,hpd⟩
    obtain ⟨rfl,rfl⟩:=hpd rfl
    have HG2:=hid (u0j HGr.out (u0j (u0n (u0r _ _) _) hg2))
    have HM2:=hid hm2
    clear hg2 hm2 hpd
    go_wp2
    go_roundw
    case rel =>
     refine ⟨k+1,by omega,by go_num,?_,HG2.out,?_,?_⟩
     ·rw [u7k _ k _ HAB.out,maxD_take _ k _ HAB.out,maxX_take _ k _ HAB.out]
      have:=HM2.out
      rw [show newD d 1 (max (maxD ((bodF l).take k)) (u1n a.body)) (max (maxX ((bodF l).take k)) (u3v a.body))=newD (newD d 1 (maxD ((bodF l).take k)) (maxX ((bodF l).take k))) 1 (u1n a.body) (u3v a.body) by unfold newD; omega,← Int.add_assoc]
      exact this
     ·rw [HFr.out,fitFs_drop p l k a HA.out,HFE.out]; rfl
     ·rw [u7k _ k _ HAB.out]; omega
    case measure=>simp [intOf]; omega
  ·have ht:(bodF l).take k=bodF l:=List.take_of_length_le (by simp [bodF]; omega)
   have hd0:l.drop k=[]:=List.drop_of_length_le (by omega)
   rw [ht] at hmr hfr hpr
   rw [hd0,fitFs] at hfr
   have HMr:=hid hmr
   have HFr:=hid hfr
   clear hmr hfr hgr
   go_wp2
   go_ret
   exact ⟨by rw [HFr.out]; rfl,HGr.out,_,_,HMr.out,fun _=>⟨rfl,rfl⟩⟩
def fitKs (p:Int):List Kr→Bool
 | []=>true
 | f :: r=>fitK p f&&fitKs (p+u0u f.body) r
def bodK (l:List Kr):List (List St):=l.map (·.body)
theorem fitKs_drop (p:Int) (l:List Kr) (k:Nat) (a:Kr) (h:l[k]? = some a):fitKs (p+sumP ((bodK l).take k)) (l.drop k)=(fitK (p+sumP ((bodK l).take k)) a&&fitKs (p+sumP ((bodK l).take (k+1))) (l.drop (k+1))):=by
 obtain ⟨h1,h2⟩:=List.getElem?_eq_some_iff.1 h
 rw [List.drop_eq_getElem_cons h1,h2,fitKs,u7k (bodK l) k a.body (by simp [bodK,h])]
 congr 2; omega
theorem allKs (l:List Kr) (b base:Nat) (p d:Int) (w:World) (A:Option Addr) (m c:Nat) (hm:Mz w b p d) (hb:base≤b) (h10:10≤base) (hp:0≤p∧p≤400) (hd:0≤d) (hT:Tabs w)
  (hs:SlR rdK 4 (fun g=>g<base) w (.slice A m c) l) (hg:∀ a∈l,rgK a) (hll:l.length≤1125899906842624) :
  Calls Tryz.prog 98 #[.slice A m c,.func (.func 99) #[.pointer (some ⟨b,0,none⟩)] #[]] w (Meas b w (fitKs p l) (p+sumP (bodK l)) (newD d 1 (maxD (bodK l)) (maxX (bodK l)))):=by
 have hm1:=hs.len
 subst hm1
 have zb:=(Array.getElem?_eq_some_iff.1 (show w.heap[b]? = _ from hm)).1
 have HM:=hid hm
 have HT:=hid hT
 have HS:=hid hs
 have HG:=hid hg
 clear hm hT hs hg
 go_enter Tryz.func98,Tryz.ntmps98
 go_wp2_with fail
 go_loopw [9] (fun i wr=>∃ (k:Nat),k≤l.length∧i=.int .i64 k∧Mz wr b (p+sumP ((bodK l).take k)) (newD d 1 (maxD ((bodK l).take k)) (maxX ((bodK l).take k)))∧w.grownBy wr (some b)∧fitKs p l=fitKs (p+sumP ((bodK l).take k)) (l.drop k)∧p+sumP ((bodK l).take k)≤400) (fun i _=>l.length - (intOf i).toNat)
 case atStart =>
  refine ⟨0,Nat.zero_le _,rfl,?_,u0r _ _,?_,?_⟩
  ·have:=HM.out
   rw [List.take_zero,sumP,maxD,maxX]
   rw [show newD d 1 0 0=d by unfold newD; omega,Int.add_zero]; exact this
  ·rw [List.take_zero,sumP,Int.add_zero,List.drop_zero]
  ·rw [List.take_zero,sumP]; omega
 case round =>
  obtain ⟨k,hkk,rfl,hmr,hgr,hfr,hpr⟩:=hrel
  have hbr:=u1z hgr hb zb
  have zbr:=(Array.getElem?_eq_some_iff.1 (show wr.heap[b]? = _ from hmr)).1
  have HMr:=hid hmr
  have HGr:=hid hgr
  have HFr:=hid hfr
  have hp0:=sumP_pos ((bodK l).take k)
  have hzr:=hgr.size
  by_cases hlt:k<l.length
  ·obtain ⟨a,ha⟩:∃ a,l[k]? = some a:=⟨l[k],List.getElem?_eq_getElem hlt⟩
   obtain ⟨g,o,rfl,_,hPg,hrows⟩:=u2i (by decide) (fun P w cs a h=>⟨.string (bs a.name),by obtain ⟨_,_,_,_,_,_,_,_,_,h,_⟩:=h; subst h; rfl⟩) (u1m u2x hbr HS.out) (by omega)
   obtain ⟨cs,hcs,fA,fm,fc,fB,fm2,fc2,fC,fm3,fc3,rfl,hfp,hfd,hfb⟩:=hrows k a ha
   have c0:=hcs 0 _ rfl
   have c1:=hcs 1 _ rfl
   have c2:=hcs 2 _ rfl
   have c3:=hcs 3 _ rfl
   simp only [Nat.add_zero] at c0 c1 c2 c3
   have hin:(0:Int)≤k∧(k:Int)<l.length:=⟨by omega,by omega⟩
   have HA:=hid ha
   have hab:(bodK l)[k]? = some a.body:=by simp [bodK,ha]
   have HAB:=hid hab
   have hC:∀ w1,Mz w1 b (p+sumP ((bodK l).take k)) (newD d 1 (maxD ((bodK l).take k)) (maxX ((bodK l).take k)))→wr.grownBy w1 (some b)→Calls Tryz.prog 99 #[.pointer (some ⟨b,0,none⟩),.agg #[.string (bs a.name),.slice fA fm fc,.slice fB fm2 fc2,.slice fC fm3 fc3]] w1 (Meas b w1 (fitK (p+sumP ((bodK l).take k)) a) (p+sumP ((bodK l).take k)+u0u a.body) (newD (newD d 1 (maxD ((bodK l).take k)) (maxX ((bodK l).take k))) 1 (u1n a.body) (u3v a.body))):=by
    intro w1 h1 h2
    have hgw:=u0j HGr.out h2
    have hbw:=u1z h2 hb zbr
    exact kernel_m a b base _ _ w1 fA fm fc fB fm2 fc2 fC fm3 fc3 h1 hb h10 ⟨by omega,hpr⟩ (by unfold newD; omega) (HT.out.keep hgw (by omega)) (u1m u3d hbw hfp) (u1m u4g hbw hfd) (u1v hbw hfb) (HG.out a (List.mem_of_getElem? HA.out))
   clear hrows ha hcs hmr hgr hfr hab hfp hfd hfb
   cases hfe:fitK (p+sumP ((bodK l).take k)) a
   ·rw [hfe] at hC
    have HC:=hid hC
    have HFE:=hid hfe
    clear hC hfe
    go_wp2_with fail
    refine (HC.out _ (u0e zbr HMr.out) (u0n (u0r _ _) _)).mono ?_
    rintro e w2 ⟨rfl,hg2,p2,d2,hm2,-⟩
    have HG2:=hid (u0j HGr.out (u0j (u0n (u0r _ _) _) hg2))
    have HM2:=hid hm2
    clear hg2 hm2
    go_wp2
    go_ret
    refine ⟨?_,HG2.out,p2,d2,HM2.out,?_⟩
    ·rw [HFr.out,fitKs_drop p l k a HA.out,HFE.out]; rfl
    ·rw [HFr.out,fitKs_drop p l k a HA.out,HFE.out]; intro h; cases h
   ·have hle:=fitK_le hfe
    rw [hfe] at hC
    have HC:=hid hC
    have HFE:=hid hfe
    clear hC hfe
    go_wp2_with fail
    refine (HC.out _ (u0e zbr HMr.out) (u0n (u0r _ _) _)).mono ?_
    rintro e w2 ⟨rfl,hg2,p2,d2,hm2,hpd⟩
    obtain ⟨rfl,rfl⟩:=hpd rfl
    have HG2:=hid (u0j HGr.out (u0j (u0n (u0r _ _) _) hg2))
    have HM2:=hid hm2
    clear hg2 hm2 hpd
    go_wp2
    go_roundw
    case rel =>
     refine ⟨k+1,by omega,by go_num,?_,HG2.out,?_,?_⟩
     ·rw [u7k _ k _ HAB.out,maxD_take _ k _ HAB.out,maxX_take _ k _ HAB.out]
      have:=HM2.out
      rw [show newD d 1 (max (maxD ((bodK l).take k)) (u1n a.body)) (max (maxX ((bodK l).take k)) (u3v a.body))=newD (newD d 1 (maxD ((bodK l).take k)) (maxX ((bodK l).take k))) 1 (u1n a.body) (u3v a.body) by unfold newD; omega,← Int.add_assoc]
      exact this
     ·rw [HFr.out,fitKs_drop p l k a HA.out,HFE.out]; rfl
     ·rw [u7k _ k _ HAB.out]; omega
    case measure=>simp [intOf]; omega
  ·have ht:(bodK l).take k=bodK l:=List.take_of_length_le (by simp [bodK]; omega)
   have hd0:l.drop k=[]:=List.drop_of_length_le (by omega)
   rw [ht] at hmr hfr hpr
   rw [hd0,fitKs] at hfr
   have HMr:=hid hmr
   have HFr:=hid hfr
   clear hmr hfr hgr
   go_wp2
   go_ret
   exact ⟨by rw [HFr.out]; rfl,HGr.out,_,_,HMr.out,fun _=>⟨rfl,rfl⟩⟩
def partsP (q:Pg):Int:=sumP (bodF q.fns)+sumP (bodK q.krs)
def depthP (q:Pg):Int:=newD (newD 0 1 (maxD (bodF q.fns)) (maxX (bodF q.fns))) 1 (maxD (bodK q.krs)) (maxX (bodK q.krs))
def fitP (q:Pg):Bool:=fitFs 0 q.fns&&fitKs (sumP (bodF q.fns)) q.krs
theorem fitFs_le:∀ (l:List Fn) (p:Int),p≤400→fitFs p l=true→p+sumP (bodF l)≤400
 | [],p,hp,_=>by simp [bodF,sumP]; exact hp
 | f :: r,p,hp,h=>by
  rw [fitFs,Bool.and_eq_true] at h
  have h1:=fitF_le h.1
  have:=fitFs_le r _ h1 h.2
  show p+sumP (f.body :: bodF r)≤400
  rw [sumP]; omega
theorem ret_ms {fn:Func} {R:Ending→World→Prop} {a:Act} {W:World} {q s s':Nat} {v0 v1 b:Value} {fr:Nat × Nat} (hr:fn.results=#[ResultVar.cell s 96,.tmp s']) (hd:a.defers=[])
  (hs:a.tmps.getD s undef=.pointer (some ⟨q,0,none⟩)) (hs':a.tmps.getD s' undef=b) (hq:W.heap[q]? = some (Obj.cells #[v0,v1] 96 fr)) (h:R (.returned (.tuple #[.agg #[v0,v1],b])) W):bodyPost Tryz.prog fn R Exit.ret a W:=by
 have c:∀ j,W.cell? ⟨q,j,none⟩=#[v0,v1][j]?:=fun j=>cell_of_row _ _ j _ _ _ hq
 refine bodyPost_ret (v:=.tuple #[.agg #[v0,v1],b]) ?_ hd h
 rw [Array.getD_eq_getD_getElem?] at hs hs'
 simp [results,hr,go_sem,hs,hs',c]
theorem u7a (q:Pg) (w:World) (A:Option Addr) (m c:Nat) (B:Option Addr) (mb cb:Nat) (h10:10≤w.heap.size) (hT:Tabs w) (hf:SlR rdF 3 (fun g=>g<w.heap.size) w (.slice A m c) q.fns) (hk:SlR rdK 4 (fun g=>g<w.heap.size) w (.slice B mb cb) q.krs)
  (hgf:∀ a∈q.fns,rgF a) (hgk:∀ a∈q.krs,rgK a) (hlf:q.fns.length≤1125899906842624) (hlk:q.krs.length≤1125899906842624) :
  Calls Tryz.prog 53 #[.agg #[.slice A m c,.slice B mb cb]] w fun e w'=>Below w.heap.size w w'∧∃ p2 d2:Int,e=.returned (.tuple #[.agg #[.int .i64 p2,.int .i64 d2],.bool (fitP q)])∧(fitP q=true→p2=partsP q∧d2=depthP q):=by
 obtain ⟨fns,krs⟩:=q
 have HT:=hid hT
 have HF:=hid hf
 have HK:=hid hk
 unfold fitP partsP depthP
 simp only at *
 have hm1:=HF.out.len
 have hm2:=HK.out.len
 subst hm1; subst hm2
 obtain ⟨b1,h1⟩:∃ x,fitFs 0 fns=x:=⟨_,rfl⟩
 obtain ⟨b2,h2⟩:∃ x,fitKs (sumP (bodF fns)) krs=x:=⟨_,rfl⟩
 rw [h1,h2]
 have hle:b1=true→sumP (bodF fns)≤400:=fun h=>by have:=fitFs_le fns 0 (by omega) (h1.trans h); omega
 have hpos:=sumP_pos (bodF fns)
 have H1:=hid h1
 have H2:=hid h2
 have HLE:=hid hle
 have hbe:∀ w1,Below w.heap.size w w1→Tabs w1:=by
  intro w1 hb
  have gv:∀ g cs,g<10→Gv w g cs→Gv w1 g cs:=by
   rintro g cs hg ⟨ty,fr,h⟩
   exact ⟨ty,fr,(hb.block g (by omega)).trans h⟩
  exact ⟨gv 4 _ (by omega) HT.out.exs,gv 5 _ (by omega) HT.out.sts,gv 6 _ (by omega) HT.out.fold⟩
 have HBE:=hid hbe
 clear hT hf hk h1 h2 hle hbe
 cases b1
 ·go_enter Tryz.func53,Tryz.ntmps53
  go_wp2_with fail
  have hba:Below w.heap.size w (((w.alloc (.cells #[.slice A fns.length c,.slice B krs.length cb] 26)).alloc (.cells #[.int .i64 0,.int .i64 0] 96)).alloc (.cells #[.int .i64 0,.int .i64 0] 96)):=(((Below.refl _ _).alloc tSZ _).alloc tSZ _).alloc tSZ _
  have hst:=allFs fns (w.heap.size+2) w.heap.size 0 0 _ A fns.length c (u0h (by simp only [u0c])) (by omega) h10 (by omega) (by omega) (HBE.out _ hba) (u1m u2l hba HF.out) hgf hlf
  rw [H1.out] at hst
  refine hst.mono ?_
  rintro e w1 ⟨rfl,hg1,p1,d1,hm1,hpd1⟩
  obtain ⟨_,_,_,k1⟩:=u0a (q:=w.heap.size) hg1 tLOC (by omega)
  obtain ⟨_,_,_,k2⟩:=u0a (q:=w.heap.size+1) hg1 tLOC (by omega)
  have hB1:=hid (hba.trans (u1z hg1 (by omega) tSZ))
  have HM1:=hid hm1
  clear hg1 hm1 hpd1 hst
  have x0:w1.cell? ⟨w.heap.size+1+1,0,none⟩=some (.int .i64 p1):=by rw [show w.heap.size+1+1=w.heap.size+2 from rfl,cell_of_row _ _ 0 _ _ _ HM1.out]; rfl
  have x1:w1.cell? ⟨w.heap.size+1+1,1,none⟩=some (.int .i64 d1):=by rw [show w.heap.size+1+1=w.heap.size+2 from rfl,cell_of_row _ _ 1 _ _ _ HM1.out]; rfl
  go_wp2_with fail
  refine ret_ms (q:=w.heap.size+1) rfl rfl rfl rfl (put2 _ _ k2) ⟨?_,_,_,rfl,fun h=>by cases h⟩
  exact Below.setCell (Below.setCell hB1.out (by show w.heap.size≤w.heap.size+1; omega) _) (by show w.heap.size≤w.heap.size+1; omega) _
 ·go_enter Tryz.func53,Tryz.ntmps53
  go_wp2_with fail
  have hba:Below w.heap.size w (((w.alloc (.cells #[.slice A fns.length c,.slice B krs.length cb] 26)).alloc (.cells #[.int .i64 0,.int .i64 0] 96)).alloc (.cells #[.int .i64 0,.int .i64 0] 96)):=(((Below.refl _ _).alloc tSZ _).alloc tSZ _).alloc tSZ _
  have hst:=allFs fns (w.heap.size+2) w.heap.size 0 0 _ A fns.length c (u0h (by simp only [u0c])) (by omega) h10 (by omega) (by omega) (HBE.out _ hba) (u1m u2l hba HF.out) hgf hlf
  rw [H1.out] at hst
  refine hst.mono ?_
  rintro e w1 ⟨rfl,hg1,p1,d1,hm1,hpd1⟩
  obtain ⟨_,_,_,k1⟩:=u0a (q:=w.heap.size) hg1 tLOC (by omega)
  obtain ⟨_,_,_,k2⟩:=u0a (q:=w.heap.size+1) hg1 tLOC (by omega)
  have hB1:=hid (hba.trans (u1z hg1 (by omega) tSZ))
  have HM1:=hid hm1
  obtain ⟨e1,e2⟩:=hpd1 rfl
  have hg2:sumP (bodF fns)≤400:=by simpa using HLE.out
  have HG1:=hid hg1
  have hzb:w.heap.size+2<w1.heap.size:=by have:=hg1.size; (try simp only [u0c] at this); omega
  clear hg1 hm1 hpd1 hst
  go_wp2_with fail
  have hst:=allKs krs (w.heap.size+2) w.heap.size p1 d1 _ B krs.length cb HM1.out (by omega) h10 (by rw [e1]; omega) (by rw [e2]; unfold newD; omega) (HBE.out _ hB1.out) (u1m u2x hB1.out HK.out) hgk hlk
  rw [e1,Int.zero_add,H2.out] at hst
  refine hst.mono ?_
  rintro e w2 ⟨rfl,hg2,p2,d2,hm2,hpd2⟩
  obtain ⟨_,_,_,n1⟩:=u0a (q:=w.heap.size) hg2 k1 (by omega)
  obtain ⟨_,_,_,n2⟩:=u0a (q:=w.heap.size+1) hg2 k2 (by omega)
  have hB2:=hid (hB1.out.trans (u1z hg2 (by omega) hzb))
  have HM2:=hid hm2
  have HPD:=hid hpd2
  clear hg2 hm2 hpd2 hst
  have x0:w2.cell? ⟨w.heap.size+1+1,0,none⟩=some (.int .i64 p2):=by rw [show w.heap.size+1+1=w.heap.size+2 from rfl,cell_of_row _ _ 0 _ _ _ HM2.out]; rfl
  have x1:w2.cell? ⟨w.heap.size+1+1,1,none⟩=some (.int .i64 d2):=by rw [show w.heap.size+1+1=w.heap.size+2 from rfl,cell_of_row _ _ 1 _ _ _ HM2.out]; rfl
  go_wp2_with fail
  refine ret_ms (q:=w.heap.size+1) rfl rfl rfl rfl (put2 _ _ n2) ⟨?_,_,_,rfl,fun h=>?_⟩
  ·exact Below.setCell (Below.setCell hB2.out (by show w.heap.size≤w.heap.size+1; omega) _) (by show w.heap.size≤w.heap.size+1; omega) _
  ·obtain ⟨f1,f2⟩:=HPD.out (by simpa using h)
   exact ⟨by rw [f1],by rw [f2,e2]⟩
def KR (k:K):Prop:=k.2.1.length≤maxLen∧-2147483648≤k.2.2∧k.2.2<2147483648
def KRs (l:List K):Prop:=∀ k∈l,KR k
theorem KRs.sfx {l r:List K} (h:KRs l) (k:r <:+ l):KRs r:=fun x hx=>h x (k.subset hx)
theorem KRs.tl {t:K} {r:List K} (h:KRs (t :: r)):KRs r:=fun x hx=>h x (by simp [hx])
theorem KRs.hd {t:K} {r:List K} (h:KRs (t :: r)):KR t:=h t (by simp)
theorem ml0:([]:List UInt8).length≤maxLen:=by unfold maxLen; simp
theorem rg0 (kind op num:Int) (h:-2147483648≤num∧num<2147483648):rgE (.mk kind op num [] []):=by rw [rgE,rgEs]; exact ⟨h,ml0,by simp,trivial⟩
theorem rgN (kind op:Int) {x:List UInt8} (hx:x.length≤maxLen):rgE (.mk kind op 0 x []):=by rw [rgE,rgEs]; exact ⟨by omega,hx,by simp,trivial⟩
theorem rg1 (kind op:Int) {x:List UInt8} (hx:x.length≤maxLen) {a:Ex} (ha:rgE a):rgE (.mk kind op 0 x [a]):=by rw [rgE,rgEs,rgEs]; exact ⟨by omega,hx,by simp,ha,trivial⟩
theorem rg2 (kind op:Int) {x:List UInt8} (hx:x.length≤maxLen) {a b:Ex} (ha:rgE a) (hb:rgE b):rgE (.mk kind op 0 x [a,b]):=by rw [rgE,rgEs,rgEs,rgEs]; exact ⟨by omega,hx,by simp,ha,hb,trivial⟩
theorem rgEs_snoc {l:List Ex} {a:Ex} (hl:rgEs l) (ha:rgE a):rgEs (l++[a]):=by
 induction l with
 | nil=>rw [List.nil_append,rgEs,rgEs]; exact ⟨ha,trivial⟩
 | cons b l ih=>rw [rgEs] at hl; rw [List.cons_append,rgEs]; exact ⟨hl.1,ih hl.2⟩
def CmdRg:Cmd→Prop
 | .tail _ a=>rgE a
 | .named x=>x.length≤maxLen
 | .args x kids=>x.length≤maxLen∧rgEs kids
 | _=>True
def cl:Cmd→Nat
 | .args _ kids=>kids.length
 | _=>0
def RgP (p:Rec):Prop:=∀ c l a r,KRs l→l.length+cl c≤1125899906842624→CmdRg c→p c l=.ok a r→rgE a
theorem step_rg {p:Rec} (h:RgP p) (hs:∀ c l,Sfx l (p c l)):RgP (step p):=by
 intro c l a r hk hn hc e
 have hx:∀ c l a r,KRs l→p c l=.ok a r→KRs r∧r.length≤l.length:=fun c l a r k e=>⟨k.sfx ((hs c l).1 a r e),((hs c l).1 a r e).length_le⟩
 cases c with
 | ex n =>
  simp only [step] at e
  split at e
  ·exact h _ _ _ _ hk (by simp only [cl] at *; omega) (by trivial) e
  ·obtain ⟨b,q,e1,e2⟩:=u0q e
   obtain ⟨k1,n1⟩:=hx _ _ _ _ hk e1
   exact h _ _ _ _ k1 (by simp only [cl] at *; omega) (by exact h _ _ _ _ hk (by simp only [cl] at *; omega) (by trivial) e1) e2
 | tail n x =>
  simp only [step] at e
  split at e
  ·cases e; exact hc
  ·split at e
   ·rename_i t r1 op _
    obtain ⟨b,q,e1,e2⟩:=u0q e
    obtain ⟨k1,n1⟩:=hx _ _ _ _ hk.tl e1
    simp only [cl,List.length_cons] at *
    have hb:=h _ _ _ _ hk.tl (by simp only [cl]; omega) (by trivial) e1
    refine h _ _ _ _ k1 (by simp only [cl]; omega) ?_ e2
    show rgE (bin _ _ _ _)
    unfold bin
    split
    ·exact rg2 _ _ ml0 hb hc
    ·exact rg2 _ _ ml0 hc hb
   ·cases e; exact hc
 | un =>
  simp only [step] at e
  split at e
  ·exact h _ _ _ _ hk (by simp only [cl] at *; omega) (by trivial) e
  ·split at e
   ·obtain ⟨b,q,e1,e2⟩:=u0q e
    cases e2
    simp only [cl,List.length_cons] at *
    exact rg1 _ _ ml0 (h _ _ _ _ hk.tl (by simp only [cl]; omega) (by trivial) e1)
   ·exact h _ _ _ _ hk (by simp only [cl] at *; omega) (by trivial) e
 | prim =>
  simp only [step] at e
  split at e
  ·cases e
  ·rename_i t r0
   simp only [cl,List.length_cons] at hn
   split at e
   ·cases e; exact rg0 _ _ _ hk.hd.2
   ·split at e
    ·exact h _ _ _ _ hk.tl (by simp only [cl]; omega) (by exact hk.hd.1) e
    ·split at e
     ·obtain ⟨t1,r1,rfl,_,e⟩:=u1b e
      obtain ⟨b,q,e1,e⟩:=u0q e
      obtain ⟨k1,n1⟩:=hx _ _ _ _ hk.tl.tl e1
      obtain ⟨t2,r2,rfl,_,e⟩:=u1b e
      obtain ⟨b2,q2,e2,e⟩:=u0q e
      obtain ⟨t3,r3,rfl,_,e⟩:=u1b e
      cases e
      simp only [List.length_cons] at *
      exact rg2 _ _ ml0 (h _ _ _ _ hk.tl.tl (by simp only [cl]; omega) (by trivial) e1) (h _ _ _ _ k1.tl (by simp only [cl]; omega) (by trivial) e2)
     ·split at e
      ·cases e; exact rg0 _ _ _ (by omega)
      ·obtain ⟨t1,r1,e0,_,e⟩:=u1b e
       cases e0
       obtain ⟨b,q,e1,e⟩:=u0q e
       obtain ⟨t2,r2,rfl,_,e⟩:=u1b e
       cases e
       exact h _ _ _ _ hk.tl (by simp only [cl]; omega) (by trivial) e1
 | named x =>
  simp only [step] at e
  have hc':x.length≤maxLen:=hc
  split at e
  ·cases e; exact rgN _ _ hc'
  ·simp only [cl,List.length_cons] at hn
   split at e
   ·obtain ⟨b,q,e1,e⟩:=u0q e
    obtain ⟨t2,r2,rfl,_,e⟩:=u1b e
    cases e
    exact rg1 _ _ hc' (h _ _ _ _ hk.tl (by simp only [cl]; omega) (by trivial) e1)
   ·split at e
    ·split at e
     ·obtain ⟨b,q,e1,e⟩:=u0q e
      obtain ⟨k1,n1⟩:=hx _ _ _ _ hk.tl e1
      have hb:=h _ _ _ _ hk.tl (by simp only [cl,List.length_nil]; omega) (by trivial) e1
      simp only [List.length_nil] at *
      exact h _ _ _ _ k1 (by simp only [cl,List.length_cons,List.length_nil]; omega) (by exact ⟨hc',by rw [rgEs,rgEs]; exact ⟨hb,trivial⟩⟩) e
     ·split at e
      ·cases e; exact rgN _ _ hc'
      ·obtain ⟨b,q,e1,e⟩:=u0q e
       obtain ⟨k1,n1⟩:=hx _ _ _ _ hk.tl e1
       simp only [List.length_cons] at *
       have hb:=h _ _ _ _ hk.tl (by simp only [cl,List.length_cons]; omega) (by trivial) e1
       refine h _ _ _ _ k1 ?_ (by exact ⟨hc',by rw [rgEs,rgEs]; exact ⟨hb,trivial⟩⟩) e
       simp only [cl,List.length_cons,List.length_nil]; omega
    ·cases e; exact rgN _ _ hc'
 | args x kids =>
  simp only [step] at e
  split at e
  ·cases e
  ·simp only [cl,List.length_cons] at hn
   split at e
   ·obtain ⟨b,q,e1,e⟩:=u0q e
    obtain ⟨k1,n1⟩:=hx _ _ _ _ hk.tl e1
    have hb:=h _ _ _ _ hk.tl (by simp only [cl]; omega) (by trivial) e1
    exact h _ _ _ _ k1 (by simp only [cl,List.length_append,List.length_cons,List.length_nil]; omega) (by exact ⟨hc.1,rgEs_snoc hc.2 hb⟩) e
   ·split at e
    ·cases e; rw [rgE]; exact ⟨by omega,hc.1,by omega,hc.2⟩
    ·cases e
theorem go_rg:∀ f,RgP (go f)
 | 0=>fun _ _ _ _ _ _ _ e=>by cases e
 | f+1=>step_rg (go_rg f) (fun c l=>go_sfx f c l)
theorem PE_rg {n:Nat} {l:List K} {a:Ex} {r:List K} (hk:KRs l) (hn:l.length≤1125899906842624) (e:PE (.ex n) l=.ok a r):rgE a:=go_rg _ _ _ _ _ hk (by simp only [cl]; omega) (by trivial) e
theorem PE_kr {c:Cmd} {l:List K} {a:Ex} {r:List K} (hk:KRs l) (e:PE c l=.ok a r):KRs r∧r.length≤l.length:=⟨hk.sfx ((PE_sfx c l).1 a r e),((PE_sfx c l).1 a r e).length_le⟩
theorem rgs0:rgEs []∧rgSs []:=by rw [rgEs,rgSs]; exact ⟨trivial,trivial⟩
theorem rgS0 (kind op:Int):rgS (.mk kind op [] [] [] []):=by rw [rgS,rgEs,rgSs]; exact ⟨ml0,⟨by simp,trivial⟩,⟨by simp,trivial⟩,by simp,trivial⟩
theorem rgS1 (kind op:Int) {x:List UInt8} (hx:x.length≤maxLen) {a:Ex} (ha:rgE a):rgS (.mk kind op x [a] [] []):=by rw [rgS,rgEs,rgEs,rgSs]; exact ⟨hx,⟨by simp,ha,trivial⟩,⟨by simp,trivial⟩,by simp,trivial⟩
theorem rgS2 (kind op:Int) {x:List UInt8} (hx:x.length≤maxLen) {a b:Ex} (ha:rgE a) (hb:rgE b):rgS (.mk kind op x [a,b] [] []):=by rw [rgS,rgEs,rgEs,rgEs,rgSs]; exact ⟨hx,⟨by simp,ha,hb,trivial⟩,⟨by simp,trivial⟩,by simp,trivial⟩
def RgL (l:List St) (n:Nat):Prop:=rgSs l∧l.length≤n
theorem rgSB (kind op:Int) {a:Ex} (ha:rgE a) {b c:List St} {n m:Nat} (hb:RgL b n) (hn:n≤1125899906842624) (hc:RgL c m) (hm:m≤1125899906842624):rgS (.mk kind op [] [a] b c):=by
 rw [rgS,rgEs,rgEs]; exact ⟨ml0,⟨by simp,ha,trivial⟩,⟨Nat.le_trans hb.2 hn,hb.1⟩,Nat.le_trans hc.2 hm,hc.1⟩
def RgR (p:Rst):Prop:=∀ l a r,KRs l→l.length≤1125899906842624→p l=.ok a r→RgL a l.length
theorem u5q {β:Type} {l:List K} {f:Ex→List K→Res β} {b:β} {q:List K} (h:u3u l f=.ok b q):∃ a r,PE (.ex 1) l=.ok a r∧f a r=.ok b q:=u0q h
theorem needF_ok {β:Type} {l:List K} {f:Int→List K→Res β} {b:β} {q:List K} (h:needF l f=.ok b q):∃ t r op,l=t :: r∧f op r=.ok b q:=by
 unfold needF at h
 split at h
 ·split at h
  ·exact ⟨_,_,_,rfl,h⟩
  ·cases h
 ·cases h
theorem elseP_rg {p:Rst} (h:RgR p) {e:Ex} {b:List St} {l r:List K} {s:St} {n:Nat} (he:rgE e) (hb:RgL b n) (hn:n≤1125899906842624) (hk:KRs l) (hl:l.length≤1125899906842624) (x:elseP p e b l=.ok s r):rgS s:=by
 have z:RgL [] 0:=⟨rgs0.2,by simp⟩
 unfold elseP at x
 split at x
 ·cases x; exact rgSB _ _ he hb hn z (by omega)
 ·split at x
  ·obtain ⟨t1,r1,rfl,_,x⟩:=u1b x
   obtain ⟨c,q,e1,x⟩:=u0q x
   cases x
   simp only [List.length_cons] at hl
   exact rgSB _ _ he hb hn (h _ _ _ hk.tl.tl (by omega) e1) (by omega)
  ·cases x; exact rgSB _ _ he hb hn z (by omega)
theorem retP_rg {l r:List K} {s:St} (hk:KRs l) (hl:l.length≤1125899906842624) (x:retP l=.ok s r):rgS s:=by
 unfold retP at x
 split at x
 ·cases x
 ·split at x
  ·cases x; exact rgS0 _ _
  ·obtain ⟨a,r1,e1,x⟩:=u5q x
   obtain ⟨t1,r1,rfl,_,x⟩:=u1b x
   cases x
   exact rgS1 _ _ ml0 (PE_rg hk hl e1)
theorem namP_rg {y:List UInt8} (hy:y.length≤maxLen) {l r:List K} {s:St} (hk:KRs l) (hl:l.length≤1125899906842624) (x:namP y l=.ok s r):rgS s:=by
 unfold namP at x
 split at x
 ·cases x
 ·simp only [List.length_cons] at hl
  split at x
  ·obtain ⟨a,r1,e1,x⟩:=u5q x
   obtain ⟨k1,n1⟩:=PE_kr hk.tl e1
   obtain ⟨t1,r1,rfl,_,x⟩:=u1b x
   obtain ⟨t2,r2,rfl,_,x⟩:=u1b x
   obtain ⟨b,r3,e2,x⟩:=u5q x
   obtain ⟨t3,r3,rfl,_,x⟩:=u1b x
   cases x
   simp only [List.length_cons] at n1
   exact rgS2 _ _ hy (PE_rg hk.tl (by omega) e1) (PE_rg k1.tl.tl (by omega) e2)
  ·obtain ⟨t1,r1,e0,_,x⟩:=u1b x
   cases e0
   obtain ⟨a,r1,e1,x⟩:=u5q x
   obtain ⟨t1,r1,rfl,_,x⟩:=u1b x
   cases x
   exact rgS1 _ _ hy (PE_rg hk.tl (by omega) e1)
theorem stmtP_rg {p:Rst} (h:RgR p) (hs:∀ l,Sfx l (p l)) {t:K} {r q:List K} {s:St} (hk:KRs (t :: r)) (hl:r.length+1≤1125899906842624) (x:u5k p t r=.ok s q):rgS s:=by
 have z:RgL [] 0:=⟨rgs0.2,by simp⟩
 unfold u5k at x
 split at x
 ·obtain ⟨a,r1,e1,x⟩:=u5q x
  obtain ⟨k1,n1⟩:=PE_kr hk.tl e1
  obtain ⟨t2,r2,rfl,_,x⟩:=u1b x
  obtain ⟨b,r3,e3,x⟩:=u0q x
  simp only [List.length_cons] at n1
  have s3:=(hs r2).1 _ _ e3
  have n3:=s3.length_le
  exact elseP_rg h (PE_rg hk.tl (by omega) e1) (h _ _ _ k1.tl (by omega) e3) (by omega) (k1.tl.sfx s3) (by omega) x
 split at x
 ·obtain ⟨a,r1,e1,x⟩:=u5q x
  obtain ⟨k1,n1⟩:=PE_kr hk.tl e1
  obtain ⟨t2,r2,rfl,_,x⟩:=u1b x
  obtain ⟨b,r3,e3,x⟩:=u0q x
  simp only [List.length_cons] at n1
  cases x
  exact rgSB _ _ (PE_rg hk.tl (by omega) e1) (h _ _ _ k1.tl (by omega) e3) (by omega) z (by omega)
 split at x
 ·obtain ⟨t1,r1,rfl,_,x⟩:=u3f x
  obtain ⟨t2,r2,rfl,_,x⟩:=u1b x
  obtain ⟨a,r3,e1,x⟩:=u5q x
  obtain ⟨t3,r3,rfl,_,x⟩:=u1b x
  cases x
  simp only [List.length_cons] at hl
  exact rgS1 _ _ hk.tl.hd.1 (PE_rg hk.tl.tl.tl (by omega) e1)
 split at x
 ·obtain ⟨t1,r1,rfl,_,x⟩:=u1b x
  cases x; exact rgS0 _ _
 split at x
 ·obtain ⟨t1,r1,rfl,_,x⟩:=u1b x
  cases x; exact rgS0 _ _
 split at x
 ·exact retP_rg hk.tl (by omega) x
 split at x
 ·obtain ⟨t1,r1,rfl,_,x⟩:=u1b x
  cases x; exact rgS0 _ _
 split at x
 ·obtain ⟨t1,r1,op,e0,y⟩:=needF_ok x
  clear x
  subst e0
  obtain ⟨t2,r2,rfl,_,x⟩:=u3f y
  obtain ⟨t3,r3,rfl,_,x⟩:=u1b x
  obtain ⟨a,r4,e1,x⟩:=u5q x
  obtain ⟨k1,n1⟩:=PE_kr hk.tl.tl.tl.tl e1
  obtain ⟨t4,r4,rfl,_,x⟩:=u1b x
  obtain ⟨t5,r5,rfl,_,x⟩:=u1b x
  obtain ⟨b,r6,e2,x⟩:=u5q x
  obtain ⟨t6,r6,rfl,_,x⟩:=u1b x
  cases x
  simp only [List.length_cons] at hl n1
  exact rgS2 _ _ hk.tl.tl.hd.1 (PE_rg hk.tl.tl.tl.tl (by omega) e1) (PE_rg k1.tl.tl (by omega) e2)
 split at x
 ·obtain ⟨t1,r1,rfl,_,x⟩:=u3f x
  obtain ⟨t2,r2,rfl,_,x⟩:=u1b x
  obtain ⟨t3,r3,op,e0,y⟩:=needF_ok x
  clear x
  subst e0
  obtain ⟨a,r4,e1,x⟩:=u5q y
  obtain ⟨t4,r4,rfl,_,x⟩:=u1b x
  cases x
  simp only [List.length_cons] at hl
  exact rgS1 _ _ hk.tl.hd.1 (PE_rg hk.tl.tl.tl.tl (by omega) e1)
 ·obtain ⟨t1,r1,e0,_,x⟩:=u3f x
  cases e0
  exact namP_rg hk.hd.1 hk.tl (by omega) x
theorem restP_rg {p:Rst} (h:RgR p) (hs:∀ l,Sfx l (p l)):RgR (restP p):=by
 intro l a r hk hl e
 unfold restP at e
 split at e
 ·cases e
 ·rename_i t r0
  simp only [List.length_cons] at hl
  split at e
  ·cases e; exact ⟨rgs0.2,by simp⟩
  ·obtain ⟨s,q,e1,e⟩:=u0q e
   obtain ⟨ss,q2,e2,e⟩:=u0q e
   cases e
   have hh:q <:+ r0:=by
    rcases stmtP_head hs t r0 with k | k
    ·exact k.1 _ _ e1
    ·rw [k] at e1; cases e1
   have n1:=hh.length_le
   have h1:=stmtP_rg h hs hk hl e1
   have h2:=h _ _ _ (hk.tl.sfx hh) (by omega) e2
   refine ⟨?_,?_⟩
   ·rw [rgSs]; exact ⟨h1,h2.1⟩
   ·have:=h2.2
    simp only [List.length_cons]; omega
theorem goS_rg:∀ f,RgR (goS f)
 | 0=>fun _ _ _ _ _ e=>by cases e
 | f+1=>restP_rg (goS_rg f) (fun l=>goS_sfx f l)
theorem PR_rg:RgR PR:=fun l a r hk hl e=>goS_rg _ l a r hk hl e
theorem moreP_all {α:Type} {one:List K→Res α} {S:α→Prop} (hs:∀ l,Sfx l (one l)) (h1:∀ l a r,KRs l→one l=.ok a r→S a) (hl:LenO one):∀ f l xs r,KRs l→moreP one f l=.ok xs r→(∀ a∈xs,S a)∧xs.length≤l.length
 | 0,l,xs,r,_,e=>by cases e
 | f+1,l,xs,r,hk,e=>by
  unfold moreP at e
  split at e
  ·cases e
  ·split at e
   ·obtain ⟨a,q,e1,e⟩:=u0q e
    obtain ⟨xs',q2,e2,e⟩:=u0q e
    cases e
    have s1:=(hs _).1 _ _ e1
    have n1:=hl _ _ _ e1
    obtain ⟨h2,h3⟩:=moreP_all hs h1 hl f q xs' _ (hk.tl.sfx s1) e2
    have ha:=h1 _ _ _ hk.tl e1
    refine ⟨fun b hb=>?_,by simp only [List.length_cons]; omega⟩
    rcases List.mem_cons.1 hb with rfl | hb
    ·exact ha
    ·exact h2 b hb
   ·split at e
    ·cases e; exact ⟨fun _ hb=>(by cases hb),by simp⟩
    ·cases e
theorem listP_all {α:Type} {one:List K→Res α} {S:α→Prop} (hs:∀ l,Sfx l (one l)) (h1:∀ l a r,KRs l→one l=.ok a r→S a) (hl:LenO one) {l:List K} {xs:List α} {r:List K} (hk:KRs l) (e:listP one l=.ok xs r):(∀ a∈xs,S a)∧xs.length≤l.length:=by
 unfold listP at e
 obtain ⟨t,r0,rfl,_,e⟩:=u1b e
 split at e
 ·cases e
 ·split at e
  ·cases e; exact ⟨fun _ hb=>(by cases hb),by simp⟩
  ·obtain ⟨a,q,e1,e⟩:=u0q e
   obtain ⟨xs',q2,e2,e⟩:=u0q e
   cases e
   have s1:=(hs _).1 _ _ e1
   have n1:=hl _ _ _ e1
   obtain ⟨h2,h3⟩:=moreP_all hs h1 hl _ q xs' _ (hk.tl.sfx s1) e2
   have ha:=h1 _ _ _ hk.tl e1
   refine ⟨fun b hb=>?_,by simp only [List.length_cons] at *; omega⟩
   rcases List.mem_cons.1 hb with rfl | hb
   ·exact ha
   ·exact h2 b hb
theorem sharedP_all:∀ f l xs r,KRs l→u3e f l=.ok xs r→(∀ a∈xs,a.1.length≤maxLen)∧xs.length≤l.length
 | 0,l,xs,r,_,e=>by cases e
 | f+1,l,xs,r,hk,e=>by
  unfold u3e at e
  split at e
  ·cases e; exact ⟨fun _ hb=>(by cases hb),by simp⟩
  ·split at e
   ·obtain ⟨t1,r1,rfl,_,e⟩:=u3f e
    obtain ⟨t2,r2,rfl,_,e⟩:=u1b e
    obtain ⟨t3,r3,rfl,_,e⟩:=needI_ok e
    obtain ⟨t4,r4,rfl,_,e⟩:=u1b e
    obtain ⟨t5,r5,rfl,_,e⟩:=u1b e
    obtain ⟨xs',r6,e1,e⟩:=u0q e
    cases e
    obtain ⟨h2,h3⟩:=sharedP_all f r5 xs' _ hk.tl.tl.tl.tl.tl.tl e1
    refine ⟨fun b hb=>?_,by simp only [List.length_cons]; omega⟩
    rcases List.mem_cons.1 hb with rfl | hb
    ·exact hk.tl.hd.1
    ·exact h2 b hb
   ·cases e; exact ⟨fun _ hb=>(by cases hb),by simp⟩
def rgI:It→Prop
 | .fn x ps b=>rgF ⟨x,ps,b⟩
 | .ker x ps sh b=>rgK ⟨x,ps,sh,b⟩
theorem nameO_all (l:List K) (a:List UInt8) (r:List K) (hk:KRs l) (e:nameO l=.ok a r):a.length≤maxLen:=by
 obtain ⟨t,q,rfl,_,e⟩:=u3f e
 cases e; exact hk.hd.1
theorem paramO_all (l:List K) (a:List UInt8 × Bool) (r:List K) (hk:KRs l) (e:u4h l=.ok a r):a.1.length≤maxLen:=by
 unfold u4h at e
 split at e
 ·cases e
 ·split at e
  ·obtain ⟨t1,r1,rfl,_,e⟩:=u3f e
   cases e; exact hk.tl.hd.1
  ·obtain ⟨t1,r1,e1,_,e⟩:=u1b e
   cases e1
   obtain ⟨t2,r2,rfl,_,e⟩:=u3f e
   cases e; exact hk.tl.hd.1
theorem itemP_rg {l r:List K} {i:It} (hk:KRs l) (hl:l.length≤1125899906842624) (e:u8a l=.ok i r):rgI i:=by
 unfold u8a at e
 split at e
 ·cases e
 ·split at e
  ·obtain ⟨t1,r1,rfl,_,e⟩:=u3f e
   obtain ⟨ps,r2,e2,e⟩:=u0q e
   have s2:=(listP_sfx nameO_sfx r1).1 _ _ e2
   obtain ⟨t3,r3,rfl,_,e⟩:=u1b e
   obtain ⟨b,r4,e4,e⟩:=u0q e
   cases e
   have n2:=s2.length_le
   have k3:=hk.tl.tl.sfx s2
   obtain ⟨p1,p2⟩:=listP_all (S:=fun a=>a.length≤maxLen) nameO_sfx nameO_all u6o hk.tl.tl e2
   simp only [List.length_cons] at *
   have hb:=PR_rg _ _ _ k3.tl (by omega) e4
   have:=hb.2
   exact ⟨hk.tl.hd.1,p1,by show ps.length≤_; omega,by show b.length≤_; omega,hb.1⟩
  ·obtain ⟨t1,r1,e1,_,e⟩:=u1b e
   cases e1
   obtain ⟨t2,r2,rfl,_,e⟩:=u3f e
   obtain ⟨ps,r3,e3,e⟩:=u0q e
   have s3:=(listP_sfx paramO_sfx r2).1 _ _ e3
   obtain ⟨t4,r4,rfl,_,e⟩:=u1b e
   obtain ⟨sh,r5,e5,e⟩:=u0q e
   have s5:=(sharedP_sfx _ r4).1 _ _ e5
   obtain ⟨b,r6,e6,e⟩:=u0q e
   cases e
   have n3:=s3.length_le
   have n5:=s5.length_le
   have k3:=hk.tl.tl.sfx s3
   obtain ⟨p1,p2⟩:=listP_all (S:=fun a=>a.1.length≤maxLen) paramO_sfx paramO_all u5m hk.tl.tl e3
   obtain ⟨q1,q2⟩:=sharedP_all _ _ _ _ k3.tl e5
   simp only [List.length_cons] at *
   have hb:=PR_rg _ _ _ (k3.tl.sfx s5) (by omega) e6
   have:=hb.2
   exact ⟨hk.tl.hd.1,p1,by show ps.length≤_; omega,q1,by show sh.length≤_; omega,by show b.length≤_; omega,hb.1⟩
theorem progP_rg:∀ f l is r,KRs l→l.length≤1125899906842624→progP f l=.ok is r→(∀ i∈is,rgI i)∧is.length≤l.length
 | 0,l,is,r,_,_,e=>by cases e
 | f+1,l,is,r,hk,hl,e=>by
  unfold progP at e
  split at e
  ·cases e; exact ⟨fun _ hb=>(by cases hb),by simp⟩
  ·rename_i t r0
   obtain ⟨i,q,e1,e⟩:=u0q e
   obtain ⟨is',q2,e2,e⟩:=u0q e
   cases e
   have s1:=(itemP_sfx _).1 _ _ e1
   have n1:=itemP_len _ _ _ e1
   have hi:=itemP_rg hk hl e1
   obtain ⟨h2,h3⟩:=progP_rg f q is' _ (hk.sfx s1) (by omega) e2
   refine ⟨fun b hb=>?_,by simp only [List.length_cons] at *; omega⟩
   rcases List.mem_cons.1 hb with rfl | hb
   ·exact hi
   ·exact h2 b hb
theorem PP_rg {l r:List K} {is:List It} (hk:KRs l) (hl:l.length≤1125899906842624) (e:PP l=.ok is r):(∀ i∈is,rgI i)∧is.length≤l.length:=progP_rg _ l is r hk hl e
theorem pg_rg {is:List It} (h:∀ i∈is,rgI i):(∀ f∈(pg is).fns,rgF f)∧(∀ f∈(pg is).krs,rgK f)∧(pg is).fns.length+(pg is).krs.length=is.length:=by
 induction is with
 | nil=>exact ⟨fun _ h=>(by cases h),fun _ h=>(by cases h),rfl⟩
 | cons i is ih =>
  obtain ⟨h1,h2,h3⟩:=ih fun j hj=>h j (by simp [hj])
  have hi:=h i (by simp)
  cases i with
  | fn x ps b =>
   refine ⟨fun f hf=>?_,h2,?_⟩
   ·rcases List.mem_cons.1 (show f∈(⟨x,ps,b⟩:Fn) :: (pg is).fns from hf) with rfl | hf
    ·exact hi
    ·exact h1 f hf
   ·show ((⟨x,ps,b⟩:Fn) :: (pg is).fns).length+(pg is).krs.length=_
    simp only [List.length_cons]; omega
  | ker x ps sh b =>
   refine ⟨h1,fun f hf=>?_,?_⟩
   ·rcases List.mem_cons.1 (show f∈(⟨x,ps,sh,b⟩:Kr) :: (pg is).krs from hf) with rfl | hf
    ·exact hi
    ·exact h2 f hf
   ·show (pg is).fns.length+((⟨x,ps,sh,b⟩:Kr) :: (pg is).krs).length=_
    simp only [List.length_cons]; omega
end Go.Proofs.YtbkhnilbgocpnaaGreatDoor.SynC
