import Derived.Deep.QuietTactic
import Derived.BigQuiet
import Derived.IntWalk
import Derived.Test.YtbkhnilbgocpnaaGreatDoorK24
import Derived.Test.YtbkhnilbgocpnaaGreatDoorK23
set_option linter.unusedVariables false
set_option linter.unusedSimpArgs false
set_option maxRecDepth 100000
set_option maxHeartbeats 2000000
open Go.Lib (hid)
namespace Go.Proofs.YtbkhnilbgocpnaaGreatDoor.SynC
open Go.Proofs.YtbkhnilbgocpnaaGreatDoor.LexC
open Go Go.ChangeShapes Go.WideShapes Go.ChangeAt Go.RowKit Go.Deep
def lgB (x:List UInt8):Int:=if 100<x.length then 2000 else 0
def nmOf:Ex→List UInt8
 | .mk _ _ _ x _=>x
mutual
def cntX:Ex→Int→Int
 | .mk _ _ _ _ kids,most=>cntL kids most 0
def cntL:List Ex→Int→Int→Int
 | [],_,n=>n
 | e :: r,most,n=>if n≤most then cntL r most (wrap64 (wrap64 (wrap64 (n+1)+lgB (nmOf e))+cntX e (wrap64 (most - n)))) else n
end
theorem cntL_cons (e:Ex) (r:List Ex) (most n:Int):cntL (e :: r) most n=if n≤most then cntL r most (wrap64 (wrap64 (wrap64 (n+1)+lgB (nmOf e))+cntX e (wrap64 (most - n)))) else n:=by
 rw [cntL]
theorem w64_id {n:Int} (h0:-9223372036854775808≤n) (h1:n≤9223372036854775807):wrap64 n=n:=by unfold wrap64; omega
theorem name_le {x:List UInt8} (h:u0o x=true):x.length≤16:=by
 rw [nm_eq] at h
 exact u4v h
theorem nm16 {kind op num:Int} {x:List UInt8} {n:Nat} (h:u3y u0o kind op num x n=true):x.length≤16:=by
 unfold u3y at h
 repeat' split at h
 all_goals (try simp only [Bool.and_eq_true] at h)
 all_goals first | (cases h; done) | exact name_le h.1.1.2 | exact (by rw [List.isEmpty_iff.1 h.1.1.2]; simp)
theorem lg_ok {x:List UInt8} (h:x.length≤16):lgB x=0:=by unfold lgB; rw [if_neg (by omega)]
mutual
theorem cntX_ok:(e:Ex)→∀ most:Int,okE u0o e=true→599+u5e e≤most→most≤1000→cntX e most+1=u5e e
 | .mk kind op num x kids,most,ho,h1,h2=>by
  rw [okE,Bool.and_eq_true] at ho
  rw [u5e] at h1
  rw [cntX,cntL_ok kids most 0 ho.2 (by omega) (by omega) h2,u5e]; omega
theorem cntL_ok:(l:List Ex)→∀ most n:Int,okEs u0o l=true→0≤n→600+n+u0x l≤most→most≤1000→cntL l most n=n+u0x l
 | [],most,n,_,_,_,_=>by rw [cntL,u0x]; omega
 | e :: r,most,n,ho,hn,h1,h2=>by
  rw [okEs,Bool.and_eq_true] at ho
  rw [u0x] at h1
  have p1:=partsE_pos e
  have p2:=u2p r
  have hx:lgB (nmOf e)=0:=by
   cases e with
   | mk kind op num x kids =>
    have:=ho.1
    rw [okE,Bool.and_eq_true] at this
    exact lg_ok (nm16 this.1)
  have hw:wrap64 (most - n)=most - n:=w64_id (by omega) (by omega)
  have hc:=cntX_ok e (most - n) ho.1 (by omega) (by omega)
  rw [cntL_cons,if_pos (by omega),hx,hw,w64_id (n:=n+1) (by omega) (by omega),w64_id (n:=n+1+0) (by omega) (by omega),w64_id (by omega) (by omega),u0x]
  rw [cntL_ok r most _ ho.2 (by omega) (by omega) h2]
  omega
end
theorem cntL_drop (l:List Ex) (k:Nat) (a:Ex) (most n:Int) (h:l[k]? = some a) (hn:n≤most):cntL (l.drop k) most n=cntL (l.drop (k+1)) most (wrap64 (wrap64 (wrap64 (n+1)+lgB (nmOf a))+cntX a (wrap64 (most - n)))):=by
 obtain ⟨h1,h2⟩:=List.getElem?_eq_some_iff.1 h
 rw [List.drop_eq_getElem_cons h1,h2,cntL_cons,if_pos hn]
theorem cntL_stop (l:List Ex) (most n:Int) (h:l=[]∨¬ n≤most):cntL l most n=n:=by
 cases l with
 | nil=>rw [cntL]
 | cons e r =>
  rcases h with h | h
  ·cases h
  ·rw [cntL_cons,if_neg h]
theorem u7z (x:List UInt8) (hx:x.length≤maxLen) (w:World):Calls Tryz.prog 52 #[.string (bs x)] w fun e w'=>e=.returned (.int .i64 (lgB x))∧w'=w:=by
 by_cases h:100<x.length
 ·have hd:decide ((100:Int)<((bs x).size:Nat))=true:=by rw [u4t]; simp; omega
  have hl:lgB x=2000:=by unfold lgB; rw [if_pos h]
  rw [hl]
  go_enter Tryz.func52,Tryz.ntmps52
  go_wp2
  go_ret
  exact ⟨rfl,rfl⟩
 ·have hd:decide ((100:Int)<((bs x).size:Nat))=false:=by rw [u4t]; simp; omega
  have hl:lgB x=0:=by unfold lgB; rw [if_neg h]
  rw [hl]
  go_enter Tryz.func52,Tryz.ntmps52
  go_wp2
  go_ret
  exact ⟨rfl,rfl⟩
theorem q_same {f:FuncId} {args:Array Value} {w:World} {n:Nat} {v:Value} (h:∀ k:Nat,Calls Tryz.prog f args (w.drewN k) fun e w'=>e=.returned v∧∃ m,w'=(w.drewN k).drewN m) :
  Calls Tryz.prog f args (w.drewN n) fun e w''=>e=.returned v∧∃ m,w''=w.drewN m:=(h n).mono fun _ _ ⟨he,m,hm⟩=>⟨he,n+m,by rw [hm,World.drewN_drewN]⟩
theorem q_add {f:FuncId} {args:Array Value} {w:World} {a n:Nat} {v:Value} (h:∀ k:Nat,Calls Tryz.prog f args (w.drewN k) fun e w'=>e=.returned v∧∃ m,w'=(w.drewN k).drewN m) :
  Calls Tryz.prog f args (w.drewN (a+n)) fun e w''=>e=.returned v∧∃ m,w''=w.drewN (a+m):=(h (a+n)).mono fun _ _ ⟨he,m,hm⟩=>⟨he,n+m,by rw [hm,World.drewN_drewN,Nat.add_assoc]⟩
theorem long_n (x:List UInt8) (hx:x.length≤maxLen) (w:World):∀ k:Nat,Calls Tryz.prog 52 #[.string (bs x)] (w.drewN k) fun e w'=>e=.returned (.int .i64 (lgB x))∧∃ m,w'=(w.drewN k).drewN m :=
 fun k=>(u7z x hx _).mono fun _ _ ⟨he,hm⟩=>⟨he,0,hm⟩
def kidsOf:Ex→List Ex
 | .mk _ _ _ _ kids=>kids
def CX (e:Ex):Prop:=∀ (w:World) (most:Int) (A:Option Addr) (m c:Nat),SlE w (fun g=>g<w.heap.size) (.slice A m c) (kidsOf e)→rgE e →
 Calls Tryz.prog 28 #[.slice A m c,.int .i64 most] w fun e' w'=>e'=.returned (.int .i64 (cntX e most))∧∃ n,w'=w.drewN n
theorem sl_drewN {w:World} {v:Value} {l:List Ex} (h:SlE w (fun g=>g<w.heap.size) v l) (n:Nat):SlE (w.drewN n) (fun g=>g<(w.drewN n).heap.size) v l:=sl_bel h (u6r (Below.refl _ _) n)
theorem exprs_l (l:List Ex) (hl:∀ a∈l,CX a) (w:World) (most:Int) (A:Option Addr) (m c:Nat) (hs:SlE w (fun g=>g<w.heap.size) (.slice A m c) l) (hg:rgEs l) (hll:l.length≤1125899906842624) :
  Calls Tryz.prog 28 #[.slice A m c,.int .i64 most] w fun e' w'=>e'=.returned (.int .i64 (cntL l most 0))∧∃ n,w'=w.drewN n:=by
 have hm1:=slE_len hs
 subst hm1
 have HS:=hid hs
 have HL:=hid hl
 have HG:=hid hg
 clear hs hl hg
 obtain ⟨tot,htot⟩:∃ tot,cntL l most 0=tot:=⟨_,rfl⟩
 have HT:=hid htot
 rw [htot]
 clear htot
 go_enter Tryz.func28,Tryz.ntmps28
 go_wp2_with fail
 go_loopw [5,6] (fun n i wr=>∃ (k:Nat) (v:Int) (j:Nat),k≤l.length∧i=.int .i64 k∧n=.int .i64 v∧tot=cntL (l.drop k) most v∧wr=w.drewN j) (fun _ i _=>l.length - (intOf i).toNat)
 case atStart=>exact ⟨0,0,0,Nat.zero_le _,rfl,rfl,by rw [List.drop_zero]; exact HT.out.symm,rfl⟩
 case round =>
  obtain ⟨k,v,j,hk,rfl,rfl,htk,rfl⟩:=hrel
  have HTK:=hid htk
  clear htk
  by_cases hlt:k<l.length
  ·by_cases hm:v≤most
   ·obtain ⟨a,ha⟩:∃ a,l[k]? = some a:=⟨l[k],List.getElem?_eq_getElem hlt⟩
    obtain ⟨g,o,rfl,_,hPg,hrows⟩:=u4j HS.out (by omega)
    obtain ⟨bk,bo,bn,bx,bA,bm,bc,⟨b0,b1,b2,b3,b4⟩,hrb⟩:=hrows k a ha
    have hin:(0:Int)≤k∧(k:Int)<l.length:=⟨by omega,by omega⟩
    have hmem:=List.mem_of_getElem? ha
    have hca:=HL.out a hmem
    have hga:=rgEs_at HG.out a hmem
    obtain ⟨v1,hv1⟩:∃ v1,cntX a (wrap64 (most - v))=v1:=⟨_,rfl⟩
    obtain ⟨v0,hv0⟩:∃ v0,lgB (nmOf a)=v0:=⟨_,rfl⟩
    have hdrop:=cntL_drop l k a most v ha hm
    rw [hv1,hv0] at hdrop
    have HD:=hid (HTK.out.trans hdrop)
    have hq:bx=nmOf a∧SlE w (fun g=>g<w.heap.size) (.slice bA bm bc) (kidsOf a):=by
     cases a with
     | mk kind op num name kids =>
      rw [RE_eq] at hrb
      obtain ⟨K,hc,hK⟩:=hrb
      simp only [exRow,List.cons.injEq,Value.string.injEq,and_true] at hc
      exact ⟨bs_inj hc.2.2.2.1,by rw [hc.2.2.2.2]; exact hK⟩
    obtain ⟨hq1,hq2⟩:=hq
    have hnl:bx.length≤maxLen:=by
     rw [hq1]
     cases a with
     | mk kind op num name kids=>rw [rgE] at hga; exact hga.2.1
    have h1:∀ k:Nat,Calls Tryz.prog 52 #[.string (bs bx)] (w.drewN k) fun e w'=>e=.returned (.int .i64 v0)∧∃ m,w'=(w.drewN k).drewN m:=by
     rw [← hv0,← hq1]; exact long_n bx hnl w
    have h2:∀ k:Nat,Calls Tryz.prog 28 #[.slice bA bm bc,.int .i64 (wrap64 (most - v))] (w.drewN k) fun e w'=>e=.returned (.int .i64 v1)∧∃ m,w'=(w.drewN k).drewN m:=by
     rw [← hv1]; exact fun k=>hca (w.drewN k) _ _ _ _ (sl_drewN hq2 k) hga
    have H1:=hid h1
    have H2:=hid h2
    clear hrows hrb ha hmem hca hga hv1 hv0 hdrop hq1 hq2 hnl h1 h2
    go_wp2_with fail
    go_quiet ((first | (go_at_call 52; first | exact q_same H1.out | exact q_add H1.out) | (go_at_call 28; first | exact q_same H2.out | exact q_add H2.out)))
    go_wp2
    go_roundw
    case rel=>exact ⟨k+1,_,_,by omega,by go_num,rfl,HD.out,by first | rfl | (rw [World.drewN_drewN])⟩
    case measure=>simp [intOf]; omega
   ·have hm2:decide (v≤most)=false:=by simpa using hm
    have hstop:=cntL_stop (l.drop k) most v (.inr hm)
    have HST:=hid (HTK.out.trans hstop)
    clear hstop
    go_wp2
    go_ret
    exact ⟨by rw [HST.out]; rfl,_,rfl⟩
  ·have hd:l.drop k=[]:=List.drop_eq_nil_of_le (by omega)
   have hstop:=cntL_stop (l.drop k) most v (.inl hd)
   have HST:=hid (HTK.out.trans hstop)
   clear hstop hd
   go_wp2
   go_ret
   exact ⟨by rw [HST.out]; rfl,_,rfl⟩
mutual
theorem cx_all:(e:Ex)→CX e
 | .mk kind op num name kids=>fun w most A m c hs hg=>by
  rw [rgE] at hg
  have:=exprs_l kids (cxs_all kids) w most A m c hs hg.2.2.2 hg.2.2.1
  rw [cntX]; exact this
theorem cxs_all:(l:List Ex)→∀ a∈l,CX a
 | [],_,h=>by cases h
 | e :: r,a,h=>by
  rcases List.mem_cons.1 h with h1 | h1
  ·rw [h1]; exact cx_all e
  ·exact cxs_all r a h1
end
theorem exprs_28 (l:List Ex) (w:World) (most:Int) (A:Option Addr) (m c:Nat) (hs:SlE w (fun g=>g<w.heap.size) (.slice A m c) l) (hg:rgEs l) (hll:l.length≤1125899906842624) :
  Calls Tryz.prog 28 #[.slice A m c,.int .i64 most] w fun e' w'=>e'=.returned (.int .i64 (cntL l most 0))∧∃ n,w'=w.drewN n:=exprs_l l (cxs_all l) w most A m c hs hg hll
end Go.Proofs.YtbkhnilbgocpnaaGreatDoor.SynC
