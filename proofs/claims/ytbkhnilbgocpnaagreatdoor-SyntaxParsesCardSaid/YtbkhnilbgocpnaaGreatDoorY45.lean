import Derived.Test.YtbkhnilbgocpnaaGreatDoorY44
import Derived.Test.YtbkhnilbgocpnaaGreatDoorY18
import Derived.Test.YtbkhnilbgocpnaaGreatDoorY0
import Derived.Test.YtbkhnilbgocpnaaGreatDoorY28
import Derived.Test.YtbkhnilbgocpnaaGreatDoorY13
set_option linter.unusedVariables false
set_option linter.unusedSimpArgs false
set_option maxRecDepth 100000
set_option maxHeartbeats 2000000
open Go.Lib (hid)
namespace Go.Proofs.YtbkhnilbgocpnaaGreatDoor.SynC
open Go.Proofs.YtbkhnilbgocpnaaGreatDoor.LexC
open Go Go.ChangeShapes Go.WideShapes Go.ChangeAt Go.RowKit Go.Deep
def headF (f:Fn):Bool:=u0f f.name&&decide (f.params.length≤6)&&f.params.all u0f
def headK (f:Kr):Bool:=u0f f.name&&decide (f.params.length≤6)&&f.params.all parB&&decide (f.shared.length≤4)&&f.shared.all arrB
section
variable {α:Type} (hd:α→Bool) (bd:α→List St)
def szO (m:Ms) (a:α):Ms:=if hd a then (mSs u0f ⟨m.parts,m.depth,true⟩ 1 0 (bd a)).1 else ⟨m.parts,m.depth,false⟩
def szL (m:Ms):List α→Ms
 | []=>m
 | a :: r=>if m.right=false then m else szL (szO hd bd m a) r
def fitG (p:Int):List α→Bool
 | []=>true
 | a :: r=>(hd a&&u6y u0f p 1 (bd a))&&fitG (p+u0r (bd a)) r
theorem szL_off {m:Ms} {l:List α} (h:m.right=false):szL hd bd m l=m:=by
 cases l with
 | nil=>rfl
 | cons a r=>rw [szL,if_pos h]
theorem szL_on {m:Ms} {a:α} {r:List α} (h:m.right=true):szL hd bd m (a :: r)=szL hd bd (szO hd bd m a) r:=by rw [szL,if_neg (by rw [h]; simp)]
theorem fitSs_iff {p:Int} {l:List St}:u6y u0f p 1 l=true↔FitSs u0f p 1 l:=by
 unfold u6y FitSs
 simp only [Bool.and_eq_true,decide_eq_true_eq,and_assoc]
theorem szL_right:∀ (l:List α) (m:Ms),m.right=true→0≤m.depth→fitG hd bd m.parts l=true →
  szL hd bd m l=⟨m.parts+sumP (l.map bd),newD m.depth 1 (maxD (l.map bd)) (maxX (l.map bd)),true⟩
 | [],m,hr,hz,_=>by
  obtain ⟨p,d,r⟩:=m
  simp only at hr hz
  subst hr
  simp only [szL,List.map_nil,sumP,maxD,maxX,newD,Ms.mk.injEq,and_true]
  omega
 | a :: r,m,hr,hz,h=>by
  rw [fitG] at h
  simp only [Bool.and_eq_true] at h
  obtain ⟨⟨h1,h2⟩,h3⟩:=h
  obtain ⟨f1,f2,f3,f4⟩:=fitSs_iff.1 h2
  have hd1:=u3k (bd a)
  have hx1:=u5v (bd a)
  rw [szL_on hd bd hr,szO,if_pos h1,u9l u0f (bd a) ⟨m.parts,m.depth,true⟩ 1 0 rfl hz (Int.le_refl _) f1 f2 f3 f4]
  simp only
  rw [szL_right r ⟨m.parts+u0r (bd a),_,true⟩ rfl (by show 0≤max _ _; omega) h3]
  simp only [List.map_cons,sumP,maxD,maxX,newD,Ms.mk.injEq,and_true]
  omega
theorem szL_wrong:∀ (l:List α) (m:Ms),m.right=true→0≤m.depth→m.parts≤400→fitG hd bd m.parts l=false→(szL hd bd m l).right=false
 | [],m,hr,hz,hp,h=>by cases h
 | a :: r,m,hr,hz,hp,h=>by
  rw [szL_on hd bd hr,szO]
  rw [fitG] at h
  cases h1:hd a
  ·simp only [Bool.false_eq_true,if_false]
   rw [szL_off hd bd rfl]
  ·rw [if_pos rfl]
   by_cases h2:FitSs u0f m.parts 1 (bd a)
   ·have h2':=fitSs_iff.2 h2
    obtain ⟨f1,f2,f3,f4⟩:=h2
    rw [h1,h2'] at h
    rw [u9l u0f (bd a) ⟨m.parts,m.depth,true⟩ 1 0 rfl hz (Int.le_refl _) f1 f2 f3 f4]
    exact szL_wrong r ⟨m.parts+u0r (bd a),_,true⟩ rfl (by have hz1:0≤m.depth:=hz; show 0≤max (Ms.depth ⟨m.parts,m.depth,true⟩) _; simp only; omega) f2 (by simpa using h)
   ·have:=mSs_wrong u0f (bd a) ⟨m.parts,m.depth,true⟩ 1 0 rfl hz (Int.le_refl _) hp (by omega) h2
    rw [szL_off hd bd this]; exact this
end
theorem fitG_F:∀ (l:List Fn) (p:Int),fitG headF (·.body) p l=j0c p l
 | [],_=>rfl
 | a :: r,p=>by rw [fitG,j0c,fitG_F r]; rfl
theorem fitG_K:∀ (l:List Kr) (p:Int),fitG headK (·.body) p l=j0b p l
 | [],_=>rfl
 | a :: r,p=>by rw [fitG,j0b,fitG_K r]; rfl
def szP (q:Pg):Ms:=szL headK (·.body) (szL headF (·.body) ⟨0,0,true⟩ q.fns) q.krs
theorem szP_right {q:Pg} (h:fitP q=true):szP q=⟨u9j q,depthP q,true⟩:=by
 unfold fitP at h
 rw [Bool.and_eq_true] at h
 unfold szP
 rw [szL_right headF (·.body) q.fns ⟨0,0,true⟩ rfl (Int.le_refl _) (by rw [fitG_F]; exact h.1)]
 simp only
 have hn:(0:Int)≤newD 0 1 (maxD (q.fns.map (·.body))) (maxX (q.fns.map (·.body))):=by unfold newD; omega
 rw [szL_right headK (·.body) q.krs ⟨0+sumP (q.fns.map (·.body)),newD 0 1 (maxD (q.fns.map (·.body))) (maxX (q.fns.map (·.body))),true⟩ rfl hn (by rw [fitG_K,Int.zero_add]; exact h.2)]
 unfold u9j depthP bodF bodK
 rw [Int.zero_add]
theorem szP_wrong {q:Pg} (h:fitP q=false):(szP q).right=false:=by
 unfold fitP at h
 unfold szP
 cases h1:j0c 0 q.fns
 ·have:=szL_wrong headF (·.body) q.fns ⟨0,0,true⟩ rfl (Int.le_refl _) (by show (0:Int)≤400; omega) (by rw [fitG_F]; exact h1)
  rw [szL_off _ _ this]; exact this
 ·rw [h1,Bool.true_and] at h
  have hle:0+sumP (q.fns.map (·.body))≤400:=fitFs_le q.fns 0 (by omega) h1
  have h:j0b (sumP (q.fns.map (·.body))) q.krs=false:=h
  rw [szL_right headF (·.body) q.fns ⟨0,0,true⟩ rfl (Int.le_refl _) (by rw [fitG_F]; exact h1)]
  simp only
  have hn:(0:Int)≤newD 0 1 (maxD (q.fns.map (·.body))) (maxX (q.fns.map (·.body))):=by unfold newD; omega
  generalize newD 0 1 (maxD (q.fns.map (·.body))) (maxX (q.fns.map (·.body)))=D at *
  generalize sumP (q.fns.map (·.body))=P at *
  have hk:fitG headK (·.body) (0+P) q.krs=false:=by rw [fitG_K,Int.zero_add]; exact h
  exact szL_wrong headK (·.body) q.krs ⟨0+P,D,true⟩ rfl hn hle hk
theorem adrop {α:Type} {f:α→Bool} {l:List α} {k:Nat} {a:α} (h:l[k]? = some a):(l.drop k).all f=(f a&&(l.drop (k+1)).all f):=by
 obtain ⟨h1,h2⟩:=List.getElem?_eq_some_iff.1 h
 rw [List.drop_eq_getElem_cons h1,h2,List.all_cons]
theorem allNames_106 (l:List (List UInt8)) (hl:∀ a∈l,a.length≤maxLen) (hll:l.length≤1125899906842624) (w:World) (A:Option Addr) (m c:Nat) (hs:SlR rdN 1 (fun g=>g<w.heap.size) w (.slice A m c) l) :
  Calls Tryz.prog 106 #[.slice A m c] w fun e w'=>e=.returned (.bool (l.all u0f))∧Below w.heap.size w w':=by
 have hm:=hs.len
 subst hm
 have HS:=hid hs
 have HL:=hid hl
 obtain ⟨R,hR⟩:∃ R,l.all u0f=R:=⟨_,rfl⟩
 rw [hR]
 have HR:=hid hR
 clear hs hl hR
 go_enter Tryz.func106,Tryz.ntmps106
 go_wp2_with fail
 go_loopw [3] (fun i wr=>∃ (k:Nat),k≤l.length∧i=.int .i64 k∧R=(l.drop k).all u0f∧Below w.heap.size w wr) (fun i _=>l.length - (intOf i).toNat)
 case atStart=>exact ⟨0,Nat.zero_le _,rfl,by rw [List.drop_zero]; exact HR.out.symm,Below.refl _ _⟩
 case round =>
  obtain ⟨k,hk,rfl,heq,hbr⟩:=hrel
  obtain ⟨wo,rfl⟩:∃ z,z=wr:=⟨_,rfl⟩
  have HQ:=hid heq
  have HBR:=hid hbr
  by_cases hlt:k<l.length
  ·obtain ⟨a,ha⟩:∃ a,l[k]? = some a:=⟨l[k],List.getElem?_eq_getElem hlt⟩
   obtain ⟨g,o,rfl,_,hPg,hrows⟩:=u2c (by decide) (fun P w cs a h=>⟨.string (bs a),by unfold rdN at h; subst h; rfl⟩) (u1m u2t hbr HS.out) (by omega)
   obtain ⟨cs,hcs,hrd⟩:=hrows k a ha
   have hrd:cs=[.string (bs a)]:=hrd
   subst hrd
   have d0:=hcs 0 _ rfl
   simp only [Nat.mul_one,Nat.add_zero] at d0
   have hin:(0:Int)≤k∧(k:Int)<l.length:=⟨by omega,by omega⟩
   have hx:=HL.out a (List.mem_of_getElem? ha)
   have hd:=adrop (f:=u0f) ha
   obtain ⟨q,hq⟩:∃ q,u0f a=q:=⟨_,rfl⟩
   have HN:=hid (fun w'=>u5l a hx w')
   rw [hq] at hd HN
   have HD:=hid hd
   clear heq hbr hrows hcs ha hd hq
   cases q
   ·go_wp2_with fail
    refine (HN.out _).mono ?_
    rintro e w1 ⟨rfl,hb1⟩
    have HB1:=hid (HBR.out.trans (hb1.mono HBR.out.size))
    clear hb1
    go_wp2
    go_ret
    rw [HQ.out,HD.out]
    exact ⟨rfl,HB1.out⟩
   ·go_wp2_with fail
    refine (HN.out _).mono ?_
    rintro e w1 ⟨rfl,hb1⟩
    have HB1:=hid (HBR.out.trans (hb1.mono HBR.out.size))
    clear hb1
    go_wp2
    go_roundw
    case rel=>exact ⟨k+1,by omega,by go_num,by rw [HQ.out,HD.out]; rfl,HB1.out⟩
    case measure=>simp [intOf]; omega
  ·have hd:l.drop k=[]:=List.drop_eq_nil_of_le (by omega)
   clear heq hbr
   go_wp2
   go_ret
   rw [HQ.out,hd]
   exact ⟨rfl,HBR.out⟩
theorem head_108 (f:Kr) (hf:rgK f) (w:World) (A:Option Addr) (m c:Nat) (B:Option Addr) (mb cb:Nat) (hs:SlR rdP 2 (fun g=>g<w.heap.size) w (.slice A m c) f.params) (ht:SlR rdA 2 (fun g=>g<w.heap.size) w (.slice B mb cb) f.shared) :
  Calls Tryz.prog 108 #[.string (bs f.name),.slice A m c,.slice B mb cb] w fun e w'=>e=.returned (.bool (headK f))∧Below w.heap.size w w':=by
 obtain ⟨name,params,shared,body⟩:=f
 obtain ⟨g1,g2,g3,g4,g5,-⟩:=hf
 simp only at *
 have hm:=hs.len
 have hm2:=ht.len
 subst hm; subst hm2
 have HS:=hid hs
 have HT:=hid ht
 have HG2:=hid g2
 have HG4:=hid g4
 obtain ⟨q,hq⟩:∃ q,u0f name=q:=⟨_,rfl⟩
 have HN:=hid (fun w'=>u5l name g1 w')
 rw [hq] at HN
 have hR:headK ⟨name,params,shared,body⟩=(q&&decide (params.length≤6)&&params.all parB&&decide (shared.length≤4)&&shared.all arrB):=by rw [← hq]; rfl
 obtain ⟨R,hR2⟩:∃ R,headK ⟨name,params,shared,body⟩=R:=⟨_,rfl⟩
 rw [hR2] at hR ⊢
 have HR:=hid hR
 clear hs ht g2 g4 hq hR hR2
 by_cases hbad:q=false∨¬ params.length≤6∨¬ shared.length≤4
 ·have hf:R=false:=by
   rw [HR.out]
   rcases hbad with h | h | h
   ·rw [h]; rfl
   ·rw [decide_eq_false h]; simp
   ·rw [decide_eq_false h]; simp
  subst hf
  clear HR
  by_cases h1:q=false
  ·subst h1
   go_enter Tryz.func108,Tryz.ntmps108
   go_wp2_with fail
   refine (HN.out _).mono ?_
   rintro e w1 ⟨rfl,hb1⟩
   go_wp2
   go_ret
   exact ⟨rfl,hb1⟩
  have h1:q=true:=by simpa using h1
  subst h1
  by_cases h2:params.length≤6
  ·have h3:¬ shared.length≤4:=by rcases hbad with h | h | h <;> first | (cases h; done) | exact absurd h2 h | exact h
   go_enter Tryz.func108,Tryz.ntmps108
   go_wp2_with fail
   refine (HN.out _).mono ?_
   rintro e w1 ⟨rfl,hb1⟩
   go_wp2
   go_ret
   exact ⟨rfl,hb1⟩
  ·go_enter Tryz.func108,Tryz.ntmps108
   go_wp2_with fail
   refine (HN.out _).mono ?_
   rintro e w1 ⟨rfl,hb1⟩
   go_wp2
   go_ret
   exact ⟨rfl,hb1⟩
 simp only [not_or,Bool.not_eq_false,Classical.not_not] at hbad
 obtain ⟨rfl,h6,h4⟩:=hbad
 have hR3:R=(params.all parB&&shared.all arrB):=by rw [HR.out,decide_eq_true h6,decide_eq_true h4]; simp
 have HR3:=hid hR3
 clear HR hR3
 go_enter Tryz.func108,Tryz.ntmps108
 go_wp2_with fail
 refine (HN.out _).mono ?_
 rintro e w1 ⟨rfl,hb1⟩
 have HB1:=hid hb1
 clear hb1 HN
 go_wp2_with fail
 go_loopw [7] (fun i wr=>∃ (k:Nat),k≤params.length∧i=.int .i64 k∧params.all parB=(params.drop k).all parB∧Below w.heap.size w wr) (fun i _=>params.length - (intOf i).toNat)
 case atStart=>exact ⟨0,Nat.zero_le _,rfl,by rw [List.drop_zero],HB1.out⟩
 case round =>
  obtain ⟨k,hk,rfl,heq,hbr⟩:=hrel
  obtain ⟨wo,rfl⟩:∃ z,z=wr:=⟨_,rfl⟩
  have HQ:=hid heq
  have HBR:=hid hbr
  by_cases hlt:k<params.length
  ·obtain ⟨a,ha⟩:∃ a,params[k]? = some a:=⟨params[k],List.getElem?_eq_getElem hlt⟩
   obtain ⟨g,o,rfl,_,hPg,hrows⟩:=u2c (by decide) (fun P w cs a h=>⟨.string (bs a.1),by unfold rdP at h; subst h; rfl⟩) (u1m u2l hbr HS.out) (by omega)
   obtain ⟨cs,hcs,hrd⟩:=hrows k a ha
   have hrd:cs=[.string (bs a.1),.bool a.2]:=hrd
   subst hrd
   have d0:=hcs 0 _ rfl
   simp only [Nat.add_zero] at d0
   have hin:(0:Int)≤k∧(k:Int)<params.length:=⟨by omega,by omega⟩
   have hx:=HG2.out a (List.mem_of_getElem? ha)
   have hd:=adrop (f:=parB) ha
   obtain ⟨q,hq⟩:∃ q,u0f a.1=q:=⟨_,rfl⟩
   have HN:=hid (fun w'=>u5l a.1 hx w')
   have hd:(params.drop k).all parB=(u0f a.1&&(params.drop (k+1)).all parB):=hd
   rw [hq] at hd HN
   have HD:=hid hd
   clear heq hbr hrows hcs ha hd hq
   cases q
   ·go_wp2_with fail
    refine (HN.out _).mono ?_
    rintro e w1 ⟨rfl,hb1⟩
    have HB2:=hid (HBR.out.trans (hb1.mono HBR.out.size))
    clear hb1
    go_wp2
    go_ret
    rw [HR3.out,HQ.out,HD.out]
    exact ⟨by simp,HB2.out⟩
   ·go_wp2_with fail
    refine (HN.out _).mono ?_
    rintro e w1 ⟨rfl,hb1⟩
    have HB2:=hid (HBR.out.trans (hb1.mono HBR.out.size))
    clear hb1
    go_wp2
    go_roundw
    case rel=>exact ⟨k+1,by omega,by go_num,by rw [HQ.out,HD.out]; rfl,HB2.out⟩
    case measure=>simp [intOf]; omega
  ·have hd:params.drop k=[]:=List.drop_eq_nil_of_le (by omega)
   have hR4:R=shared.all arrB:=by rw [HR3.out,heq,hd]; rfl
   have HR4:=hid hR4
   clear heq hbr hR4 HQ hd HR3
   go_wp2_with fail
   clear hlt
   go_loopw [8] (fun i wr=>∃ (k:Nat),k≤shared.length∧i=.int .i64 k∧R=(shared.drop k).all arrB∧Below w.heap.size w wr) (fun i _=>shared.length - (intOf i).toNat)
   case atStart=>exact ⟨0,Nat.zero_le _,rfl,by rw [List.drop_zero]; exact HR4.out,HBR.out⟩
   case round =>
    clear HBR hk
    obtain ⟨k,hk,rfl,heq,hbr⟩:=hrel
    obtain ⟨wo,rfl⟩:∃ z,z=wr:=⟨_,rfl⟩
    have HQ:=hid heq
    have HBR:=hid hbr
    by_cases hlt:k<shared.length
    ·obtain ⟨a,ha⟩:∃ a,shared[k]? = some a:=⟨shared[k],List.getElem?_eq_getElem hlt⟩
     obtain ⟨g,o,rfl,_,hPg,hrows⟩:=u2c (by decide) (fun P w cs a h=>⟨.string (bs a.1),by unfold rdA at h; subst h; rfl⟩) (u1m u2z hbr HT.out) (by omega)
     obtain ⟨cs,hcs,hrd⟩:=hrows k a ha
     have hrd:cs=[.string (bs a.1),.int .i64 a.2]:=hrd
     subst hrd
     have d0:=hcs 0 _ rfl
     have d1:=hcs 1 _ rfl
     simp only [Nat.add_zero] at d0
     have hin:(0:Int)≤k∧(k:Int)<shared.length:=⟨by omega,by omega⟩
     have hx:=HG4.out a (List.mem_of_getElem? ha)
     have hd:=adrop (f:=arrB) ha
     obtain ⟨y,n⟩:=a
     obtain ⟨q,hq⟩:∃ q,u0f y=q:=⟨_,rfl⟩
     have HN:=hid (fun w'=>u5l y hx w')
     have hd:(shared.drop k).all arrB=((u0f y&&decide (1≤n)&&decide (n≤64))&&(shared.drop (k+1)).all arrB):=hd
     rw [hq] at hd HN
     have HD:=hid hd
     clear heq hbr hrows hcs ha hd hq
     simp only at d0 d1
     by_cases hgo:q=true∧1≤n∧n≤64
     ·obtain ⟨rfl,hn1,hn2⟩:=hgo
      have hn3:¬ n<1:=by omega
      have hn4:¬ 64<n:=by omega
      go_wp2_with fail
      refine (HN.out _).mono ?_
      rintro e w1 ⟨rfl,hb1⟩
      have d2:=(hb1.cell (show g<wo.heap.size by have:=HBR.out.size; omega)).trans d1
      have HB2:=hid (HBR.out.trans (hb1.mono HBR.out.size))
      clear hb1
      go_wp2
      go_roundw
      case rel=>exact ⟨k+1,by omega,by go_num,by rw [HQ.out,HD.out,decide_eq_true hn1,decide_eq_true hn2]; rfl,HB2.out⟩
      case measure=>simp [intOf]; omega
     ·have hf:(q&&decide (1≤n)&&decide (n≤64))=false:=by
       cases q
       ·rfl
       ·simp only [true_and,not_and] at hgo
        by_cases hn1:1≤n
        ·rw [decide_eq_false (hgo hn1)]; simp
        ·rw [decide_eq_false hn1]; rfl
      have HF:=hid hf
      clear hf
      by_cases hn1:1≤n
      ·have hn3:¬ n<1:=by omega
       cases q
       ·go_wp2_with fail
        refine (HN.out _).mono ?_
        rintro e w1 ⟨rfl,hb1⟩
        have HB2:=hid (HBR.out.trans (hb1.mono HBR.out.size))
        clear hb1
        go_wp2
        go_ret
        rw [HQ.out,HD.out,HF.out]
        exact ⟨rfl,HB2.out⟩
       ·have hn4:64<n:=by simp only [true_and,not_and] at hgo; have:=hgo hn1; omega
        go_wp2_with fail
        refine (HN.out _).mono ?_
        rintro e w1 ⟨rfl,hb1⟩
        have d2:=(hb1.cell (show g<wo.heap.size by have:=HBR.out.size; omega)).trans d1
        have HB2:=hid (HBR.out.trans (hb1.mono HBR.out.size))
        clear hb1
        go_wp2
        go_ret
        rw [HQ.out,HD.out,HF.out]
        exact ⟨rfl,HB2.out⟩
      ·have hn3:n<1:=by omega
       cases q
       all_goals
        go_wp2_with fail
        refine (HN.out _).mono ?_
        rintro e w1 ⟨rfl,hb1⟩
        have d2:=(hb1.cell (show g<wo.heap.size by have:=HBR.out.size; omega)).trans d1
        have HB2:=hid (HBR.out.trans (hb1.mono HBR.out.size))
        clear hb1
        go_wp2
        go_ret
        rw [HQ.out,HD.out,HF.out]
        exact ⟨rfl,HB2.out⟩
    ·have hd:shared.drop k=[]:=List.drop_eq_nil_of_le (by omega)
     clear heq hbr
     go_wp2
     go_ret
     rw [HQ.out,hd]
     exact ⟨rfl,HBR.out⟩
end Go.Proofs.YtbkhnilbgocpnaaGreatDoor.SynC
