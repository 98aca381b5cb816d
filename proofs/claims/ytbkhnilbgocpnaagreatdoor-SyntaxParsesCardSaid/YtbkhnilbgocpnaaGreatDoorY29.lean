import Derived.Test.YtbkhnilbgocpnaaGreatDoorY1
import Derived.Test.YtbkhnilbgocpnaaGreatDoorY0
import Derived.Test.YtbkhnilbgocpnaaGreatDoorY28
set_option linter.unusedVariables false
set_option linter.unusedSimpArgs false
set_option maxRecDepth 100000
set_option maxHeartbeats 2000000
open Go.Lib (hid)
namespace Go.Proofs.YtbkhnilbgocpnaaGreatDoor.SynC
def bd:Nat→Int
 | 0=>1
 | h+1=>1+6 * bd h
theorem bd_pos:∀ h,1≤bd h
 | 0=>by rw [bd]; omega
 | h+1=>by rw [bd]; have:=bd_pos h; omega
theorem bd_le:∀ h,h≤13→bd h≤20000000000:=by
 intro h hh
 have:∀ a b,a≤b→bd a≤bd b:=by
  intro a b hab
  induction hab with
  | refl=>exact Int.le_refl _
  | step _ ih=>rw [bd]; have:=bd_pos a; omega
 have h1:=this h 13 hh
 have h2:bd 13=15672832819:=by decide
 omega
theorem shape_len {nm:List UInt8→Bool} {kind op num:Int} {x:List UInt8} {n:Nat} (h:u1h nm kind op num x n=true):n≤6:=by
 unfold u1h at h
 repeat' split at h
 all_goals first | (cases h; done) | (simp only [Bool.and_eq_true,beq_iff_eq,decide_eq_true_eq] at h; omega)
mutual
theorem mE_bd (nm:List UInt8→Bool):(e:Ex)→∀ (m:Ms) (lv:Int) (h:Nat),lv+h=13 →
  m.parts≤(mE nm m lv e).1.parts∧(mE nm m lv e).1.parts≤m.parts+bd h∧0≤(mE nm m lv e).2∧(mE nm m lv e).2≤h
 | .mk kind op num name kids,m,lv,h,hl=>by
  rw [mE]
  have hb:=bd_pos h
  split
  ·exact ⟨by show m.parts≤m.parts+1; omega,by show m.parts+1≤_; omega,by show (0:Int)≤0; omega,by show (0:Int)≤h; omega⟩
  ·rename_i hc
   simp only [not_or,Bool.not_eq_false] at hc
   obtain ⟨h',rfl⟩:∃ h',h=h'+1:=⟨h - 1,by omega⟩
   have h6:=shape_len hc.2.2.2
   have:=mEs_bd nm kids ⟨m.parts+1,m.depth,true⟩ (lv+1) 0 h' 6 (by omega) h6 (by omega)
   rw [bd]
   simp only at this ⊢
   refine ⟨by omega,by omega,by omega,by omega⟩
theorem mEs_bd (nm:List UInt8→Bool):(l:List Ex)→∀ (m:Ms) (lv d:Int) (h k:Nat),lv+h=13→l.length≤k→0≤d →
  m.parts≤(mEs nm m lv d l).1.parts∧(mEs nm m lv d l).1.parts≤m.parts+k * bd h∧d≤(mEs nm m lv d l).2∧(mEs nm m lv d l).2≤max d h
 | [],m,lv,d,h,k,hl,hk,hd=>by
  rw [mEs]
  have hb:=Int.mul_nonneg (show (0:Int)≤k by omega) (show (0:Int)≤bd h by have:=bd_pos h; omega)
  exact ⟨by show m.parts≤m.parts; omega,by show m.parts≤_; omega,by show d≤d; omega,by show d≤_; omega⟩
 | e :: r,m,lv,d,h,k,hl,hk,hd=>by
  rw [mEs]
  obtain ⟨k',rfl⟩:∃ k',k=k'+1:=⟨k - 1,by simp at hk; omega⟩
  have h1:=mE_bd nm e m lv h hl
  have h2:=mEs_bd nm r (mE nm m lv e).1 lv (max d (mE nm m lv e).2) h k' hl (by simpa using hk) (by omega)
  have h3:((k'+1:Nat):Int) * bd h=k' * bd h+bd h:=by rw [Int.natCast_add,Int.add_mul]; simp
  rw [h3]
  refine ⟨by omega,by omega,by omega,by omega⟩
end
theorem mEs_take (nm:List UInt8→Bool):∀ (l:List Ex) (m:Ms) (lv d:Int) (k:Nat) (a:Ex),l[k]? = some a →
  mEs nm m lv d (l.take (k+1))=((mE nm (mEs nm m lv d (l.take k)).1 lv a).1,max (mEs nm m lv d (l.take k)).2 (mE nm (mEs nm m lv d (l.take k)).1 lv a).2)
 | [],_,_,_,_,_,h=>by simp at h
 | e :: r,m,lv,d,0,a,h=>by
  simp at h; subst h
  simp only [List.take_succ_cons,List.take_zero,mEs]
 | e :: r,m,lv,d,k+1,a,h=>by
  rw [List.take_succ_cons,List.take_succ_cons,mEs,mEs]
  exact mEs_take nm r _ _ _ k a (by simpa using h)
theorem mE_stop {nm:List UInt8→Bool} {m:Ms} {lv kind op num:Int} {name:List UInt8} {kids:List Ex} (h:m.right=false∨400<m.parts+1∨12<lv∨u1h nm kind op num name kids.length=false) :
  mE nm m lv (.mk kind op num name kids)=(⟨m.parts+1,m.depth,false⟩,0):=by rw [mE,if_pos h]
theorem mE_go {nm:List UInt8→Bool} {m:Ms} {lv kind op num:Int} {name:List UInt8} {kids:List Ex} (h1:m.right=true) (h2:¬ 400<m.parts+1) (h3:¬ 12<lv) (h4:u1h nm kind op num name kids.length=true) :
  mE nm m lv (.mk kind op num name kids)=(⟨(mEs nm ⟨m.parts+1,m.depth,true⟩ (lv+1) 0 kids).1.parts,max (mEs nm ⟨m.parts+1,m.depth,true⟩ (lv+1) 0 kids).1.depth ((mEs nm ⟨m.parts+1,m.depth,true⟩ (lv+1) 0 kids).2+1),(mEs nm ⟨m.parts+1,m.depth,true⟩ (lv+1) 0 kids).1.right⟩,(mEs nm ⟨m.parts+1,m.depth,true⟩ (lv+1) 0 kids).2+1):=by
 rw [mE,if_neg (by simp only [not_or,Bool.not_eq_false]; exact ⟨h1,h2,h3,h4⟩)]
end Go.Proofs.YtbkhnilbgocpnaaGreatDoor.SynC
namespace Go.Proofs.YtbkhnilbgocpnaaGreatDoor.SynC
open Go.Proofs.YtbkhnilbgocpnaaGreatDoor.LexC
open Go Go.ChangeShapes Go.WideShapes Go.ChangeAt Go.RowKit Go.Deep
def Mr (w:World) (b:Nat) (m:Ms):Prop:=w.heap[b]? = some (.cells #[.int .i64 m.parts,.int .i64 m.depth,.bool m.right] 101 (0,0))
def RMp (b:Nat) (w:World) (r:Ms × Int) (e:Ending) (w':World):Prop:=e=.returned (.int .i64 r.2)∧w.grownBy w' (some b)∧Mr w' b r.1
def RC (e:Ex):Prop:=∀ (b base:Nat) (lv:Int) (h:Nat) (m:Ms) (w:World) (bk bo bn:Int) (bx:List UInt8) (bA:Option Addr) (bm bc:Nat),Mr w b m→base≤b→lv+h=13→h≤13→0≤m.parts→m.parts+bd h≤4611686018427387904→RE w (fun g=>g<base) [.int .i64 bk,.int .i64 bo,.int .i32 bn,.string (bs bx),.slice bA bm bc] e→rgE e →
 Calls Tryz.prog 61 #[.pointer (some ⟨b,0,none⟩),.agg #[.int .i64 bk,.int .i64 bo,.int .i32 bn,.string (bs bx),.slice bA bm bc],.int .i64 lv] w (RMp b w (mE u0f m lv e))
theorem st0 {w:World} {q:Nat} {T:TypeId} {fr:Nat × Nat} {x0 x1 x2 v:Value} (h:w.heap[q]? = some (.cells #[x0,x1,x2] T fr)):(w.setCell ⟨q,0,none⟩ v).heap[q]? = some (.cells #[v,x1,x2] T fr):=by simp [World.setCell,Array.getElem?_modify,h]
theorem st1 {w:World} {q:Nat} {T:TypeId} {fr:Nat × Nat} {x0 x1 x2 v:Value} (h:w.heap[q]? = some (.cells #[x0,x1,x2] T fr)):(w.setCell ⟨q,1,none⟩ v).heap[q]? = some (.cells #[x0,v,x2] T fr):=by simp [World.setCell,Array.getElem?_modify,h]
theorem st2 {w:World} {q:Nat} {T:TypeId} {fr:Nat × Nat} {x0 x1 x2 v:Value} (h:w.heap[q]? = some (.cells #[x0,x1,x2] T fr)):(w.setCell ⟨q,2,none⟩ v).heap[q]? = some (.cells #[x0,x1,v] T fr):=by simp [World.setCell,Array.getElem?_modify,h]
theorem ref_early (kind op num:Int) (name:List UInt8) (kids:List Ex) (b:Nat) (lv:Int) (m:Ms) (w:World) (A:Option Addr) (c:Nat) (hm:Mr w b m) (h0:0≤m.parts) (hb:m.parts≤4611686018427387904)
  (h:400<m.parts+1∨(¬ 400<m.parts+1∧12<lv)) :
  Calls Tryz.prog 61 #[.pointer (some ⟨b,0,none⟩),.agg #[.int .i64 kind,.int .i64 op,.int .i32 num,.string (bs name),.slice A kids.length c],.int .i64 lv] w (RMp b w (mE u0f m lv (.mk kind op num name kids))):=by
 rw [mE_stop (by omega)]
 have c0:w.cell? ⟨b,0,none⟩=some (.int .i64 m.parts):=by rw [cell_of_row _ _ 0 _ _ _ hm]; rfl
 have c2:w.cell? ⟨b,2,none⟩=some (.bool m.right):=by rw [cell_of_row _ _ 2 _ _ _ hm]; rfl
 have f0:w.frozen? ⟨b,0,none⟩=false:=by simp [World.frozen?,show w.heap[b]? = _ from hm]
 have f2:w.frozen? ⟨b,2,none⟩=false:=by simp [World.frozen?,show w.heap[b]? = _ from hm]
 have zb:=(Array.getElem?_eq_some_iff.1 (show w.heap[b]? = _ from hm)).1
 have HM:=hid hm
 clear hm
 rcases h with h | ⟨h,h'⟩
 all_goals
  go_enter Tryz.func61,Tryz.ntmps61
  go_wp2
  go_ret
  refine ⟨rfl,tGB,?_⟩
  exact u0g (by simpa using zb) (st2 (st0 HM.out))
theorem ref_late (kind op num:Int) (name:List UInt8) (kids:List Ex) (b:Nat) (lv:Int) (m:Ms) (w:World) (A:Option Addr) (c:Nat) (hm:Mr w b m) (h0:0≤m.parts) (h1:¬ 400<m.parts+1) (h2:¬ 12<lv)
  (hn:-2147483648≤num∧num≤2147483647) (hx:name.length≤maxLen) (hk:kids.length≤1125899906842624) (h:u1h u0f kind op num name kids.length=false∨(u1h u0f kind op num name kids.length=true∧m.right=false)) :
  Calls Tryz.prog 61 #[.pointer (some ⟨b,0,none⟩),.agg #[.int .i64 kind,.int .i64 op,.int .i32 num,.string (bs name),.slice A kids.length c],.int .i64 lv] w (RMp b w (mE u0f m lv (.mk kind op num name kids))):=by
 rw [mE_stop (by rcases h with h | h; exact .inr (.inr (.inr h)); exact .inl h.2)]
 have c0:w.cell? ⟨b,0,none⟩=some (.int .i64 m.parts):=by rw [cell_of_row _ _ 0 _ _ _ hm]; rfl
 have f0:w.frozen? ⟨b,0,none⟩=false:=by simp [World.frozen?,show w.heap[b]? = _ from hm]
 have zb:=(Array.getElem?_eq_some_iff.1 (show w.heap[b]? = _ from hm)).1
 have hS:=shape_114 kind op num name A kids.length c hx hn hk
 have HM:=hid hm
 clear hm
 rcases h with h | ⟨h,hr⟩
 all_goals
  rw [h] at hS
  have HS:=hid hS
  clear hS h
  go_enter Tryz.func61,Tryz.ntmps61
  go_wp2_with fail
  refine (HS.out _).mono ?_
  rintro e w1 ⟨rfl,hb1⟩
  obtain ⟨qb,fb,z1,l1⟩:=u0a (q:=b) (u0d hb1 (some (b+1))) (u0g (by simpa using zb) (st0 HM.out)) (by omega)
  have q2:=qb 2
  have g2:=fb 2
  have HG:=hid (u0b (tGB:w.grownBy ((w.setCell ⟨b,0,none⟩ (.int .i64 (m.parts+1))).alloc (.cells #[.int .i64 kind,.int .i64 op,.int .i32 num,.string (bs name),.slice A kids.length c] 34)) (some b)) (u0d hb1 (some b)))
  have HL:=hid l1
  clear hb1 l1 qb fb HM c0 f0
 ·go_wp2
  go_ret
  refine ⟨rfl,u1a HG.out (.inl rfl) _,?_⟩
  exact st2 HL.out
 ·rw [hr] at q2
  go_wp2
  go_ret
  refine ⟨rfl,HG.out,?_⟩
  have:=HL.out
  rw [hr] at this
  exact this
theorem ref_loop (kind op num:Int) (name:List UInt8) (kids:List Ex) (hK:∀ a∈kids,RC a) (b base:Nat) (lv:Int) (h':Nat) (hl:lv+1+h'=13) (m:Ms) (w:World) (A:Option Addr) (c:Nat) (hm:Mr w b m) (hb:base≤b) (h0:0≤m.parts) (h1:¬ 400<m.parts+1) (h2:¬ 12<lv) (hlv:-1≤lv)
  (hn:-2147483648≤num∧num≤2147483647) (hx:name.length≤maxLen) (hp:m.parts+1+6 * bd h'≤4611686018427387904) (hsh:u1h u0f kind op num name kids.length=true) (hr:m.right=true)
  (hs:SlE w (fun g=>g<base) (.slice A kids.length c) kids) (hg:rgEs kids) :
  Calls Tryz.prog 61 #[.pointer (some ⟨b,0,none⟩),.agg #[.int .i64 kind,.int .i64 op,.int .i32 num,.string (bs name),.slice A kids.length c],.int .i64 lv] w (RMp b w (mE u0f m lv (.mk kind op num name kids))):=by
 have h6:=shape_len hsh
 rw [mE_go hr h1 h2 hsh]
 obtain ⟨M,hM⟩:∃ M,M=mEs u0f ⟨m.parts+1,m.depth,true⟩ (lv+1) 0:=⟨_,rfl⟩
 rw [← hM]
 have hT:∀ (k:Nat) (a:Ex),kids[k]? = some a→M (kids.take (k+1))=((mE u0f (M (kids.take k)).1 (lv+1) a).1,max (M (kids.take k)).2 (mE u0f (M (kids.take k)).1 (lv+1) a).2):=fun k a h=>by rw [hM]; exact mEs_take u0f kids _ _ _ k a h
 have hB:∀ (k j:Nat),(kids.take k).length≤j→m.parts+1≤(M (kids.take k)).1.parts∧(M (kids.take k)).1.parts≤m.parts+1+j * bd h'∧0≤(M (kids.take k)).2∧(M (kids.take k)).2≤max 0 h':=fun k j h=>by rw [hM]; exact mEs_bd u0f _ _ _ _ h' j hl h (Int.le_refl _)
 have hM0:M (kids.take 0)=(⟨m.parts+1,m.depth,true⟩,0):=by rw [List.take_zero,hM,mEs]
 have c0:w.cell? ⟨b,0,none⟩=some (.int .i64 m.parts):=by rw [cell_of_row _ _ 0 _ _ _ hm]; rfl
 have f0:w.frozen? ⟨b,0,none⟩=false:=by simp [World.frozen?,show w.heap[b]? = _ from hm]
 have zb:=(Array.getElem?_eq_some_iff.1 (show w.heap[b]? = _ from hm)).1
 have hS:=shape_114 kind op num name A kids.length c hx hn (by omega)
 rw [hsh] at hS
 have HM:=hid hm
 have HS:=hid hS
 have HK:=hid hK
 have HT:=hid hT
 have HB:=hid hB
 have HM0:=hid hM0
 have HSL:=hid hs
 have HGK:=hid hg
 clear hm hS hK hT hB hM0 hs hg hM
 go_enter Tryz.func61,Tryz.ntmps61
 go_wp2_with fail
 refine (HS.out _).mono ?_
 rintro e w1 ⟨rfl,hb1⟩
 obtain ⟨qb,fb,z1,l1⟩:=u0a (q:=b) (u0d hb1 (some (b+1))) (u0g (by simpa using zb) (st0 HM.out)) (by omega)
 obtain ⟨qe,_,ze,le⟩:=u0a (q:=w.heap.size) (u0d hb1 (some (w.heap.size+1))) (u0k (by simp)) (by omega)
 have q2:=qb 2
 rw [hr] at q2
 have HG:=hid (u0b (tGB:w.grownBy ((w.setCell ⟨b,0,none⟩ (.int .i64 (m.parts+1))).alloc (.cells #[.int .i64 kind,.int .i64 op,.int .i32 num,.string (bs name),.slice A kids.length c] 34)) (some b)) (u0d hb1 (some b)))
 have HL:=hid l1
 have HE:=hid le
 clear hb1 l1 qb fb c0 f0 qe le
 go_wp2_with fail
 go_loopw [7,8] (fun out i wr=>∃ (k:Nat),k≤kids.length∧i=.int .i64 k∧out=.int .i64 (M (kids.take k)).2∧Mr wr b (M (kids.take k)).1∧w1.grownBy wr (some b)) (fun _ i _=>kids.length - (intOf i).toNat)
 case atStart =>
  refine ⟨0,Nat.zero_le _,rfl,by rw [HM0.out],?_,u0q _ _⟩
  rw [HM0.out]
  have:=HL.out
  rw [hr] at this
  exact this
 case round =>
  obtain ⟨k,hk,rfl,rfl,hmr,hgr⟩:=hrel
  obtain ⟨wo,rfl⟩:∃ z,z=wr:=⟨_,rfl⟩
  have hzr:=hgr.size
  have le2:wo.heap[w.heap.size]? = some (.cells #[.int .i64 kind,.int .i64 op,.int .i32 num,.string (bs name),.slice A kids.length c] 34 (0,0)):=(hgr.block _ ze (by simp; omega)).trans HE.out
  have xe4:=cell_of_row _ _ 4 _ _ _ le2
  have HGR:=hid hgr
  have HMR:=hid hmr
  by_cases hlt:k<kids.length
  ·obtain ⟨a,ha⟩:∃ a,kids[k]? = some a:=⟨kids[k],List.getElem?_eq_getElem hlt⟩
   have hbase:Below base w wo:=u2g (u0b HG.out HGR.out) hb zb
   obtain ⟨g,o,rfl,_,hPg,hrows⟩:=u3n (u5o hbase HSL.out) (by omega)
   obtain ⟨yk,yo,yn,yx,yA,ym,yc,⟨d0,d1,d2,d3,d4⟩,hrx⟩:=hrows k a ha
   have hin:(0:Int)≤k∧(k:Int)<kids.length:=⟨by omega,by omega⟩
   obtain ⟨b1,b2,b3,b4⟩:=HB.out k 5 (by rw [List.length_take]; omega)
   have hT:=HT.out k a ha
   have hC:=HK.out a (List.mem_of_getElem? ha) b base (lv+1) h' _ wo _ _ _ _ _ _ _ HMR.out hb hl (by omega) (by omega) (by omega) hrx (u7v HGK.out a (List.mem_of_getElem? ha))
   obtain ⟨R,hR⟩:∃ R,mE u0f (M (kids.take k)).1 (lv+1) a=R:=⟨_,rfl⟩
   rw [hR] at hC hT
   have hC:=hid hC
   have HT2:=hid hT
   obtain ⟨u,hu⟩:∃ u,(M (kids.take k)).2=u:=⟨_,rfl⟩
   rw [hu] at HT2 b3 b4 ⊢
   clear hrows hrx ha hT hR hu hmr hgr le2
   go_wp2_with fail
   refine hC.out.mono ?_
   rintro e w3 ⟨rfl,hg3,hm3⟩
   have HG3:=hid (u0b HGR.out hg3)
   have HM3:=hid hm3
   clear hg3 hm3
   go_wp2
   go_roundw
   case rel=>exact ⟨k+1,by omega,by go_num,by rw [HT2.out],by rw [HT2.out]; exact HM3.out,HG3.out⟩
   case measure=>simp [intOf]; omega
  ·have ht:kids.take k=kids:=List.take_of_length_le (by omega)
   obtain ⟨b1,b2,b3,b4⟩:=HB.out k 6 (by rw [List.length_take]; omega)
   rw [ht] at b1 b2 b3 b4 HMR ⊢
   obtain ⟨u,hu⟩:∃ u,(M kids).2=u:=⟨_,rfl⟩
   rw [hu] at b3 b4 ⊢
   have HU:=hid hu
   have y1:wo.cell? ⟨b,1,none⟩=some (.int .i64 (M kids).1.depth):=by rw [cell_of_row _ _ 1 _ _ _ HMR.out]; rfl
   have fy1:wo.frozen? ⟨b,1,none⟩=false:=by simp [World.frozen?,show wo.heap[b]? = _ from HMR.out]
   clear hmr hgr le2 hu
   go_wp2
   go_ret
   rw [HU.out]
   refine ⟨rfl,u1a (u0b HG.out HGR.out) (.inl rfl) _,?_⟩
   exact st1 HMR.out
theorem rc_e (kind op num:Int) (name:List UInt8) (kids:List Ex) (hK:∀ a∈kids,RC a):RC (.mk kind op num name kids):=by
 intro b base lv h m w bk bo bn bx bA bm bc hm hb hl h13 h0 hp hr hg
 rw [RE_eq] at hr
 obtain ⟨K,hc,hs⟩:=hr
 simp only [exRow,List.cons.injEq,Value.int.injEq,Value.string.injEq,true_and,and_true] at hc
 obtain ⟨e1,e2,e3,e4,e5⟩:=hc
 have e4:=bs_inj e4
 subst e1; subst e2; subst e3; subst e4; subst e5
 have hml:=slE_len hs
 subst hml
 rw [rgE] at hg
 obtain ⟨hn,hx,hkl,hgk⟩:=hg
 have hbd:=bd_pos h
 by_cases h1:400<m.parts+1
 ·exact ref_early _ _ _ _ _ _ _ _ _ _ _ hm h0 (by omega) (.inl h1)
 by_cases h2:12<lv
 ·exact ref_early _ _ _ _ _ _ _ _ _ _ _ hm h0 (by omega) (.inr ⟨h1,h2⟩)
 cases hsh:u1h u0f bk bo bn bx kids.length
 ·exact ref_late _ _ _ _ _ _ _ _ _ _ _ hm h0 h1 h2 ⟨hn.1,by omega⟩ hx hkl (.inl hsh)
 cases hri:m.right
 ·exact ref_late _ _ _ _ _ _ _ _ _ _ _ hm h0 h1 h2 ⟨hn.1,by omega⟩ hx hkl (.inr ⟨hsh,hri⟩)
 obtain ⟨h',rfl⟩:∃ h',h=h'+1:=⟨h - 1,by omega⟩
 rw [bd] at hp
 exact ref_loop _ _ _ _ _ hK b base lv h' (by omega) m w _ _ hm hb h0 h1 h2 (by omega) ⟨hn.1,by omega⟩ hx (by omega) hsh hri hs hgk
mutual
theorem rc_all:(e:Ex)→RC e
 | .mk kind op num name kids=>rc_e kind op num name kids (rcs_all kids)
theorem rcs_all:(l:List Ex)→∀ a∈l,RC a
 | [],_,h=>by cases h
 | e :: r,a,h=>by
  rcases List.mem_cons.1 h with h1 | h1
  ·rw [h1]; exact rc_all e
  ·exact rcs_all r a h1
end
end Go.Proofs.YtbkhnilbgocpnaaGreatDoor.SynC
