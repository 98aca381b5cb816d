import Derived.Test.YtbkhnilbgocpnaaGreatDoorK27
import Derived.Test.YtbkhnilbgocpnaaGreatDoorK1
import Derived.Test.YtbkhnilbgocpnaaGreatDoorK33
set_option linter.unusedVariables false
set_option linter.unusedSimpArgs false
set_option maxRecDepth 100000
set_option maxHeartbeats 2000000
open Go.Lib (hid)
namespace Go.Proofs.YtbkhnilbgocpnaaGreatDoor.SynC
open Go.Proofs.YtbkhnilbgocpnaaGreatDoor.LexC
open Go Go.ChangeShapes Go.WideShapes Go.ChangeAt Go.RowKit Go.Deep
theorem great_big (q:Pg) (w:World) (A:Option Addr) (m c:Nat) (B:Option Addr) (mb cb:Nat) (hp:PgAr w A m c B mb cb q) (hbig:1000<q.fns.length+q.krs.length) :
  Calls Tryz.prog 21 #[.agg #[.slice A m c,.slice B mb cb]] w fun e w'=>e=.returned (.bool true)∧Below w.heap.size w w':=by
 have z1:=hp.f.len
 have z2:=hp.k.len
 have lf:=hp.lf
 have lk:=hp.lk
 subst z1
 subst z2
 obtain ⟨V,hV⟩:∃ V:Nat,q.fns.length+q.krs.length=V:=⟨_,rfl⟩
 have hV1:1000<V:=by omega
 have hV2:V≤2251799813685248:=by omega
 have hd1:decide ((V:Int)≤1000)=false:=by simp; omega
 have hd2:decide ((1000:Int)<V)=true:=by simp; omega
 have HV:=hid hV
 clear hp hV
 go_enter Tryz.func21,Tryz.ntmps21
 go_wp2_with fail
 have hb0:Below w.heap.size w (w.alloc (.cells #[.slice A q.fns.length c,.slice B q.krs.length cb] 26)):=u1e _ _
 obtain ⟨w1,hw1⟩:∃ w1,w1=w.alloc (.cells #[.slice A q.fns.length c,.slice B q.krs.length cb] 26):=⟨_,rfl⟩
 have la:w1.heap[w.heap.size]? = some (.cells #[.slice A q.fns.length c,.slice B q.krs.length cb] 26 (0,0)):=by rw [hw1]; exact u1d _ _
 have xa0:=cell_of_row _ _ 0 _ _ _ la
 have xa1:=cell_of_row _ _ 1 _ _ _ la
 have HB:=hid (hw1 ▸ hb0:Below w.heap.size w w1)
 rw [← hw1]
 clear hw1 hb0 la
 go_loopw [3,4] (fun n i wr=>i=.int .i64 0∧n=.int .i64 V∧w1=wr) (fun _ _ _=>0)
 case atStart=>exact ⟨rfl,by have:=HV.out; go_num,rfl⟩
 case round =>
  obtain ⟨rfl,rfl,rfl⟩:=hrel
  have hor:((0:Int)<q.fns.length)∨¬ ((0:Int)<q.fns.length):=by omega
  rcases hor with h0 | h0
  all_goals
   go_wp2_with fail
   have H0:=hid h0
   clear h0
   go_loopw [3,7] (fun n i wr=>i=.int .i64 0∧n=.int .i64 V∧w1=wr) (fun _ _ _=>0)
   case atStart=>exact ⟨rfl,rfl,rfl⟩
   case round =>
    obtain ⟨rfl,rfl,rfl⟩:=hrel
    have hor:((0:Int)<q.krs.length)∨¬ ((0:Int)<q.krs.length):=by omega
    rcases hor with h1 | h1
    all_goals
     first
      | (exfalso; have e1:=HV.out; have e0:=H0.out; omega)
      | (go_wp2; go_ret; exact ⟨rfl,HB.out⟩)
def two (p q:Pg):Pg:=⟨p.fns++q.fns,p.krs++q.krs⟩
theorem mixed_prog {p q:Pg} (hp:u2s p=true) (hq:u2s q=true) (h:u2s (two p q)=true) (hl:(writ p).length+(writ q).length<4000):progM (writ p++10 :: writ q)=(two p q,0,0):=by
 have hp':=hp
 have hq':=hq
 unfold u2s at hp hq
 rw [Bool.and_eq_true,decide_eq_true_eq] at hp hq
 obtain ⟨M,hM,hk⟩:=txt_two (keys_good hp.1) (keys_good hq.1)
 have hpm:u4l (⟨[],[]⟩:Pg) progR (writ p++10 :: writ q)=(two p q,0,0):=by
  unfold u4l
  rw [if_neg (by rw [List.length_append,List.length_cons]; omega),show sc (writ p++10 :: writ q) 0=(M,none) from hM]
  simp only
  unfold outM
  rw [show M.map SynC.key=_ from hk]
  unfold progR
  rw [back_mixed dgL p q (fitP_ok hp.1) (fitP_ok hq.1)]
  have:whole ((Res.ok (p.its++q.its) []:Res (List It)).bind fun l r=>.ok (pg l) r)=.ok (two p q) []:=by
   show whole (.ok (pg (p.its++q.its)) [])=_
   rw [pg_mixed]; rfl
  rw [this]
 unfold progM
 simp only
 rw [hpm]
 simp [h]
theorem great_any (q:Pg) (w:World) (A:Option Addr) (m c:Nat) (B:Option Addr) (mb cb:Nat) (hp:PgAr w A m c B mb cb q) :
  Calls Tryz.prog 21 #[.agg #[.slice A m c,.slice B mb cb]] w fun e w'=>(∃ g,e=.returned (.bool g)∧(g=false→q.fns.length+q.krs.length≤1000))∧Below w.heap.size w w':=by
 by_cases hb:1000<q.fns.length+q.krs.length
 ·exact (great_big q w A m c B mb cb hp hb).mono fun e w' h=>⟨⟨true,h.1,fun h=>by cases h⟩,h.2⟩
 ·exact (great_21 q w A m c B mb cb hp).mono fun e w' h=>⟨h.1.elim fun g hg=>⟨g,hg.1,fun _=>by omega⟩,h.2⟩
theorem mixed_walk (p q:Pg) (w:World) (A:Option Addr) (m c:Nat) (B:Option Addr) (mb cb:Nat) (A2:Option Addr) (m2 c2:Nat) (B2:Option Addr) (mb2 cb2:Nat) (hG:Gl w)
  (hp:PgAr w A m c B mb cb p) (hq:PgAr w A2 m2 c2 B2 mb2 cb2 q) :
  Calls Tryz.prog 12 #[.agg #[.slice A m c,.slice B mb cb],.agg #[.slice A2 m2 c2,.slice B2 mb2 cb2]] w fun e w'=>e=.returned (.bool true)∧Below w.heap.size w w':=by
 have HG:=hid hG
 have HP:=hid hp
 have HQ:=hid hq
 have HW0:=hid (seq (u1e w (.cells #[.slice A m c,.slice B mb cb] 26)) (u1e _ (.cells #[.slice A2 m2 c2,.slice B2 mb2 cb2] 26)))
 clear hG hp hq
 go_enter Tryz.func12,Tryz.ntmps12
 go_wp2_with fail
 refine (great_any p _ A m c B mb cb (HP.out.below HW0.out)).mono ?_
 rintro e w1 ⟨⟨g,rfl,hgr⟩,hb1⟩
 obtain ⟨_,_,_,l1⟩:=u0a (q:=w.heap.size) (u0f hb1 (some (w.heap.size+10))) (u0e (by simp) (u1d _ _)) (by omega)
 obtain ⟨_,_,_,k1⟩:=u0a (q:=w.heap.size+1) (u0f hb1 (some (w.heap.size+10))) (u0h (by simp)) (by omega)
 have HB1:=hid (seq HW0.out hb1)
 have hz1:w.heap.size+2≤w1.heap.size:=by have:=hb1.size; simpa using this
 clear hb1
 cases g
 rotate_left 1
 ·clear hgr
  go_wp2_with fail
  refine (u6s _ (HG.out.bel HB1.out)).mono ?_
  rintro e w9 ⟨rfl,hb9⟩
  have HB9:=hid (seq HB1.out hb9)
  clear hb9
  go_wp2
  go_ret
  exact ⟨rfl,HB9.out⟩
 have HS1:=hid (hgr rfl)
 clear hgr
 go_wp2_with fail
 refine (great_any q _ A2 m2 c2 B2 mb2 cb2 (HQ.out.below HB1.out)).mono ?_
 rintro e w2 ⟨⟨g,rfl,hgr⟩,hb2⟩
 obtain ⟨_,_,_,l2⟩:=u0a (q:=w.heap.size) (u0f hb2 (some (w.heap.size+w1.heap.size+10))) l1 (by omega)
 obtain ⟨_,_,_,k2⟩:=u0a (q:=w.heap.size+1) (u0f hb2 (some (w.heap.size+w1.heap.size+10))) k1 (by omega)
 have HB2:=hid (seq HB1.out hb2)
 have hz2:=hb2.size
 clear hb2
 cases g
 rotate_left 1
 ·clear hgr
  go_wp2_with fail
  refine (u6s _ (HG.out.bel HB2.out)).mono ?_
  rintro e w9 ⟨rfl,hb9⟩
  have HB9:=hid (seq HB2.out hb9)
  clear hb9
  go_wp2
  go_ret
  exact ⟨rfl,HB9.out⟩
 have HS2:=hid (hgr rfl)
 clear hgr
 go_wp2_with fail
 refine (text_ar p _ A m c B mb cb (HG.out.bel HB2.out) (HP.out.below HB2.out) (fun _=>by have:=HS1.out; omega)).mono ?_
 rintro e w3 ⟨rfl,hb3⟩
 obtain ⟨_,_,_,l3⟩:=u0a (q:=w.heap.size) (u0f hb3 (some (w.heap.size+w2.heap.size+10))) l2 (by omega)
 obtain ⟨_,_,_,k3⟩:=u0a (q:=w.heap.size+1) (u0f hb3 (some (w.heap.size+w2.heap.size+10))) k2 (by omega)
 have HB3:=hid (seq HB2.out hb3)
 have hz3:=hb3.size
 obtain ⟨tp,ep,htp⟩:∃ tp ep,u5j p=(tp,ep):=⟨_,_,rfl⟩
 rw [htp]
 clear hb3
 go_wp2_with fail
 refine (text_ar q _ A2 m2 c2 B2 mb2 cb2 (HG.out.bel HB3.out) (HQ.out.below HB3.out) (fun _=>by have:=HS2.out; omega)).mono ?_
 rintro e w4 ⟨rfl,hb4⟩
 obtain ⟨_,_,_,l4⟩:=u0a (q:=w.heap.size) (u0f hb4 (some (w.heap.size+w3.heap.size+10))) l3 (by omega)
 obtain ⟨_,_,_,k4⟩:=u0a (q:=w.heap.size+1) (u0f hb4 (some (w.heap.size+w3.heap.size+10))) k3 (by omega)
 have HB4:=hid (seq HB3.out hb4)
 have hz4:=hb4.size
 obtain ⟨tq,eq,htq⟩:∃ tq eq,u5j q=(tq,eq):=⟨_,_,rfl⟩
 rw [htq]
 clear hb4
 have HTP:=hid htp
 have HTQ:=hid htq
 clear htp htq
 go_wp2_with fail
 refine mix_region (b2:=w.heap.size) (b3:=w.heap.size+1) rfl rfl rfl l4 k4 (HP.out.below HB4.out) (HQ.out.below HB4.out) HS1.out HS2.out (fun d _ _ _ _ h=>by cases d <;> exact h) ?_
 intro v9 v30 v33 v36 v37 v40 v43 v44 w5 g9 A5 m5 c5 B5 mb5 cb5 e9 hg9 hl9 hpg hb5
 subst e9
 simp only [Act.put,List.setIfInBounds_toArray,List.set_cons_zero,List.set_cons_succ]
 have HPG:=hid (show PgAr w5 A5 m5 c5 B5 mb5 cb5 (two p q) from hpg)
 have HB5:=hid (seq HB4.out hb5)
 have hz5:=hb5.size
 have hg5:=(Array.getElem?_eq_some_iff.1 hl9).1
 have y0:∀ j,w5.cell? ⟨g9,j,none⟩=#[Value.slice A5 m5 c5,Value.slice B5 mb5 cb5][j]?:=fun j=>cell_of_row _ _ j _ _ _ hl9
 have HL:=hid hl9
 have HSM:Hid (fitP (two p q)=true→(two p q).fns.length+(two p q).krs.length≤4001):=hid fun _=>by have h1:=HS1.out; have h2:=HS2.out; simp only [two,List.length_append]; omega
 clear hpg hb5 hl9 l1 l2 l3 l4 k1 k2 k3 k4
 cases hvp:u2s p
 ·have htp:=HTP.out
  rw [textP_bad hvp] at htp
  obtain ⟨rfl,rfl⟩:=Prod.mk.inj htp
  clear hvp htp
  go_wp2_with fail
  refine (u6s _ (HG.out.bel HB5.out)).mono ?_
  rintro e w9 ⟨rfl,hb9⟩
  have HB9:=hid (seq HB5.out hb9)
  clear hb9
  go_wp2
  go_ret
  exact ⟨rfl,HB9.out⟩
 have htp:=HTP.out
 rw [textP_ok hvp] at htp
 obtain ⟨rfl,rfl⟩:=Prod.mk.inj htp
 have HVP:=hid hvp
 clear hvp htp
 cases hvq:u2s q
 ·have htq:=HTQ.out
  rw [textP_bad hvq] at htq
  obtain ⟨rfl,rfl⟩:=Prod.mk.inj htq
  clear hvq htq
  go_wp2_with fail
  refine (u6s _ (HG.out.bel HB5.out)).mono ?_
  rintro e w9 ⟨rfl,hb9⟩
  have HB9:=hid (seq HB5.out hb9)
  clear hb9
  go_wp2
  go_ret
  exact ⟨rfl,HB9.out⟩
 have htq:=HTQ.out
 rw [textP_ok hvq] at htq
 obtain ⟨rfl,rfl⟩:=Prod.mk.inj htq
 have HVQ:=hid hvq
 clear hvq htq
 go_wp2_with fail
 refine (valid_ar (two p q) w5 A5 m5 c5 B5 mb5 cb5 (HG.out.bel HB5.out) HPG.out HSM.out).mono ?_
 rintro e w6 ⟨rfl,hb6⟩
 obtain ⟨_,_,_,l6⟩:=u0a (q:=g9) (u0f hb6 (some (g9+w5.heap.size+10))) HL.out (by omega)
 have HB6:=hid (seq HB5.out hb6)
 have HPG6:=hid (HPG.out.below hb6)
 have hz6:=hb6.size
 clear hb6
 cases hv:u2s (two p q)
 ·clear hv
  go_wp2_with fail
  refine (u6s _ (HG.out.bel HB6.out)).mono ?_
  rintro e w9 ⟨rfl,hb9⟩
  have HB9:=hid (seq HB6.out hb9)
  clear hb9
  go_wp2
  go_ret
  exact ⟨rfl,HB9.out⟩
 have HV:=hid hv
 clear hv
 have z1:(bs (writ p)).size=(writ p).length:=u4t _
 have z2:(bs (writ q)).size=(writ q).length:=u4t _
 have z3:=valid_len HVP.out
 have z4:=valid_len HVQ.out
 obtain ⟨x1,hx1⟩:∃ x1,bs (writ p)=x1:=⟨_,rfl⟩
 obtain ⟨x2,hx2⟩:∃ x2,bs (writ q)=x2:=⟨_,rfl⟩
 rw [hx1] at z1 ⊢
 rw [hx2] at z2 ⊢
 have n1:¬ 9223372036854775807<x1.size+1:=by omega
 have n2:¬ 9223372036854775807<x1.size+1+x2.size:=by omega
 have Z1:=hid z1
 have Z2:=hid z2
 have HX1:=hid hx1
 have HX2:=hid hx2
 clear z1 z2 hx1 hx2
 go_wp2_with fail
 have hs0:x1++(⟨#[10]⟩:ByteArray)++x2=bs (writ p++10 :: writ q):=by
  rw [← HX1.out,← HX2.out,show (⟨#[10]⟩:ByteArray)=bs [10] from rfl,bs_append,bs_append,List.append_assoc]; rfl
 rw [hs0]
 have hsz:(bs (writ p++10 :: writ q)).size≤maxLen:=by rw [u4t,List.length_append,List.length_cons]; unfold maxLen; omega
 clear hs0
 by_cases hlen:(writ p).length+(writ q).length<4000
 ·have HM:=hid (prog_ex (bs (writ p++10 :: writ q)) hsz (two p q) 0 0 (by rw [u4d]; exact mixed_prog HVP.out HVQ.out HV.out hlen) w6 (HG.out.bel HB6.out))
  have hd:decide ((4000:Int)≤(x1.size:Int)+x2.size)=false:=by have h1:=Z1.out; have h2:=Z2.out; simp; omega
  have hw:IntKind.i64.wrap ((x1.size:Int)+x2.size)=(x1.size:Int)+x2.size:=by have h1:=Z1.out; have h2:=Z2.out; go_arith
  clear hlen hsz
  refine HM.out.mono ?_
  rintro e w7 ⟨⟨A7,m7,c7,B7,mb7,cb7,rfl,hp7⟩,hb7⟩
  obtain ⟨_,_,_,l7⟩:=u0a (q:=g9) (u0f hb7 (some (g9+w6.heap.size+10))) l6 (by omega)
  have HB7:=hid (seq HB6.out hb7)
  have HP7:=hid hp7
  have HPG7:=hid (HPG6.out.below hb7)
  have hz7:=hb7.size
  have HA7:=hid (u1e w7 (.cells #[.slice A7 m7 c7,.slice B7 mb7 cb7] 26))
  clear hb7 hp7
  go_wp2_with fail
  refine (same_17 (two p q) _ A7 m7 c7 B7 mb7 cb7 A5 m5 c5 B5 mb5 cb5 (HP7.out.below HA7.out) ((HPG7.out.below HA7.out).in_ (HSM.out (validP_fit HV.out)))).mono ?_
  rintro e w8 ⟨rfl,hb8⟩
  have HB8:=hid (seq (seq HB7.out HA7.out) hb8)
  clear hb8
  go_wp2_with fail
  refine (u6s _ (HG.out.bel HB8.out)).mono ?_
  rintro e w9 ⟨rfl,hb9⟩
  have HB9:=hid (seq HB8.out hb9)
  clear hb9
  go_wp2
  go_ret
  exact ⟨rfl,HB9.out⟩
 ·have HM:=hid (parse_15 (bs (writ p++10 :: writ q)) hsz w6 (HG.out.bel HB6.out))
  have hd:decide ((4000:Int)≤(x1.size:Int)+x2.size)=true:=by have h1:=Z1.out; have h2:=Z2.out; simp; omega
  have hw:IntKind.i64.wrap ((x1.size:Int)+x2.size)=(x1.size:Int)+x2.size:=by have h1:=Z1.out; have h2:=Z2.out; go_arith
  clear hlen hsz
  refine HM.out.mono ?_
  rintro e w7 ⟨hb7,A7,m7,c7,B7,mb7,cb7,q7,i7,er7,rfl,hp7,hx7⟩
  have HB7:=hid (seq HB6.out hb7)
  clear hx7 hp7 hb7
  go_wp2_with fail
  have HA7:=hid (seq HB7.out (u1e w7 (.cells #[.slice A7 m7 c7,.slice B7 mb7 cb7] 26)))
  refine (u6s _ (HG.out.bel HA7.out)).mono ?_
  rintro e w9 ⟨rfl,hb9⟩
  have HB9:=hid (seq HA7.out hb9)
  clear hb9
  go_wp2
  go_ret
  exact ⟨rfl,HB9.out⟩
end Go.Proofs.YtbkhnilbgocpnaaGreatDoor.SynC
