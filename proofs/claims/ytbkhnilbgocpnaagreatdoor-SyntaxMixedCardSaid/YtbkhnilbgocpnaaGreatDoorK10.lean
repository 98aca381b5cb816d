import Derived.Defers
import Derived.Recover
import Derived.Test.YtbkhnilbgocpnaaGreatDoorK9
import Derived.Test.YtbkhnilbgocpnaaGreatDoorK4
import Derived.Test.YtbkhnilbgocpnaaGreatDoorK3
import Derived.Test.YtbkhnilbgocpnaaGreatDoorK0
set_option linter.unusedVariables false
set_option linter.unusedSimpArgs false
set_option maxRecDepth 100000
set_option maxHeartbeats 2000000
open Go.Lib (hid)
namespace Go.Proofs.YtbkhnilbgocpnaaGreatDoor.SynC
open Go.Proofs.YtbkhnilbgocpnaaGreatDoor.LexC
open Go Go.ChangeShapes Go.WideShapes Go.ChangeAt Go.RowKit Go.Deep
def OnPost (q5 q6:Nat) (t:Tok) (older:List PanicEntry) (w:World) (e:Ending) (u':FrameMode) (w':World):Prop :=
 e=.returned (.tuple #[])∧u'=.panicking ({ misfit with recovered:=true } :: older)∧∃ w1,w.grownBy w1 none∧w'=(w1.setCell ⟨q5,0,none⟩ (.int .i64 t.pos)).setCell ⟨q6,0,none⟩ (.int .i64 2)
theorem catchPOn {E:Env} (w:World) (i:Nat) (hp:Ps E w i) (t:Tok) (ht:E.all[i]? = some t) (q8 q5 q6:Nat) (x y:Int) (older:List PanicEntry)
  (h8:w.heap[q8]? = some (.cells #[.pointer (some ⟨E.b,0,none⟩)] 79 (0,0))) (h5:w.heap[q5]? = some (.cells #[.int .i64 x] 3 (0,0))) (h6:w.heap[q6]? = some (.cells #[.int .i64 y] 27 (0,0))) (h56:q5≠q6) (hb5:q5≠E.b) (hb6:q6≠E.b) :
  CallsD Tryz.prog 72 #[.pointer (some ⟨q8,0,none⟩),.pointer (some ⟨q5,0,none⟩),.pointer (some ⟨q6,0,none⟩)] (.panicking (misfit :: older)) w (OnPost q5 q6 t older w):=by
 have c8:w.cell? ⟨q8,0,none⟩=some (.pointer (some ⟨E.b,0,none⟩)):=by rw [cell_of_row _ _ 0 _ _ _ h8]; rfl
 have q1:=fld1
 refine callsD_of_wpS Tryz.func72 rfl fun c₀ cs hu=>?_
 apply wpS_seq
 apply wpS_region
 simp [wpOpsS,go_sem,recoverD,hu,Tryz.ntmps72,Exit.thenS,misfit]
 refine wpS_cond (t:=true) (by simp [Act.eval,Array.replicate]) ?_
 simp only [if_true]
 refine wpS_of_wp ?_
 go_wp2_with fail
 refine (u2t w i hp t ht).mono ?_
 rintro e w1 ⟨rfl,hg1n⟩
 have hg1:=u1q (r:=some E.b) hg1n
 obtain ⟨c5,f5,l5,b5⟩:=u0a (q:=q5) hg1 h5 hb5
 obtain ⟨c6,f6,l6,b6⟩:=u0a (q:=q6) hg1 h6 hb6
 go_wp2
 simp only [bodyPostS,results,Tryz.results72]
 exact ⟨trivial,.panicking ({ misfit with recovered:=true } :: older),by simp [misfit],.tuple #[],by simp [go_sem],rfl,rfl,w1,hg1n,rfl⟩
theorem catchPOff (w:World) (q8 q5 q6:Nat) :
  CallsD Tryz.prog 72 #[.pointer (some ⟨q8,0,none⟩),.pointer (some ⟨q5,0,none⟩),.pointer (some ⟨q6,0,none⟩)] .returning w fun e u' w'=>e=.returned (.tuple #[])∧u'=.returning∧w'=w:=by
 refine callsD_of_wpS Tryz.func72 rfl fun c₀ cs hu=>?_
 apply wpS_seq
 apply wpS_region
 simp [wpOpsS,go_sem,recoverD,hu,Tryz.ntmps72,Exit.thenS]
 refine wpS_cond (t:=false) (by simp [Act.eval,Array.replicate]) ?_
 simp only [Bool.false_eq_true,if_false]
 refine wpS_of_wp (wp_skip ?_)
 cases c₀
 simp_all [bodyPostS,results,Tryz.results72]
theorem catchEOn {E:Env} (w:World) (i:Nat) (hp:Ps E w i) (t:Tok) (ht:E.all[i]? = some t) (q8 q5 q6:Nat) (x y:Int) (older:List PanicEntry)
  (h8:w.heap[q8]? = some (.cells #[.pointer (some ⟨E.b,0,none⟩)] 79 (0,0))) (h5:w.heap[q5]? = some (.cells #[.int .i64 x] 3 (0,0))) (h6:w.heap[q6]? = some (.cells #[.int .i64 y] 27 (0,0))) (h56:q5≠q6) (hb5:q5≠E.b) (hb6:q6≠E.b) :
  CallsD Tryz.prog 90 #[.pointer (some ⟨q8,0,none⟩),.pointer (some ⟨q5,0,none⟩),.pointer (some ⟨q6,0,none⟩)] (.panicking (misfit :: older)) w (OnPost q5 q6 t older w):=by
 have c8:w.cell? ⟨q8,0,none⟩=some (.pointer (some ⟨E.b,0,none⟩)):=by rw [cell_of_row _ _ 0 _ _ _ h8]; rfl
 have q1:=fld1
 refine callsD_of_wpS Tryz.func90 rfl fun c₀ cs hu=>?_
 apply wpS_seq
 apply wpS_region
 simp [wpOpsS,go_sem,recoverD,hu,Tryz.ntmps90,Exit.thenS,misfit]
 refine wpS_cond (t:=true) (by simp [Act.eval,Array.replicate]) ?_
 simp only [if_true]
 refine wpS_of_wp ?_
 go_wp2_with fail
 refine (u2t w i hp t ht).mono ?_
 rintro e w1 ⟨rfl,hg1n⟩
 have hg1:=u1q (r:=some E.b) hg1n
 obtain ⟨c5,f5,l5,b5⟩:=u0a (q:=q5) hg1 h5 hb5
 obtain ⟨c6,f6,l6,b6⟩:=u0a (q:=q6) hg1 h6 hb6
 go_wp2
 simp only [bodyPostS,results,Tryz.results90]
 exact ⟨trivial,.panicking ({ misfit with recovered:=true } :: older),by simp [misfit],.tuple #[],by simp [go_sem],rfl,rfl,w1,hg1n,rfl⟩
theorem catchEOff (w:World) (q8 q5 q6:Nat) :
  CallsD Tryz.prog 90 #[.pointer (some ⟨q8,0,none⟩),.pointer (some ⟨q5,0,none⟩),.pointer (some ⟨q6,0,none⟩)] .returning w fun e u' w'=>e=.returned (.tuple #[])∧u'=.returning∧w'=w:=by
 refine callsD_of_wpS Tryz.func90 rfl fun c₀ cs hu=>?_
 apply wpS_seq
 apply wpS_region
 simp [wpOpsS,go_sem,recoverD,hu,Tryz.ntmps90,Exit.thenS]
 refine wpS_cond (t:=false) (by simp [Act.eval,Array.replicate]) ?_
 simp only [Bool.false_eq_true,if_false]
 refine wpS_of_wp (wp_skip ?_)
 cases c₀
 simp_all [bodyPostS,results,Tryz.results90]
def whole {α:Type} (R:Res α):Res α:=R.bind fun a r=>if r.isEmpty then .ok a [] else .no r
def posAt (L:List Tok) (n:Nat) (r:List K):Int:=((L++[endT n]).getD (L.length - r.length) (endT n)).pos
def outM {α:Type} (zero:α) (L:List Tok) (n:Nat) (R:Res α):α × Int × Int:=match whole R with
 | .ok a _=>(a,0,0)
 | .no r=>(zero,posAt L n r,2)
def u4l {α:Type} (zero:α) (one:List K→Res α) (s:List UInt8):α × Int × Int :=
 if 4000<s.length then (zero,0,5) else
  match (sc s 0).2 with
  | some i=>(zero,i,2)
  | none=>outM zero (sc s 0).1 s.length (one ((sc s 0).1.map key))
theorem Glob.below {w w':World} {B:Nat} (h:Glob w) (k:Below B w w') (hB:10≤B):Glob w':=by
 have gv:∀ {g cs},g<10→Gv w g cs→Gv w' g cs:=fun hg ⟨ty,fr,h⟩=>⟨ty,fr,(k.block _ (by omega)).trans h⟩
 obtain ⟨⟨ty,fr,h1⟩,h2,h3,h4,h5⟩:=h
 exact ⟨⟨ty,fr,(k.block _ (by omega)).trans h1⟩,gv (by omega) h2,gv (by omega) h3,gv (by omega) h4,gv (by omega) h5⟩
theorem put1 {w:World} {q:Nat} {T:TypeId} {fr:Nat × Nat} {x0:Value} (v0:Value) (h:w.heap[q]? = some (.cells #[x0] T fr)):(w.setCell ⟨q,0,none⟩ v0).heap[q]? = some (.cells #[v0] T fr):=by
 simp [World.setCell,Array.getElem?_modify,h]
theorem u6c {w:World} {n:Nat} {x:Option Obj} (k:w.heap[n]? = x):w.drew.heap[n]? = x:=k
theorem OwnT.hi {w w':World} {base:Nat} {v:Value} {L:List Tok} (h:OwnT w base v L) (hk:∀ g,base≤g→g<w.heap.size→w'.heap[g]? = w.heap[g]?):OwnT w' base v L:=by
 refine ⟨h.1,?_⟩
 rcases h.2 with hv | ⟨g,cap,cur,hv,h1,h2,h3⟩
 ·exact .inl hv
 ·exact .inr ⟨g,cap,cur,hv,h1,(hk g h1 (Array.getElem?_eq_some_iff.1 h2).1).trans h2,h3⟩
theorem OwnT.some {w:World} {base:Nat} {v:Value} {L:List Tok} (h:OwnT w base v L) (hL:0<L.length):∃ g c,v=.slice (some ⟨g,0,none⟩) L.length c∧base≤g∧g<w.heap.size∧∀ j u,(u4m L)[j]? = some u→w.cell? ⟨g,j,none⟩=some u:=by
 rcases h.2 with ⟨hv,hn⟩ | ⟨g,cap,cur,hv,hb,hg,_⟩
 ·omega
 ·refine ⟨g,cap,hv,hb,(Array.getElem?_eq_some_iff.1 hg).1,fun j u hu=>?_⟩
  have:=World.ownsRow.cells h (g:=g) (by rw [hv]; rfl) j u hu
  have e:(⟨g,0,none⟩:Addr).add j=⟨g,j,none⟩:=by unfold Addr.add; split <;> simp_all
  rwa [e] at this
theorem leave_ex {fn:Func} {R:Ending→World→Prop} {tmps:Array Value} {W:World} {q4 q5 q6 s4 s5 s6:Nat} {v0 v1 v2 v3 v4:Value} {x y:Int} {f4 f5 f6:Nat × Nat} (hr:fn.results=#[ResultVar.cell s4 34,.cell s5 3,.cell s6 27])
  (h4:tmps.getD s4 undef=.pointer (some ⟨q4,0,none⟩)) (h5:tmps.getD s5 undef=.pointer (some ⟨q5,0,none⟩)) (h6:tmps.getD s6 undef=.pointer (some ⟨q6,0,none⟩))
  (hq4:W.heap[q4]? = some (.cells #[v0,v1,v2,v3,v4] 34 f4)) (hq5:W.heap[q5]? = some (.cells #[.int .i64 x] 3 f5)) (hq6:W.heap[q6]? = some (.cells #[.int .i64 y] 27 f6))
  (h:R (.returned (.tuple #[.agg #[v0,v1,v2,v3,v4],.int .i64 x,.int .i64 y])) W):Leaves Tryz.prog fn tmps R [] .returning W:=by
 have c4:∀ j,W.cell? ⟨q4,j,none⟩=#[v0,v1,v2,v3,v4][j]?:=fun j=>cell_of_row _ _ j _ _ _ hq4
 have c5:W.cell? ⟨q5,0,none⟩=some (.int .i64 x):=by rw [cell_of_row _ _ 0 _ _ _ hq5]; rfl
 have c6:W.cell? ⟨q6,0,none⟩=some (.int .i64 y):=by rw [cell_of_row _ _ 0 _ _ _ hq6]; rfl
 rw [Array.getD_eq_getD_getElem?] at h4 h5 h6
 refine ⟨_,?_,h⟩
 simp [results,hr,go_sem,h4,h5,h6,c4,c5,c6]
theorem door_ex {fn:Func} {R:Ending→World→Prop} {a:Act} {W:World} {q4 q5 q6 s4 s5 s6:Nat} {v0 v1 v2 v3 v4:Value} {x y:Int} {f4 f5 f6:Nat × Nat} (hr:fn.results=#[ResultVar.cell s4 34,.cell s5 3,.cell s6 27]) (hd:a.defers=[])
  (h4:a.tmps.getD s4 undef=.pointer (some ⟨q4,0,none⟩)) (h5:a.tmps.getD s5 undef=.pointer (some ⟨q5,0,none⟩)) (h6:a.tmps.getD s6 undef=.pointer (some ⟨q6,0,none⟩))
  (hq4:W.heap[q4]? = some (.cells #[v0,v1,v2,v3,v4] 34 f4)) (hq5:W.heap[q5]? = some (.cells #[.int .i64 x] 3 f5)) (hq6:W.heap[q6]? = some (.cells #[.int .i64 y] 27 f6))
  (h:R (.returned (.tuple #[.agg #[v0,v1,v2,v3,v4],.int .i64 x,.int .i64 y])) W):bodyPostD Tryz.prog fn R Exit.ret a W:=by
 show Leaves Tryz.prog fn a.tmps R a.defers .returning W
 rw [hd]
 exact leave_ex hr h4 h5 h6 hq4 hq5 hq6 h
theorem leave_pg {fn:Func} {R:Ending→World→Prop} {tmps:Array Value} {W:World} {q4 q5 q6 s4 s5 s6:Nat} {v0 v1:Value} {x y:Int} {f4 f5 f6:Nat × Nat} (hr:fn.results=#[ResultVar.cell s4 26,.cell s5 3,.cell s6 27])
  (h4:tmps.getD s4 undef=.pointer (some ⟨q4,0,none⟩)) (h5:tmps.getD s5 undef=.pointer (some ⟨q5,0,none⟩)) (h6:tmps.getD s6 undef=.pointer (some ⟨q6,0,none⟩))
  (hq4:W.heap[q4]? = some (.cells #[v0,v1] 26 f4)) (hq5:W.heap[q5]? = some (.cells #[.int .i64 x] 3 f5)) (hq6:W.heap[q6]? = some (.cells #[.int .i64 y] 27 f6))
  (h:R (.returned (.tuple #[.agg #[v0,v1],.int .i64 x,.int .i64 y])) W):Leaves Tryz.prog fn tmps R [] .returning W:=by
 have c4:∀ j,W.cell? ⟨q4,j,none⟩=#[v0,v1][j]?:=fun j=>cell_of_row _ _ j _ _ _ hq4
 have c5:W.cell? ⟨q5,0,none⟩=some (.int .i64 x):=by rw [cell_of_row _ _ 0 _ _ _ hq5]; rfl
 have c6:W.cell? ⟨q6,0,none⟩=some (.int .i64 y):=by rw [cell_of_row _ _ 0 _ _ _ hq6]; rfl
 rw [Array.getD_eq_getD_getElem?] at h4 h5 h6
 refine ⟨_,?_,h⟩
 simp [results,hr,go_sem,h4,h5,h6,c4,c5,c6]
theorem door_pg {fn:Func} {R:Ending→World→Prop} {a:Act} {W:World} {q4 q5 q6 s4 s5 s6:Nat} {v0 v1:Value} {x y:Int} {f4 f5 f6:Nat × Nat} (hr:fn.results=#[ResultVar.cell s4 26,.cell s5 3,.cell s6 27]) (hd:a.defers=[])
  (h4:a.tmps.getD s4 undef=.pointer (some ⟨q4,0,none⟩)) (h5:a.tmps.getD s5 undef=.pointer (some ⟨q5,0,none⟩)) (h6:a.tmps.getD s6 undef=.pointer (some ⟨q6,0,none⟩))
  (hq4:W.heap[q4]? = some (.cells #[v0,v1] 26 f4)) (hq5:W.heap[q5]? = some (.cells #[.int .i64 x] 3 f5)) (hq6:W.heap[q6]? = some (.cells #[.int .i64 y] 27 f6))
  (h:R (.returned (.tuple #[.agg #[v0,v1],.int .i64 x,.int .i64 y])) W):bodyPostD Tryz.prog fn R Exit.ret a W:=by
 show Leaves Tryz.prog fn a.tmps R a.defers .returning W
 rw [hd]
 exact leave_pg hr h4 h5 h6 hq4 hq5 hq6 h
theorem posAt_drop {L:List Tok} {n j:Nat} {t:Tok} (hj:j≤L.length) (ht:(L++[endT n])[j]? = some t):posAt L n ((L.map key).drop j)=t.pos:=by
 unfold posAt
 rw [List.length_drop,List.length_map,show L.length - (L.length - j)=j by omega,List.getD_eq_getElem?_getD,ht]; rfl
theorem whole_no {α:Type} {r:List K}:whole (.no r:Res α)=.no r:=rfl
theorem whole_more {α:Type} {a:α} {r:List K} (h:r.isEmpty=false):whole (.ok a r)=.no r:=by
 unfold whole Res.bind; simp only; rw [h]; rfl
theorem whole_nil {α:Type} {a:α} {r:List K} (h:r=[]):whole (.ok a r)=.ok a []:=by subst h; rfl
theorem below_two {w w2 w3 w4 W:World} {b B:Nat} (h:Below B w w2) (_:Below B w w) (h3:W.grownBy w3 (some b)) (h4:w3.grownBy w4 (some b)) (hb:B≤b) (hz:B≤W.heap.size) (hW:Below B w2 W):Below B w w4 :=
 ((h.trans hW).grown h3 hz (fun k hk=>by cases hk; exact hb)).grown h4 (Nat.le_trans hz h3.size) (fun k hk=>by cases hk; exact hb)
theorem parseE_err (s:ByteArray) (at_:Int) (er:Int) (her:(er != 0)=true) (w:World) (hg:Glob w) (h10:10≤w.heap.size)
  (hT:∀ w,Glob w→Calls Tryz.prog 36 #[.string s] w fun e w'=>e=.returned (.tuple #[.slice none 0 0,.int .i64 at_,.int .i64 er])∧Below w.heap.size w w') :
  Calls Tryz.prog 46 #[.string s,.func (.func 47) #[] #[]] w fun e w'=>Below w.heap.size w w'∧e=.returned (.tuple #[.agg #[.int .i64 0,.int .i64 0,.int .i32 0,.string ⟨#[]⟩,.slice none 0 0],.int .i64 at_,.int .i64 er]):=by
 have HT:=hid hT
 clear hT
 go_enter_defers Tryz.func46,Tryz.ntmps46
 go_wp2_with fail
 refine (HT.out _ (hg.below (B:=w.heap.size) tBEL h10)).mono ?_
 rintro e w1 ⟨rfl,hb1⟩
 have hz1:=hb1.size
 (try simp only [u0c,u0i,u0p] at hz1)
 have hg1:=u0f hb1 (some 0)
 obtain ⟨_,_,_,l4⟩:=u0a (q:=w.heap.size) hg1 tLOC tSZ
 obtain ⟨_,_,_,l5⟩:=u0a (q:=w.heap.size+1) hg1 tLOC tSZ
 obtain ⟨_,_,_,l6⟩:=u0a (q:=w.heap.size+1+1) hg1 tLOC tSZ
 have hbw:Below w.heap.size w w1:=Below.trans (b:=((w.alloc _).alloc _).alloc _) tBEL (hb1.mono tSZ)
 go_wp2
 go_region
 all_goals (try go_wp2)
 all_goals refine door_ex rfl rfl rfl rfl rfl (u6c tREZ) (u6c tREZ) (u6c tREZ) ⟨?_,rfl⟩
 all_goals exact Below.drew (hbw.trans tBEL)
def parseEPost (s:ByteArray) (w:World) (e:Ending) (w':World):Prop:=Below w.heap.size w w'∧∃ v a i er,e=.returned (.tuple #[v,.int .i64 i,.int .i64 er])∧RxV w.heap.size w' v a∧(a,i,er)=u4l (Ex.mk 0 0 0 [] []) (PE (.ex 1)) s.data.toList
theorem parseE_any (s:ByteArray) (hs:s.size≤maxLen) (w:World) (hg:Glob w) (h10:10≤w.heap.size) :
  Calls Tryz.prog 46 #[.string s,.func (.func 47) #[] #[]] w (parseEPost s w):=by
 by_cases h4:4000<s.size
 ·refine (parseE_err s 0 5 rfl w hg h10 fun w hw=>tokens_long s hs h4 w).mono fun e w' ⟨hb,he⟩=>⟨hb,_,(Ex.mk 0 0 0 [] []),0,5,he,(rx_mk (name:=[]) u7l),?_⟩
  unfold u4l; rw [if_pos (by rw [u0l]; exact h4)]
 have h4':s.size≤4000:=by omega
 have hlen4:¬ 4000<s.data.toList.length:=by rw [u0l]; exact h4
 cases hsc:(sc s.data.toList 0).2 with
 | some i =>
  refine (parseE_err s i 2 rfl w hg h10 fun w hw=>(u6y s h4' w hw.sg).mono fun e w' ⟨hp,hb⟩=>⟨?_,hb⟩).mono fun e w' ⟨hb,he⟩=>⟨hb,_,(Ex.mk 0 0 0 [] []),i,2,he,(rx_mk (name:=[]) u7l),?_⟩
  ·rcases hp with ⟨v,hn,_⟩ | ⟨j,hj,he⟩
   ·rw [hsc] at hn; cases hn
   ·rw [hsc] at hj; cases hj; exact he
  ·unfold u4l; rw [if_neg hlen4,hsc]
 | none =>
  obtain ⟨L,hL⟩:∃ L,(sc s.data.toList 0).1=L:=⟨_,rfl⟩
  have hwf:=sc_wf (l:=s.data.toList) (i:=0)
  have hcnt:=sc_count s.data.toList 0
  rw [hL] at hwf hcnt
  rw [u0l] at hcnt
  have HWF:=hid hwf
  have HM:=hid (show u4l (Ex.mk 0 0 0 [] []) (PE (.ex 1)) s.data.toList=outM (Ex.mk 0 0 0 [] []) L s.size ((PE (.ex 1)) (L.map key)) by
   unfold u4l; rw [if_neg hlen4,hsc,hL,u0l])
  have HT:Hid (∀ w,Glob w→Calls Tryz.prog 36 #[.string s] w fun e w'=>(∃ v,e=.returned (.tuple #[v,.int .i64 0,.int .i64 0])∧OwnT w' w.heap.size v L)∧Below w.heap.size w w'):=hid fun w hw=>(u6y s h4' w hw.sg).mono fun e w' ⟨hp,hb⟩=>⟨(by
   rcases hp with ⟨v,_,he,hr⟩ | ⟨j,hj,_⟩
   ·rw [hL] at hr; exact ⟨v,he,hr⟩
   ·rw [hsc] at hj; cases hj),hb⟩
  clear hwf hsc hL h4 hlen4
  have hmf:∀ (fn:Go.Fn) (first cap:Array Value) (w:World),(Instr.makeFunc fn first cap).run Tryz.prog w=.ok (.func fn first cap) w:=fun _ _ _ _=>rfl
  go_enter_defers Tryz.func46,Tryz.ntmps46
  go_wp2_with fail
  refine (HT.out _ (hg.below (B:=w.heap.size) tBEL h10)).mono ?_
  rintro e w1 ⟨⟨v,rfl,hown⟩,hb1⟩
  have hz1:=hb1.size
  (try simp only [u0c,u0i,u0p] at hz1 hown)
  have HO:=hid hown
  have hg1:=u0f hb1 (some 0)
  obtain ⟨_,_,_,l4⟩:=u0a (q:=w.heap.size) hg1 tLOC tSZ
  obtain ⟨_,_,_,l5⟩:=u0a (q:=w.heap.size+1) hg1 tLOC tSZ
  obtain ⟨_,_,_,l6⟩:=u0a (q:=w.heap.size+1+1) hg1 tLOC tSZ
  have hbw:Below w.heap.size w w1:=Below.trans (b:=((w.alloc _).alloc _).alloc _) tBEL (hb1.mono tSZ)
  clear hown hb1
  go_wp2_with (refine u5h rfl _ _ rfl (w.heap.size+3) v L (endT s.size) rfl (OwnT.hi HO.out (fun g hg1 hg2=>by rw [Below.heap_setCell _ _ _ _ tSZ,Below.heap_setCell _ _ _ _ tSZ])) w1.heap.size (by simp only [u0i]) rfl (by omega) tSZ ?_; intro v' w2 hown2 hb2 _ hz2; obtain ⟨X,c,rfl,hX1,hX2,hX3⟩:=OwnT.some hown2 (by simp); have hX:=hid hX3; clear hX3)
  have hlt3:w.heap.size+3≤X:=hX1
  have hXl:=hX2
  have hbw2:Below w.heap.size w w2:=(hbw.trans tBEL).trans (hb2.mono (by omega))
  obtain ⟨E,hEe⟩:∃ E:Env,E=⟨w2.heap.size,w2.heap.size+1,X,c,L,s.size⟩:=⟨_,rfl⟩
  have hEb:E.b=w2.heap.size:=by rw [hEe]
  have hEB:E.base=w2.heap.size+1:=by rw [hEe]
  have hEL:E.L=L:=by rw [hEe]
  have hEall:E.all=L++[endT s.size]:=by rw [hEe]; rfl
  have hEks:E.ks=L.map key:=by rw [hEe]; rfl
  have hE:E.Ok:=by
   rw [hEe]
   exact ⟨by show 10≤w2.heap.size; have:=hbw2.size; omega,by show w2.heap.size<w2.heap.size+1; omega,by show X≠w2.heap.size; omega,by show X<w2.heap.size+1; omega,by show L.length≤4000; omega,HWF.out⟩
  have hz2':=hbw2.size
  have k4:w2.heap[w.heap.size]? = some (.cells #[.int .i64 0,.int .i64 0,.int .i32 0,.string ⟨#[]⟩,.slice none 0 0] 34 (0,0)):=(hb2.block _ (by omega)).trans tREZ
  have k5:w2.heap[w.heap.size+1]? = some (.cells #[.int .i64 0] 3 (0,0)):=(hb2.block _ (by omega)).trans tREZ
  have k6:w2.heap[w.heap.size+1+1]? = some (.cells #[.int .i64 0] 27 (0,0)):=(hb2.block _ (by omega)).trans tREZ
  have hPs:Ps E ((w2.alloc (.cells #[.slice (some ⟨X,0,none⟩) (L.length+1) c,.int .i64 0] 117)).alloc (.cells #[.pointer (some ⟨w2.heap.size,0,none⟩)] 79)) 0:=by
   rw [hEe]
   exact ⟨u0e (by show w2.heap.size<_; simp only [u0c]; omega) (u0h rfl),fun j u hu=>past (past (hX.out j u hu) _) _,Nat.zero_le _,by show w2.heap.size+1≤_; simp only [u0c]; omega,(hg.below hbw2 h10).below (B:=w.heap.size) ((((Below.refl _ _).alloc (by omega) _)).alloc (by simp only [u0c]; omega) _) h10⟩
  have hPs0:=hid hPs
  clear hPs
  rw [← hEb]
  rw [← hEb] at hPs0
  refine (expr_all hE _ 0 hPs0.out).mono ?_
  rintro e w3 ⟨hg3,⟨a,j,v3,hR,hp3,rfl,⟨ak,ao,an,ax,aA,am,ac,rfl,ha⟩⟩ | ⟨j,hR,hp3,rfl⟩⟩
  all_goals (rw [List.drop_zero] at hR; have HR:=hid hR; clear hR; have hz3:=hg3.size; (try simp only [u0c,u0i,u0p] at hz3); have n4:=u0a (q:=w.heap.size) hg3 tREZ (by omega); have n5:=u0a (q:=w.heap.size+1) hg3 tREZ (by omega); have n6:=u0a (q:=w.heap.size+1+1) hg3 tREZ (by omega); have n8:=u0a (q:=w2.heap.size+1) hg3 (u0h (by simp only [u0c])) (by omega); obtain ⟨_,_,_,b4⟩:=n4; obtain ⟨_,_,_,b5⟩:=n5; obtain ⟨_,_,_,b6⟩:=n6; obtain ⟨_,_,_,b8⟩:=n8)
  rotate_left 1
  ·obtain ⟨t,ht⟩:=Env.at_ hp3.hi
   have HTk:=hid ht
   clear ht
   go_wp2
   refine leaves_cons (f:=90) (args:=#[.pointer (some ⟨w2.heap.size+1,0,none⟩),.pointer (some ⟨w.heap.size+1,0,none⟩),.pointer (some ⟨w.heap.size+1+1,0,none⟩)]) (by simp) (by simp [go_sem]) ?_
   refine (catchEOn (E:=E) w3 j hp3 t HTk.out (w2.heap.size+1) (w.heap.size+1) (w.heap.size+1+1) 0 0 [] b8 b5 b6 (by omega) (by omega) (by omega)).mono ?_
   rintro e u' w' ⟨rfl,rfl,w4,hg4n,rfl⟩
   have hg4:=u1q (r:=some E.b) hg4n
   have hz4:=hg4.size
   obtain ⟨_,_,_,d4⟩:=u0a (q:=w.heap.size) hg4 b4 (by omega)
   obtain ⟨_,_,_,d5⟩:=u0a (q:=w.heap.size+1) hg4 b5 (by omega)
   obtain ⟨_,_,_,d6⟩:=u0a (q:=w.heap.size+1+1) hg4 b6 (by omega)
   have hfin:=below_two hbw2 (Below.refl _ _) hg3 hg4 (by omega) (by simp only [u0c]; omega) tBEL
   show Leaves Tryz.prog Tryz.f46 _ _ [] FrameMode.returning _
   refine leave_ex rfl rfl rfl rfl tREZ tREZ tREZ ?_
   refine ⟨hfin.trans tBEL,_,(Ex.mk 0 0 0 [] []),t.pos,2,rfl,(rx_mk (name:=[]) u7l),?_⟩
   rw [HM.out,outM,← hEks,HR.out,whole_no]
   simp only
   rw [hEks,posAt_drop (by rw [← hEL]; exact hp3.hi) (by rw [← hEall]; exact HTk.out)]
  ·obtain ⟨t,ht⟩:=Env.at_ hp3.hi
   have HTk:=hid ht
   have hnx:=Env.next_ hp3.hi
   have hjl:=hp3.hi
   go_wp2_with fail
   rw [← hEb]
   refine (take_any hE _ j (hp3.keepB hE (by rw [hEB]; exact tBEL)) (-1) t HTk.out).mono ?_
   rintro e w4 ⟨hg4,⟨hk,hl,rfl,hp4⟩ | ⟨hk,hl,v4,rfl⟩ | ⟨hk,rfl,hp4⟩⟩
   ·exfalso
    rcases hnx with ⟨_,u,hu,hm,_⟩ | ⟨h,_⟩
    ·rw [hu] at ht; cases ht
     obtain ⟨hkk,_⟩:=hE.wf t hm
     omega
    ·omega
   all_goals (have hz4:=hg4.size; (try simp only [u0c,u0i,u0p] at hz4); have n4:=u0a (q:=w.heap.size) hg4 tREZ (by omega); have n5:=u0a (q:=w.heap.size+1) hg4 tREZ (by omega); have n6:=u0a (q:=w.heap.size+1+1) hg4 tREZ (by omega); have n8:=u0a (q:=w2.heap.size+1) hg4 tREZ (by omega); have n9:=u0a (q:=w3.heap.size) hg4 (u0h rfl) (by omega); obtain ⟨_,_,_,d4⟩:=n4; obtain ⟨_,_,_,d5⟩:=n5; obtain ⟨_,_,_,d6⟩:=n6; obtain ⟨_,_,_,d8⟩:=n8; obtain ⟨_,_,_,d9⟩:=n9)
   all_goals (have hfin:=(below_two hbw2 (Below.refl _ _) hg3 (u0n (u0r w3 (some E.b)) _) (by omega) (by simp only [u0c]; omega) tBEL).grown hg4 (by simp only [u0c]; omega) (fun k hk=>by cases hk; omega))
   ·go_wp2
    refine leaves_cons (f:=90) (args:=#[.pointer (some ⟨w2.heap.size+1,0,none⟩),.pointer (some ⟨w.heap.size+1,0,none⟩),.pointer (some ⟨w.heap.size+1+1,0,none⟩)]) (by simp) (by simp [go_sem]) ?_
    refine (catchEOff _ _ _ _).mono ?_
    rintro e u' w' ⟨rfl,rfl,rfl⟩
    show Leaves Tryz.prog Tryz.f46 _ _ [] FrameMode.returning _
    refine leave_ex rfl rfl rfl rfl tREZ tREZ tREZ ?_
    refine ⟨hfin.trans tBEL,_,a,0,0,rfl,⟨ak,ao,an,ax,aA,am,ac,rfl,u3z ha tKP tSZ tSZ⟩,?_⟩
    rw [HM.out,outM,← hEks,HR.out,whole_nil (by rw [hl]; unfold Env.ks; rw [List.drop_eq_nil_of_le (by simp)])]
   ·have hd:(E.ks.drop j).isEmpty=false:=by
     rcases hnx with ⟨_,u,hu,hm,hd⟩ | ⟨_,hu,_⟩
     ·rw [hd]; rfl
     ·rw [hu] at ht; cases ht; exact absurd rfl hk
    go_wp2
    refine leaves_cons (f:=90) (args:=#[.pointer (some ⟨w2.heap.size+1,0,none⟩),.pointer (some ⟨w.heap.size+1,0,none⟩),.pointer (some ⟨w.heap.size+1+1,0,none⟩)]) (by simp) (by simp [go_sem]) ?_
    refine (catchEOn (E:=E) w4 j hp4 t HTk.out (w2.heap.size+1) (w.heap.size+1) (w.heap.size+1+1) 0 0 [] d8 d5 d6 (by omega) (by omega) (by omega)).mono ?_
    rintro e u' w' ⟨rfl,rfl,w5,hg5n,rfl⟩
    have hg5:=u1q (r:=some E.b) hg5n
    have hz5:=hg5.size
    obtain ⟨_,_,_,e4⟩:=u0a (q:=w.heap.size) hg5 d4 (by omega)
    obtain ⟨_,_,_,e5⟩:=u0a (q:=w.heap.size+1) hg5 d5 (by omega)
    obtain ⟨_,_,_,e6⟩:=u0a (q:=w.heap.size+1+1) hg5 d6 (by omega)
    have hfin5:=hfin.grown hg5 (by omega) (fun k hk=>by cases hk; omega)
    show Leaves Tryz.prog Tryz.f46 _ _ [] FrameMode.returning _
    refine leave_ex rfl rfl rfl rfl tREZ tREZ tREZ ?_
    refine ⟨hfin5.trans tBEL,_,(Ex.mk 0 0 0 [] []),t.pos,2,rfl,(rx_mk (name:=[]) u7l),?_⟩
    rw [HM.out,outM,← hEks,HR.out,whole_more hd]
    simp only
    rw [hEks,posAt_drop (by rw [← hEL]; exact hjl) (by rw [← hEall]; exact HTk.out)]
def progR (l:List K):Res Pg:=(PP l).bind fun l r=>.ok (pg l) r
def RgV (h:Nat) (w:World) (v:Value) (p:Pg):Prop:=∃ A m c B m' c',v=.agg #[.slice A m c,.slice B m' c']∧RPg w (fun g=>h≤g∧g<w.heap.size) [.slice A m c,.slice B m' c'] p
theorem rg_nil {h:Nat} {w:World}:RgV h w (.agg #[.slice none 0 0,.slice none 0 0]) ⟨[],[]⟩:=⟨_,_,_,_,_,_,rfl,⟨_,_,_,_,_,_,rfl,sr_nil,sr_nil⟩⟩
theorem rg_keep {h h':Nat} {w w':World} {cs:List Value} {p:Pg} (ha:RPg w (fun g=>h≤g∧g<w.heap.size) cs p) (k:Kp h w w') (hh:h'≤h) (hz:w.heap.size≤w'.heap.size) :
  RPg w' (fun g=>h'≤g∧g<w'.heap.size) cs p :=
 RPg.keeps (fun p u hp hu=>k p u hp.1 hu) (fun _ hb=>⟨Nat.le_trans hh hb.1,Nat.lt_of_lt_of_le hb.2 hz⟩) ha
theorem parseP_err (s:ByteArray) (at_:Int) (er:Int) (her:(er != 0)=true) (w:World) (hg:Glob w) (h10:10≤w.heap.size)
  (hT:∀ w,Glob w→Calls Tryz.prog 36 #[.string s] w fun e w'=>e=.returned (.tuple #[.slice none 0 0,.int .i64 at_,.int .i64 er])∧Below w.heap.size w w') :
  Calls Tryz.prog 39 #[.string s,.func (.func 40) #[] #[]] w fun e w'=>Below w.heap.size w w'∧e=.returned (.tuple #[.agg #[.slice none 0 0,.slice none 0 0],.int .i64 at_,.int .i64 er]):=by
 have HT:=hid hT
 clear hT
 go_enter_defers Tryz.func39,Tryz.ntmps39
 go_wp2_with fail
 refine (HT.out _ (hg.below (B:=w.heap.size) tBEL h10)).mono ?_
 rintro e w1 ⟨rfl,hb1⟩
 have hz1:=hb1.size
 (try simp only [u0c,u0i,u0p] at hz1)
 have hg1:=u0f hb1 (some 0)
 obtain ⟨_,_,_,l4⟩:=u0a (q:=w.heap.size) hg1 tLOC tSZ
 obtain ⟨_,_,_,l5⟩:=u0a (q:=w.heap.size+1) hg1 tLOC tSZ
 obtain ⟨_,_,_,l6⟩:=u0a (q:=w.heap.size+1+1) hg1 tLOC tSZ
 have hbw:Below w.heap.size w w1:=Below.trans (b:=((w.alloc _).alloc _).alloc _) tBEL (hb1.mono tSZ)
 go_wp2
 go_region
 all_goals (try go_wp2)
 all_goals refine door_pg rfl rfl rfl rfl rfl (u6c tREZ) (u6c tREZ) (u6c tREZ) ⟨?_,rfl⟩
 all_goals exact Below.drew (hbw.trans tBEL)
def parsePPost (s:ByteArray) (w:World) (e:Ending) (w':World):Prop:=Below w.heap.size w w'∧∃ v a i er,e=.returned (.tuple #[v,.int .i64 i,.int .i64 er])∧RgV w.heap.size w' v a∧(a,i,er)=u4l (⟨[],[]⟩:Pg) progR s.data.toList
theorem parseP_any (s:ByteArray) (hs:s.size≤maxLen) (w:World) (hg:Glob w) (h10:10≤w.heap.size) :
  Calls Tryz.prog 39 #[.string s,.func (.func 40) #[] #[]] w (parsePPost s w):=by
 by_cases h4:4000<s.size
 ·refine (parseP_err s 0 5 rfl w hg h10 fun w hw=>tokens_long s hs h4 w).mono fun e w' ⟨hb,he⟩=>⟨hb,_,(⟨[],[]⟩:Pg),0,5,he,rg_nil,?_⟩
  unfold u4l; rw [if_pos (by rw [u0l]; exact h4)]
 have h4':s.size≤4000:=by omega
 have hlen4:¬ 4000<s.data.toList.length:=by rw [u0l]; exact h4
 cases hsc:(sc s.data.toList 0).2 with
 | some i =>
  refine (parseP_err s i 2 rfl w hg h10 fun w hw=>(u6y s h4' w hw.sg).mono fun e w' ⟨hp,hb⟩=>⟨?_,hb⟩).mono fun e w' ⟨hb,he⟩=>⟨hb,_,(⟨[],[]⟩:Pg),i,2,he,rg_nil,?_⟩
  ·rcases hp with ⟨v,hn,_⟩ | ⟨j,hj,he⟩
   ·rw [hsc] at hn; cases hn
   ·rw [hsc] at hj; cases hj; exact he
  ·unfold u4l; rw [if_neg hlen4,hsc]
 | none =>
  obtain ⟨L,hL⟩:∃ L,(sc s.data.toList 0).1=L:=⟨_,rfl⟩
  have hwf:=sc_wf (l:=s.data.toList) (i:=0)
  have hcnt:=sc_count s.data.toList 0
  rw [hL] at hwf hcnt
  rw [u0l] at hcnt
  have HWF:=hid hwf
  have HM:=hid (show u4l (⟨[],[]⟩:Pg) progR s.data.toList=outM (⟨[],[]⟩:Pg) L s.size (progR (L.map key)) by
   unfold u4l; rw [if_neg hlen4,hsc,hL,u0l])
  have HT:Hid (∀ w,Glob w→Calls Tryz.prog 36 #[.string s] w fun e w'=>(∃ v,e=.returned (.tuple #[v,.int .i64 0,.int .i64 0])∧OwnT w' w.heap.size v L)∧Below w.heap.size w w'):=hid fun w hw=>(u6y s h4' w hw.sg).mono fun e w' ⟨hp,hb⟩=>⟨(by
   rcases hp with ⟨v,_,he,hr⟩ | ⟨j,hj,_⟩
   ·rw [hL] at hr; exact ⟨v,he,hr⟩
   ·rw [hsc] at hj; cases hj),hb⟩
  clear hwf hsc hL h4 hlen4
  have hmf:∀ (fn:Go.Fn) (first cap:Array Value) (w:World),(Instr.makeFunc fn first cap).run Tryz.prog w=.ok (.func fn first cap) w:=fun _ _ _ _=>rfl
  go_enter_defers Tryz.func39,Tryz.ntmps39
  go_wp2_with fail
  refine (HT.out _ (hg.below (B:=w.heap.size) tBEL h10)).mono ?_
  rintro e w1 ⟨⟨v,rfl,hown⟩,hb1⟩
  have hz1:=hb1.size
  (try simp only [u0c,u0i,u0p] at hz1 hown)
  have HO:=hid hown
  have hg1:=u0f hb1 (some 0)
  obtain ⟨_,_,_,l4⟩:=u0a (q:=w.heap.size) hg1 tLOC tSZ
  obtain ⟨_,_,_,l5⟩:=u0a (q:=w.heap.size+1) hg1 tLOC tSZ
  obtain ⟨_,_,_,l6⟩:=u0a (q:=w.heap.size+1+1) hg1 tLOC tSZ
  have hbw:Below w.heap.size w w1:=Below.trans (b:=((w.alloc _).alloc _).alloc _) tBEL (hb1.mono tSZ)
  clear hown hb1
  go_wp2_with (refine u5h rfl _ _ rfl (w.heap.size+3) v L (endT s.size) rfl (OwnT.hi HO.out (fun g hg1 hg2=>by rw [Below.heap_setCell _ _ _ _ tSZ,Below.heap_setCell _ _ _ _ tSZ])) w1.heap.size (by simp only [u0i]) rfl (by omega) tSZ ?_; intro v' w2 hown2 hb2 _ hz2; obtain ⟨X,c,rfl,hX1,hX2,hX3⟩:=OwnT.some hown2 (by simp); have hX:=hid hX3; clear hX3)
  have hlt3:w.heap.size+3≤X:=hX1
  have hXl:=hX2
  have hbw2:Below w.heap.size w w2:=(hbw.trans tBEL).trans (hb2.mono (by omega))
  obtain ⟨E,hEe⟩:∃ E:Env,E=⟨w2.heap.size,w2.heap.size+1,X,c,L,s.size⟩:=⟨_,rfl⟩
  have hEb:E.b=w2.heap.size:=by rw [hEe]
  have hEB:E.base=w2.heap.size+1:=by rw [hEe]
  have hEL:E.L=L:=by rw [hEe]
  have hEall:E.all=L++[endT s.size]:=by rw [hEe]; rfl
  have hEks:E.ks=L.map key:=by rw [hEe]; rfl
  have hE:E.Ok:=by
   rw [hEe]
   exact ⟨by show 10≤w2.heap.size; have:=hbw2.size; omega,by show w2.heap.size<w2.heap.size+1; omega,by show X≠w2.heap.size; omega,by show X<w2.heap.size+1; omega,by show L.length≤4000; omega,HWF.out⟩
  have hz2':=hbw2.size
  have k4:w2.heap[w.heap.size]? = some (.cells #[.slice none 0 0,.slice none 0 0] 26 (0,0)):=(hb2.block _ (by omega)).trans tREZ
  have k5:w2.heap[w.heap.size+1]? = some (.cells #[.int .i64 0] 3 (0,0)):=(hb2.block _ (by omega)).trans tREZ
  have k6:w2.heap[w.heap.size+1+1]? = some (.cells #[.int .i64 0] 27 (0,0)):=(hb2.block _ (by omega)).trans tREZ
  have hPs:Ps E ((w2.alloc (.cells #[.slice (some ⟨X,0,none⟩) (L.length+1) c,.int .i64 0] 117)).alloc (.cells #[.pointer (some ⟨w2.heap.size,0,none⟩)] 79)) 0:=by
   rw [hEe]
   exact ⟨u0e (by show w2.heap.size<_; simp only [u0c]; omega) (u0h rfl),fun j u hu=>past (past (hX.out j u hu) _) _,Nat.zero_le _,by show w2.heap.size+1≤_; simp only [u0c]; omega,(hg.below hbw2 h10).below (B:=w.heap.size) ((((Below.refl _ _).alloc (by omega) _)).alloc (by simp only [u0c]; omega) _) h10⟩
  have hPs0:=hid hPs
  clear hPs
  rw [← hEb]
  rw [← hEb] at hPs0
  refine (program_any hE _ 0 hPs0.out).mono ?_
  rintro e w3 ⟨hg3,⟨a,j,v3,hR,hp3,rfl,⟨A,m,c1,B,m',c',rfl,ha⟩⟩ | ⟨j,hR,hp3,rfl⟩⟩
  all_goals (rw [List.drop_zero] at hR; have HR:=hid (show progR E.ks=_ by unfold progR; rw [hR]); clear hR; have hz3:=hg3.size; (try simp only [u0c,u0i,u0p] at hz3); have n4:=u0a (q:=w.heap.size) hg3 tREZ (by omega); have n5:=u0a (q:=w.heap.size+1) hg3 tREZ (by omega); have n6:=u0a (q:=w.heap.size+1+1) hg3 tREZ (by omega); have n8:=u0a (q:=w2.heap.size+1) hg3 (u0h (by simp only [u0c])) (by omega); obtain ⟨_,_,_,b4⟩:=n4; obtain ⟨_,_,_,b5⟩:=n5; obtain ⟨_,_,_,b6⟩:=n6; obtain ⟨_,_,_,b8⟩:=n8)
  rotate_left 1
  ·obtain ⟨t,ht⟩:=Env.at_ hp3.hi
   have HTk:=hid ht
   clear ht
   go_wp2
   refine leaves_cons (f:=72) (args:=#[.pointer (some ⟨w2.heap.size+1,0,none⟩),.pointer (some ⟨w.heap.size+1,0,none⟩),.pointer (some ⟨w.heap.size+1+1,0,none⟩)]) (by simp) (by simp [go_sem]) ?_
   refine (catchPOn (E:=E) w3 j hp3 t HTk.out (w2.heap.size+1) (w.heap.size+1) (w.heap.size+1+1) 0 0 [] b8 b5 b6 (by omega) (by omega) (by omega)).mono ?_
   rintro e u' w' ⟨rfl,rfl,w4,hg4n,rfl⟩
   have hg4:=u1q (r:=some E.b) hg4n
   have hz4:=hg4.size
   obtain ⟨_,_,_,d4⟩:=u0a (q:=w.heap.size) hg4 b4 (by omega)
   obtain ⟨_,_,_,d5⟩:=u0a (q:=w.heap.size+1) hg4 b5 (by omega)
   obtain ⟨_,_,_,d6⟩:=u0a (q:=w.heap.size+1+1) hg4 b6 (by omega)
   have hfin:=below_two hbw2 (Below.refl _ _) hg3 hg4 (by omega) (by simp only [u0c]; omega) tBEL
   show Leaves Tryz.prog Tryz.f39 _ _ [] FrameMode.returning _
   refine leave_pg rfl rfl rfl rfl tREZ tREZ tREZ ?_
   refine ⟨hfin.trans tBEL,_,(⟨[],[]⟩:Pg),t.pos,2,rfl,rg_nil,?_⟩
   rw [HM.out,outM,← hEks,HR.out,no_bind,whole_no]
   simp only
   rw [hEks,posAt_drop (by rw [← hEL]; exact hp3.hi) (by rw [← hEall]; exact HTk.out)]
  ·obtain ⟨t,ht⟩:=Env.at_ hp3.hi
   have HTk:=hid ht
   have hnx:=Env.next_ hp3.hi
   have hjl:=hp3.hi
   go_wp2_with fail
   rw [← hEb]
   refine (take_any hE _ j (hp3.keepB hE (by rw [hEB]; exact tBEL)) (-1) t HTk.out).mono ?_
   rintro e w4 ⟨hg4,⟨hk,hl,rfl,hp4⟩ | ⟨hk,hl,v4,rfl⟩ | ⟨hk,rfl,hp4⟩⟩
   ·exfalso
    rcases hnx with ⟨_,u,hu,hm,_⟩ | ⟨h,_⟩
    ·rw [hu] at ht; cases ht
     obtain ⟨hkk,_⟩:=hE.wf t hm
     omega
    ·omega
   all_goals (have hz4:=hg4.size; (try simp only [u0c,u0i,u0p] at hz4); have n4:=u0a (q:=w.heap.size) hg4 tREZ (by omega); have n5:=u0a (q:=w.heap.size+1) hg4 tREZ (by omega); have n6:=u0a (q:=w.heap.size+1+1) hg4 tREZ (by omega); have n8:=u0a (q:=w2.heap.size+1) hg4 tREZ (by omega); have n9:=u0a (q:=w3.heap.size) hg4 (u0h rfl) (by omega); obtain ⟨_,_,_,d4⟩:=n4; obtain ⟨_,_,_,d5⟩:=n5; obtain ⟨_,_,_,d6⟩:=n6; obtain ⟨_,_,_,d8⟩:=n8; obtain ⟨_,_,_,d9⟩:=n9)
   all_goals (have hfin:=(below_two hbw2 (Below.refl _ _) hg3 (u0n (u0r w3 (some E.b)) _) (by omega) (by simp only [u0c]; omega) tBEL).grown hg4 (by simp only [u0c]; omega) (fun k hk=>by cases hk; omega))
   ·go_wp2
    refine leaves_cons (f:=72) (args:=#[.pointer (some ⟨w2.heap.size+1,0,none⟩),.pointer (some ⟨w.heap.size+1,0,none⟩),.pointer (some ⟨w.heap.size+1+1,0,none⟩)]) (by simp) (by simp [go_sem]) ?_
    refine (catchPOff _ _ _ _).mono ?_
    rintro e u' w' ⟨rfl,rfl,rfl⟩
    show Leaves Tryz.prog Tryz.f39 _ _ [] FrameMode.returning _
    refine leave_pg rfl rfl rfl rfl tREZ tREZ tREZ ?_
    refine ⟨hfin.trans tBEL,_,pg a,0,0,rfl,⟨A,m,c1,B,m',c',rfl,rg_keep ha tKP tSZ tSZ⟩,?_⟩
    rw [HM.out,outM,← hEks,HR.out,u4i,whole_nil (by rw [hl]; unfold Env.ks; rw [List.drop_eq_nil_of_le (by simp)])]
   ·have hd:(E.ks.drop j).isEmpty=false:=by
     rcases hnx with ⟨_,u,hu,hm,hd⟩ | ⟨_,hu,_⟩
     ·rw [hd]; rfl
     ·rw [hu] at ht; cases ht; exact absurd rfl hk
    go_wp2
    refine leaves_cons (f:=72) (args:=#[.pointer (some ⟨w2.heap.size+1,0,none⟩),.pointer (some ⟨w.heap.size+1,0,none⟩),.pointer (some ⟨w.heap.size+1+1,0,none⟩)]) (by simp) (by simp [go_sem]) ?_
    refine (catchPOn (E:=E) w4 j hp4 t HTk.out (w2.heap.size+1) (w.heap.size+1) (w.heap.size+1+1) 0 0 [] d8 d5 d6 (by omega) (by omega) (by omega)).mono ?_
    rintro e u' w' ⟨rfl,rfl,w5,hg5n,rfl⟩
    have hg5:=u1q (r:=some E.b) hg5n
    have hz5:=hg5.size
    obtain ⟨_,_,_,e4⟩:=u0a (q:=w.heap.size) hg5 d4 (by omega)
    obtain ⟨_,_,_,e5⟩:=u0a (q:=w.heap.size+1) hg5 d5 (by omega)
    obtain ⟨_,_,_,e6⟩:=u0a (q:=w.heap.size+1+1) hg5 d6 (by omega)
    have hfin5:=hfin.grown hg5 (by omega) (fun k hk=>by cases hk; omega)
    show Leaves Tryz.prog Tryz.f39 _ _ [] FrameMode.returning _
    refine leave_pg rfl rfl rfl rfl tREZ tREZ tREZ ?_
    refine ⟨hfin5.trans tBEL,_,(⟨[],[]⟩:Pg),t.pos,2,rfl,rg_nil,?_⟩
    rw [HM.out,outM,← hEks,HR.out,u4i,whole_more hd]
    simp only
    rw [hEks,posAt_drop (by rw [← hEL]; exact hjl) (by rw [← hEall]; exact HTk.out)]
end Go.Proofs.YtbkhnilbgocpnaaGreatDoor.SynC
