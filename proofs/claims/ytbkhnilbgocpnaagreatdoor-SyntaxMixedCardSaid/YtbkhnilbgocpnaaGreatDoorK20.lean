import Derived.Deep.QuietTactic
import Derived.Test.YtbkhnilbgocpnaaGreatDoorTie
import Derived.Test.YtbkhnilbgocpnaaGreatDoorK0
import Derived.Test.YtbkhnilbgocpnaaGreatDoorK18
import Derived.Test.YtbkhnilbgocpnaaGreatDoorK1
import Derived.Test.YtbkhnilbgocpnaaGreatDoorK19
set_option linter.unusedVariables false
set_option linter.unusedSimpArgs false
set_option maxRecDepth 100000
set_option maxHeartbeats 2000000
open Go.Lib (hid)
namespace Go.Proofs.YtbkhnilbgocpnaaGreatDoor.SynC
open Go.Proofs.YtbkhnilbgocpnaaGreatDoor.LexC
open Go Go.ChangeShapes Go.WideShapes Go.ChangeAt Go.RowKit Go.Deep
theorem nm_eq:u0o=nmL:=by
 funext l
 cases l with
 | nil=>rfl
 | cons c r=>rfl
def writ (q:Pg):List UInt8:=txt (q.its.flatMap (tI dgL))
def u2s (q:Pg):Bool:=fitP q&&decide ((writ q).length≤4000)
def u5j (q:Pg):List UInt8 × Int:=if u2s q then (writ q,0) else ([],1)
theorem fitSs_ok {nm:List UInt8→Bool} {p lv:Int} {l:List St} (h:u6d nm p lv l=true):okSs nm l=true:=by
 unfold u6d at h; simp only [Bool.and_eq_true] at h; exact h.1.1.1
theorem fitF_ok {p:Int} {f:Fn} (h:fitF p f=true):okI u0o f.it=true:=by
 unfold fitF at h
 simp only [Bool.and_eq_true,decide_eq_true_eq] at h
 show ((u0o f.name&&f.params.all u0o&&decide (f.params.length≤6))&&okSs u0o f.body)=true
 rw [h.1.1.1,h.1.2,fitSs_ok h.2]
 simp; exact h.1.1.2
theorem fitK_ok {p:Int} {f:Kr} (h:fitK p f=true):okI u0o f.it=true:=by
 unfold fitK at h
 simp only [Bool.and_eq_true,decide_eq_true_eq] at h
 obtain ⟨⟨⟨⟨⟨h1,h2⟩,h3⟩,h4⟩,h5⟩,h6⟩:=h
 show ((u0o f.name&&f.params.all (fun a=>u0o a.1)&&decide (f.params.length≤6)&&f.shared.all (fun a=>u0o a.1&&decide (1≤a.2∧a.2≤64))&&decide (f.shared.length≤4))&&okSs u0o f.body)=true
 have e1:f.params.all (fun a=>u0o a.1)=true:=h3
 have e2:f.shared.all (fun a=>u0o a.1&&decide (1≤a.2∧a.2≤64))=true:=by
  rw [List.all_eq_true] at h5 ⊢
  intro a ha
  have:=h5 a ha
  simp only [arrB,Bool.and_eq_true,decide_eq_true_eq] at this
  simp [this.1.1,this.1.2,this.2]
 rw [h1,e1,e2,fitSs_ok h6]
 simp; omega
theorem fitFs_ok:∀ (l:List Fn) (p:Int),fitFs p l=true→∀ f∈l,okI u0o f.it=true
 | [],_,_=>fun _ h=>by cases h
 | f :: r,p,h=>by
  rw [fitFs,Bool.and_eq_true] at h
  intro g hg
  rcases List.mem_cons.1 hg with rfl | hg
  ·exact fitF_ok h.1
  ·exact fitFs_ok r _ h.2 g hg
theorem fitKs_ok:∀ (l:List Kr) (p:Int),fitKs p l=true→∀ f∈l,okI u0o f.it=true
 | [],_,_=>fun _ h=>by cases h
 | f :: r,p,h=>by
  rw [fitKs,Bool.and_eq_true] at h
  intro g hg
  rcases List.mem_cons.1 hg with rfl | hg
  ·exact fitK_ok h.1
  ·exact fitKs_ok r _ h.2 g hg
theorem fitKs_le:∀ (l:List Kr) (p:Int),p≤400→fitKs p l=true→p+sumP (bodK l)≤400
 | [],p,hp,_=>by simp [bodK,sumP]; exact hp
 | f :: r,p,hp,h=>by
  rw [fitKs,Bool.and_eq_true] at h
  have h1:=fitK_le h.1
  have:=fitKs_le r _ h1 h.2
  show p+sumP (f.body :: bodK r)≤400
  rw [sumP]; omega
theorem fitP_ok {q:Pg} (h:fitP q=true):OkP u0o q:=by
 unfold fitP at h
 rw [Bool.and_eq_true] at h
 intro i hi
 rcases List.mem_append.1 hi with hi | hi
 ·obtain ⟨f,hf,rfl⟩:=List.mem_map.1 hi
  exact fitFs_ok _ _ h.1 f hf
 ·obtain ⟨f,hf,rfl⟩:=List.mem_map.1 hi
  exact fitKs_ok _ _ h.2 f hf
theorem fitP_le {q:Pg} (h:fitP q=true):partsP q≤400:=by
 unfold fitP at h
 rw [Bool.and_eq_true] at h
 have h1:=fitFs_le _ _ (by omega) h.1
 exact fitKs_le _ _ (by omega) h.2
theorem partsIs_append (a b:List It):u4q (a++b)=u4q a+u4q b:=by
 induction a with
 | nil=>simp [u4q]
 | cons i a ih=>rw [List.cons_append,u4q,u4q,ih]; omega
theorem partsIs_its (q:Pg):u4q q.its=partsP q:=by
 unfold Pg.its partsP
 rw [partsIs_append]
 have h1:∀ l:List Fn,u4q (l.map Fn.it)=sumP (bodF l):=by
  intro l
  induction l with
  | nil=>rfl
  | cons f l ih=>rw [List.map_cons,u4q,ih]; rfl
 have h2:∀ l:List Kr,u4q (l.map Kr.it)=sumP (bodK l):=by
  intro l
  induction l with
  | nil=>rfl
  | cons f l ih=>rw [List.map_cons,u4q,ih]; rfl
 rw [h1,h2]
theorem its_len (q:Pg):q.its.length=q.fns.length+q.krs.length:=by simp [Pg.its]
theorem fit_room {q:Pg} (h:fitP q=true) (hl:q.fns.length+q.krs.length≤4001):(q.its.flatMap (tI dgL)).length≤400000∧(writ q).length≤5000000:=by
 have hok:=fitP_ok h
 have h1:=tIs_len u0o q.its hok
 rw [partsIs_its,its_len] at h1
 have h2:=fitP_le h
 have h3:SmKs (q.its.flatMap (tI dgL)):=smKs_flat fun i hi=>sm_I i (by rw [← nm_eq]; exact hok i hi)
 have h4:=txt_len _ h3
 have h5:(q.its.flatMap (tI dgL)).length≤243660:=by omega
 exact ⟨by omega,by show (txt _).length≤_; omega⟩
structure Gl (w:World):Prop where
 glob:Glob w
 pow:Gv w 7 powA
 tabs:Tabs w
 z:10≤w.heap.size
theorem Gl.below {w w':World} {B:Nat} (h:Gl w) (k:Below B w w') (hB:10≤B):Gl w':=by
 have gv:∀ {g cs},g<10→Gv w g cs→Gv w' g cs:=fun hg ⟨ty,fr,h⟩=>⟨ty,fr,(k.block _ (by omega)).trans h⟩
 exact ⟨h.glob.below k hB,gv (by omega) h.pow,⟨gv (by omega) h.tabs.exs,gv (by omega) h.tabs.sts,gv (by omega) h.tabs.fold⟩,Nat.le_trans h.z k.size⟩
theorem Gl.bel {w w':World} (h:Gl w) (k:Below w.heap.size w w'):Gl w':=h.below k h.z
theorem Gl.alloc {w:World} (h:Gl w) (o:Obj):Gl (w.alloc o):=h.bel ((Below.refl _ _).alloc (Nat.le_refl _) _)
theorem Gl.drew {w:World} (h:Gl w):Gl w.drew:=h.bel ((Below.refl _ _).drew)
structure PgIn (w:World) (A:Option Addr) (m c:Nat) (B:Option Addr) (mb cb:Nat) (q:Pg):Prop where
 f:SlR rdF 3 (fun g=>g<w.heap.size) w (.slice A m c) q.fns
 k:SlR rdK 4 (fun g=>g<w.heap.size) w (.slice B mb cb) q.krs
 gf:∀ a∈q.fns,rgF a
 gk:∀ a∈q.krs,rgK a
 len:q.fns.length+q.krs.length≤4001
theorem PgIn.below {w w':World} {A:Option Addr} {m c:Nat} {B:Option Addr} {mb cb:Nat} {q:Pg} (h:PgIn w A m c B mb cb q) (k:Below w.heap.size w w'):PgIn w' A m c B mb cb q :=
 ⟨h.f.keeps u2l (u0z k fun _ hb=>hb) (fun _ hb=>Nat.lt_of_lt_of_le hb k.size),h.k.keeps u2x (u0z k fun _ hb=>hb) (fun _ hb=>Nat.lt_of_lt_of_le hb k.size),h.gf,h.gk,h.len⟩
theorem u1e (w:World) (o:Obj):Below w.heap.size w (w.alloc o):=(Below.refl _ _).alloc (Nat.le_refl _) _
theorem seq {a b c:World} (h:Below a.heap.size a b) (k:Below b.heap.size b c):Below a.heap.size a c:=h.trans (k.mono h.size)
theorem text_any (q:Pg) (w:World) (A:Option Addr) (m c:Nat) (B:Option Addr) (mb cb:Nat) (hG:Gl w) (hp:PgIn w A m c B mb cb q) :
  Calls Tryz.prog 22 #[.agg #[.slice A m c,.slice B mb cb]] w fun e w'=>e=.returned (.tuple #[.string (bs (u5j q).1),.int .i64 (u5j q).2])∧Below w.heap.size w w':=by
 have hM:∀ w1,Below w.heap.size w w1→Calls Tryz.prog 53 #[.agg #[.slice A m c,.slice B mb cb]] w1 fun e w'=>Below w1.heap.size w1 w'∧∃ p2 d2:Int,e=.returned (.tuple #[.agg #[.int .i64 p2,.int .i64 d2],.bool (fitP q)])∧(fitP q=true→p2=partsP q∧d2=depthP q) :=
  fun w1 h1=>u7a q w1 A m c B mb cb (hG.bel h1).z (hG.bel h1).tabs (hp.below h1).f (hp.below h1).k hp.gf hp.gk (by have:=hp.len; omega) (by have:=hp.len; omega)
 have HM:=hid hM
 clear hM
 cases hb:fitP q
 ·have hv:u5j q=([],1):=by unfold u5j u2s; rw [hb]; rfl
  rw [hv]
  have HB:=hid hb
  clear hv hb hp
  go_enter Tryz.func22,Tryz.ntmps22
  go_wp2_with fail
  refine (HM.out _ (u1e _ _)).mono ?_
  rintro e w1 ⟨hb1,p2,d2,rfl,-⟩
  rw [HB.out]
  have HB1:=hid (seq (u1e _ _) hb1)
  clear hb1
  go_wp2
  go_ret2
  exact ⟨rfl,by have:=HB1.out; exact seq (seq this (u1e _ _)) tBEL⟩
 ·have hr:=fit_room hb hp.len
  have hW:∀ w1,Below w.heap.size w w1→Calls Tryz.prog 54 #[.agg #[.slice A m c,.slice B mb cb]] w1 fun e w'=>e=.returned (.string (bs (writ q)))∧Below w1.heap.size w1 w' :=
   fun w1 h1=>programText_w fmtU itoS q (fitP_ok hb) w1 (hG.bel h1).glob (hG.bel h1).pow (hG.bel h1).z A m c B mb cb (hp.below h1).f (hp.below h1).k hr.1 hr.2
  have HW:=hid hW
  have HB:=hid hb
  have hlt:decide ((4000:Int)<((bs (writ q)).size:Nat)) = !decide ((writ q).length≤4000):=by rw [u4t]; by_cases h:(writ q).length≤4000 <;> simp [h] <;> omega
  have hv:u5j q=if (writ q).length≤4000 then (writ q,0) else ([],1):=by unfold u5j u2s; rw [hb]; simp
  rw [hv]
  clear hv hb hp hW hr
  by_cases h4:(writ q).length≤4000
  ·rw [if_pos h4]
   simp only [h4,decide_true,Bool.not_true] at hlt
   clear h4
   go_enter Tryz.func22,Tryz.ntmps22
   go_wp2_with fail
   refine (HM.out _ (u1e _ _)).mono ?_
   rintro e w1 ⟨hb1,p2,d2,rfl,-⟩
   rw [HB.out]
   obtain ⟨_,_,_,k0⟩:=u0a (q:=w.heap.size) (u0f hb1 (some 1)) tLOC (by have:=hG.z; omega)
   have HB1:=hid (seq (u1e _ _) hb1)
   clear hb1
   go_wp2_with fail
   refine (HW.out _ (seq HB1.out ((u1e _ _).trans tBEL))).mono ?_
   rintro e w2 ⟨rfl,hb2⟩
   have HB2:=hid (seq (seq HB1.out (u1e _ (.cells #[.int .i64 p2,.int .i64 d2] 96))) hb2)
   clear hb2
   go_wp2
   go_ret2
   exact ⟨rfl,HB2.out⟩
  ·rw [if_neg h4]
   simp only [h4,decide_false,Bool.not_false] at hlt
   clear h4
   go_enter Tryz.func22,Tryz.ntmps22
   go_wp2_with fail
   refine (HM.out _ (u1e _ _)).mono ?_
   rintro e w1 ⟨hb1,p2,d2,rfl,-⟩
   rw [HB.out]
   obtain ⟨_,_,_,k0⟩:=u0a (q:=w.heap.size) (u0f hb1 (some 1)) tLOC (by have:=hG.z; omega)
   have HB1:=hid (seq (u1e _ _) hb1)
   clear hb1
   go_wp2_with fail
   refine (HW.out _ (seq HB1.out ((u1e _ _).trans tBEL))).mono ?_
   rintro e w2 ⟨rfl,hb2⟩
   have HB2:=hid (seq (seq HB1.out (u1e _ (.cells #[.int .i64 p2,.int .i64 d2] 96))) hb2)
   clear hb2
   go_wp2
   go_ret2
   exact ⟨rfl,HB2.out⟩
theorem valid_any (q:Pg) (w:World) (A:Option Addr) (m c:Nat) (B:Option Addr) (mb cb:Nat) (hG:Gl w) (hp:PgIn w A m c B mb cb q) :
  Calls Tryz.prog 26 #[.agg #[.slice A m c,.slice B mb cb]] w fun e w'=>e=.returned (.bool (u2s q))∧Below w.heap.size w w':=by
 have hT:=text_any q _ A m c B mb cb (hG.alloc (.cells #[.slice A m c,.slice B mb cb] 26)) (hp.below (u1e _ _))
 have hv:(u5j q).2=if u2s q then 0 else 1:=by unfold u5j; split <;> rfl
 obtain ⟨x,hx⟩:∃ x,bs (u5j q).1=x:=⟨_,rfl⟩
 rw [hv,hx] at hT
 clear hv hx
 cases hb:u2s q
 ·rw [hb] at hT
  simp only [Bool.false_eq_true,if_false] at hT
  have HT:=hid hT
  clear hT hb hp
  go_enter Tryz.func26,Tryz.ntmps26
  go_wp2_with fail
  refine HT.out.mono ?_
  rintro e w1 ⟨rfl,hb1⟩
  have HB1:=hid (seq (u1e _ _) hb1)
  clear hb1
  go_wp2
  go_ret
  exact ⟨rfl,HB1.out⟩
 ·rw [hb] at hT
  simp only [if_true] at hT
  have HT:=hid hT
  clear hT hb hp
  go_enter Tryz.func26,Tryz.ntmps26
  go_wp2_with fail
  refine HT.out.mono ?_
  rintro e w1 ⟨rfl,hb1⟩
  have HB1:=hid (seq (u1e _ _) hb1)
  clear hb1
  go_wp2
  go_ret
  exact ⟨rfl,HB1.out⟩
end Go.Proofs.YtbkhnilbgocpnaaGreatDoor.SynC
namespace Go.Proofs.YtbkhnilbgocpnaaGreatDoor.SynC
open Go.Proofs.YtbkhnilbgocpnaaGreatDoor.LexC
open Go.Proofs.YtbkhnilbgocpnaaGreatDoor.SynF
open Go Go.ChangeShapes Go.WideShapes Go.ChangeAt Go.RowKit Go.Deep
def laidS:List (String × DataW Unit):=Rows.syntaxNamesRow.laid
theorem own:ownKnob Tryz.prog.godebug=none:=by kernel_rfl
theorem laidOut:laidOutB Tryz.prog=true:=by kernel_rfl
theorem door_met (os:Os) (args:Array Value):laidMetH Tryz.prog laidS ((World.doorLaid Tryz.prog 400 os).forCall (fun _ _=>0) ⟨#[],args,[]⟩).memory :=
 laidMetH_of_parts3 (fuel:=8) (laidMet_of_run' 8 (by kernel_rfl) (by kernel_rfl)) (by kernel_rfl) (by kernel_rfl)
theorem laid_at {W:World}:∀ (l:List (String × DataW Unit)) (ps:List MemPlace),DataW.LaidVars Tryz.prog W l ps→∀ x∈l,
  ∃ (g t:Nat) (cs:Array Value) (fuel:Nat) (p:List MemPlace),Tryz.prog.globalNamed x.1=some g∧(Tryz.prog.globals[g]?).map (·.type)=some t∧W.var? Tryz.prog x.1=some cs∧DataW.trod (fun _=>()) Tryz.prog W 0 (fun _=>true) false fuel t cs.toList=some (x.2,p)
 | [],_,_,_,h=>by cases h
 | (n,d) :: r,ps,h,x,hx=>by
  obtain ⟨g,t,cs,fuel,p,q,h1,h2,h3,h4,h5,_⟩:=h
  rcases List.mem_cons.1 hx with rfl | hx
  ·exact ⟨g,t,cs,fuel,p,h1,h2,h3,h4⟩
  ·exact laid_at r q h5 x hx
theorem gv_at {W:World} {ps:List MemPlace} (h:DataW.LaidVars Tryz.prog W laidS ps) (k g:Nat) (l:List Value) (hk:(laidS[k]?).map (fun x=>Tryz.prog.globalNamed x.1)=some (some g)) (hd:(laidS[k]?).map (fun x=>flat x.2)=some l)
  (hp:((Tryz.prog.globals[g]?).map (·.type)).all (fun t=>plainT Tryz.prog 4 t&&decide (t<Tryz.prog.types.size))=true):Gv W g l.toArray:=by
 obtain ⟨x,hx,hx1⟩:=Option.map_eq_some_iff.1 hk
 rw [hx] at hd
 obtain ⟨g0,t,cs,fuel,p,h1,h2,h3,h4⟩:=laid_at laidS ps h x (List.mem_of_getElem? hx)
 rw [hx1] at h1
 cases h1
 rw [h2] at hp
 simp only [Option.all_some,Bool.and_eq_true,decide_eq_true_eq] at hp
 have hf:=trod_flat laidOut 4 _ _ _ _ hp.1 hp.2 h4
 simp only [Option.map_some,Option.some.injEq] at hd
 have hcs:cs=l.toArray:=by rw [← hd]; exact Array.ext' (by rw [hf])
 subst hcs
 unfold World.var? at h3
 rw [hx1] at h3
 simp only [Option.bind_some] at h3
 cases hh:W.heap[g]? with
 | none=>rw [hh] at h3; cases h3
 | some o =>
  rw [hh] at h3
  cases o with
  | cells cs ty fr =>
   simp only [Option.some.injEq] at h3
   exact ⟨ty,fr,by rw [hh,h3]⟩
  | _=>cases h3
theorem of_laid {W:World} (h:laidMetH Tryz.prog laidS W):Gl W:=by
 rw [MakeChecks.laidMetH_plain _ _ _ (by kernel_rfl)] at h
 obtain ⟨ps,h,_⟩:=h
 have g2:=gv_at h 0 2 signsA.toList (by kernel_rfl) (by rfl) (by kernel_rfl)
 have g7:=gv_at h 3 7 powA.toList (by kernel_rfl) (by rfl) (by kernel_rfl)
 have g3:=gv_at h 4 3 infA.toList (by kernel_rfl) (by rfl) (by kernel_rfl)
 have g1:=gv_at h 5 1 prefA.toList (by kernel_rfl) (by rfl) (by kernel_rfl)
 have g0:=gv_at h 6 0 specA.toList (by kernel_rfl) (by rfl) (by kernel_rfl)
 have g6:=gv_at h 7 6 foldA.toList (by kernel_rfl) (by rfl) (by kernel_rfl)
 have g4:=gv_at h 8 4 exsA.toList (by kernel_rfl) (by rfl) (by kernel_rfl)
 have g5:=gv_at h 9 5 stsA.toList (by kernel_rfl) (by rfl) (by kernel_rfl)
 obtain ⟨x,hx,hx1⟩:∃ x,laidS[2]? = some x∧Tryz.prog.globalNamed x.1=some 9:=⟨_,rfl,by kernel_rfl⟩
 obtain ⟨g9,t,cs,fuel,p,h1,h2,h3,h4⟩:=laid_at laidS ps h x (List.mem_of_getElem? hx)
 rw [hx1] at h1
 cases h1
 have hz:10≤W.heap.size:=by
  unfold World.var? at h3
  rw [hx1] at h3
  simp only [Option.bind_some] at h3
  cases hh:W.heap[9]? with
  | none=>rw [hh] at h3; cases h3
  | some o=>exact (Array.getElem?_eq_some_iff.1 hh).1
 exact ⟨⟨g2,g0,g1,g3,g6⟩,g7,⟨g4,g5,g6⟩,hz⟩
end Go.Proofs.YtbkhnilbgocpnaaGreatDoor.SynC
