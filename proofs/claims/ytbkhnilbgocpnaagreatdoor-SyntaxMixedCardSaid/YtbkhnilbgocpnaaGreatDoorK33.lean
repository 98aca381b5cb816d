import Derived.Test.YtbkhnilbgocpnaaGreatDoorK32
set_option linter.unusedVariables false
set_option linter.unusedSimpArgs false
set_option maxRecDepth 100000
set_option maxHeartbeats 2000000
namespace Go.Proofs.YtbkhnilbgocpnaaGreatDoor.SynC
open Go.Proofs.YtbkhnilbgocpnaaGreatDoor.LexC
open Go Go.ChangeShapes Go.WideShapes Go.ChangeAt Go.RowKit Go.Deep
theorem szF:∀ (P:Nat→Prop) (w:World) (cs:List Value) (a:Fn),rdF P w cs a→cs.length=3:=fun _ _ _ _ ⟨_,_,_,_,_,_,h,_⟩=>by rw [h]; rfl
theorem szK:∀ (P:Nat→Prop) (w:World) (cs:List Value) (a:Kr),rdK P w cs a→cs.length=4:=fun _ _ _ _ ⟨_,_,_,_,_,_,_,_,_,h,_⟩=>by rw [h]; rfl
theorem oneF:∀ (P:Nat→Prop) (w:World) (cs:List Value) (a:Fn),rdF P w cs a→∀ u∈cs,u.oneCell'=true:=fun _ _ _ _ ⟨_,_,_,_,_,_,h,_⟩ u hu=>by
 rw [h] at hu; simp at hu; rcases hu with rfl | rfl | rfl <;> rfl
theorem oneK:∀ (P:Nat→Prop) (w:World) (cs:List Value) (a:Kr),rdK P w cs a→∀ u∈cs,u.oneCell'=true:=fun _ _ _ _ ⟨_,_,_,_,_,_,_,_,_,h,_⟩ u hu=>by
 rw [h] at hu; simp at hu; rcases hu with rfl | rfl | rfl | rfl <;> rfl
set_option maxRecDepth 100000 in
set_option maxHeartbeats 4000000 in
theorem mix_region {Q:Exit→Act→World→Prop} {a:Act} {W:World} {b2 b3:Nat} {A:Option Addr} {m c:Nat} {B:Option Addr} {mb cb:Nat} {A2:Option Addr} {m2 c2:Nat} {B2:Option Addr} {mb2 cb2:Nat} {p q:Pg}
  (hn:a.tmps.size=84) (e2:a.eval (.tmp 2)=.pointer (some ⟨b2,0,none⟩)) (e3:a.eval (.tmp 3)=.pointer (some ⟨b3,0,none⟩))
  (l2:W.heap[b2]? = some (.cells #[.slice A m c,.slice B mb cb] 26 (0,0))) (l3:W.heap[b3]? = some (.cells #[.slice A2 m2 c2,.slice B2 mb2 cb2] 26 (0,0)))
  (hp:PgAr W A m c B mb cb p) (hq:PgAr W A2 m2 c2 B2 mb2 cb2 q) (sp:p.fns.length+p.krs.length≤1000) (sq:q.fns.length+q.krs.length≤1000)
  (hQ:∀ d v x (a:Act) w,Q (.panic x) (a.put d v) w→Q (.panic x) a w)
  (h:∀ (v9 v30 v33 v36 v37 v40 v43 v44:Value) (w:World) (g9:Nat) (A':Option Addr) (m' c':Nat) (B':Option Addr) (mb' cb':Nat),v9=.pointer (some ⟨g9,0,none⟩)→W.heap.size≤g9 →
   w.heap[g9]? = some (.cells #[.slice A' m' c',.slice B' mb' cb'] 26 (0,0))→PgAr w A' m' c' B' mb' cb' ⟨p.fns++q.fns,p.krs++q.krs⟩→Below W.heap.size W w →
   Q .normal ((((((((((((((((a.put (some 9) (v9)).put (some 30) (v30)).put (some 31) (.pointer (some ⟨b2,0,none⟩))).put (some 32) (.slice A m c)).put (some 33) (v33)).put (some 34) (.pointer (some ⟨b3,0,none⟩))).put (some 35) (.slice A2 m2 c2)).put (some 36) (v36)).put (some 37) (v37)).put (some 38) (.pointer (some ⟨b2,1,none⟩))).put (some 39) (.slice B mb cb)).put (some 40) (v40)).put (some 41) (.pointer (some ⟨b3,1,none⟩))).put (some 42) (.slice B2 mb2 cb2)).put (some 43) (v43)).put (some 44) (v44)) w):(Code.region 5 u1a true).wp Tryz.prog Q a W:=by
 have b2l:b2<W.heap.size:=(Array.getElem?_eq_some_iff.1 l2).1
 have b3l:b3<W.heap.size:=(Array.getElem?_eq_some_iff.1 l3).1
 obtain ⟨S,hSd⟩:∃ S:World→Prop,S=fun w=>w.heap[b2]? = some (.cells #[.slice A m c,.slice B mb cb] 26 (0,0))∧w.heap[b3]? = some (.cells #[.slice A2 m2 c2,.slice B2 mb2 cb2] 26 (0,0)):=⟨_,rfl⟩
 have hSof:∀ w,Below W.heap.size W.drew w→S w:=fun w hb=>by rw [hSd]; exact ⟨(hb.block b2 b2l).trans l2,(hb.block b3 b3l).trans l3⟩
 have hpf:SlR rdF 3 (fun g=>g<W.heap.size) W.drew (.slice A m c) p.fns:=(hp.below (Below.drew (Below.refl _ _))).f
 have hqf:SlR rdF 3 (fun g=>g<W.heap.size) W.drew (.slice A2 m2 c2) q.fns:=(hq.below (Below.drew (Below.refl _ _))).f
 have hpk:SlR rdK 4 (fun g=>g<W.heap.size) W.drew (.slice B mb cb) p.krs:=(hp.below (Below.drew (Below.refl _ _))).k
 have hqk:SlR rdK 4 (fun g=>g<W.heap.size) W.drew (.slice B2 mb2 cb2) q.krs:=(hq.below (Below.drew (Below.refl _ _))).k
 have st4_1111:∀ (v30:Value) (v33:Value) (v37:Value) (v40:Value) (g1:Nat) (k1:Nat) (g2:Nat) (k2:Nat) (g9:Nat) (w:World),Rg W.heap.size W.drew w (some (g1,k1,((([]:List Fn)++p.fns)++q.fns))) (some (g2,k2,((([]:List Kr)++p.krs)++q.krs))) (some g9)→wpAnyH Tryz.prog .any u1a Q S 1 #[true,true,true,true,true,true,true,true,true,true,true,true,true,true,true,true,false] ((((((((((((((((a.put (some 9) (.pointer (some ⟨g9,0,none⟩))).put (some 30) (v30)).put (some 31) (.pointer (some ⟨b2,0,none⟩))).put (some 32) (.slice A m c)).put (some 33) (v33)).put (some 34) (.pointer (some ⟨b3,0,none⟩))).put (some 35) (.slice A2 m2 c2)).put (some 36) (.slice (some ⟨g1,0,none⟩) ((([]:List Fn)++p.fns)++q.fns).length k1)).put (some 37) (v37)).put (some 38) (.pointer (some ⟨b2,1,none⟩))).put (some 39) (.slice B mb cb)).put (some 40) (v40)).put (some 41) (.pointer (some ⟨b3,1,none⟩))).put (some 42) (.slice B2 mb2 cb2)).put (some 43) (.slice (some ⟨g2,0,none⟩) ((([]:List Kr)++p.krs)++q.krs).length k2)).put (some 44) (.agg #[.slice (some ⟨g1,0,none⟩) ((([]:List Fn)++p.fns)++q.fns).length k1,.slice (some ⟨g2,0,none⟩) ((([]:List Kr)++p.krs)++q.krs).length k2])) w:=by
  intro v30 v33 v37 v40 g1 k1 g2 k2 g9 w hR
  generalize hA:((((((((((((((((a.put (some 9) (.pointer (some ⟨g9,0,none⟩))).put (some 30) (v30)).put (some 31) (.pointer (some ⟨b2,0,none⟩))).put (some 32) (.slice A m c)).put (some 33) (v33)).put (some 34) (.pointer (some ⟨b3,0,none⟩))).put (some 35) (.slice A2 m2 c2)).put (some 36) (.slice (some ⟨g1,0,none⟩) ((([]:List Fn)++p.fns)++q.fns).length k1)).put (some 37) (v37)).put (some 38) (.pointer (some ⟨b2,1,none⟩))).put (some 39) (.slice B mb cb)).put (some 40) (v40)).put (some 41) (.pointer (some ⟨b3,1,none⟩))).put (some 42) (.slice B2 mb2 cb2)).put (some 43) (.slice (some ⟨g2,0,none⟩) ((([]:List Kr)++p.krs)++q.krs).length k2)).put (some 44) (.agg #[.slice (some ⟨g1,0,none⟩) ((([]:List Fn)++p.fns)++q.fns).length k1,.slice (some ⟨g2,0,none⟩) ((([]:List Kr)++p.krs)++q.krs).length k2]))=aa
  have x9:aa.eval (.tmp 9)=.pointer (some ⟨g9,0,none⟩):=by rw [← hA]; exact (by rw [u0m _ 44 9 _ (by decide),u0m _ 43 9 _ (by decide),u0m _ 42 9 _ (by decide),u0m _ 41 9 _ (by decide),u0m _ 40 9 _ (by decide),u0m _ 39 9 _ (by decide),u0m _ 38 9 _ (by decide),u0m _ 37 9 _ (by decide),u0m _ 36 9 _ (by decide),u0m _ 35 9 _ (by decide),u0m _ 34 9 _ (by decide),u0m _ 33 9 _ (by decide),u0m _ 32 9 _ (by decide),u0m _ 31 9 _ (by decide),u0m _ 30 9 _ (by decide),u1r _ 9 _ (by rw [hn]; decide)])
  have x44:aa.eval (.tmp 44)=.agg #[.slice (some ⟨g1,0,none⟩) ((([]:List Fn)++p.fns)++q.fns).length k1,.slice (some ⟨g2,0,none⟩) ((([]:List Kr)++p.krs)++q.krs).length k2]:=by rw [← hA]; exact (by rw [u1r _ 44 _ (by rw [u0d,u0d,u0d,u0d,u0d,u0d,u0d,u0d,u0d,u0d,u0d,u0d,u0d,u0d,u0d,hn]; decide)])
  have hl9:=(hR.b _ rfl)
  have hgb:w.grownBy ((w.setCell ⟨g9,0,none⟩ (.slice (some ⟨g1,0,none⟩) ((([]:List Fn)++p.fns)++q.fns).length k1)).setCell ⟨g9,1,none⟩ (.slice (some ⟨g2,0,none⟩) ((([]:List Kr)++p.krs)++q.krs).length k2)) (some g9):=⟨rfl,rfl,rfl,by simp [World.setCell],fun k hk hne=>u7d (by simpa using hne) (u7d (by simpa using hne) rfl)⟩
  have hbel:Below W.heap.size W.drew ((w.setCell ⟨g9,0,none⟩ (.slice (some ⟨g1,0,none⟩) ((([]:List Fn)++p.fns)++q.fns).length k1)).setCell ⟨g9,1,none⟩ (.slice (some ⟨g2,0,none⟩) ((([]:List Kr)++p.krs)++q.krs).length k2)):=(hR.bel.setCell hl9.1 _).setCell hl9.1 _
  refine wpAnyH_ready (rs:=[16]) (by kernel_rfl) (by simp) (AllReadyH.cons (o:=mo16) (by kernel_rfl) (fun K hK=>?_) AllReadyH.nil)
  rw [if_pos (by rfl)]
  refine op_store (o:=mo16) (.tmp 9) (.tmp 44) g9 (some ⟨g1,0,none⟩) ((([]:List Fn)++p.fns)++q.fns).length k1 (some ⟨g2,0,none⟩) ((([]:List Kr)++p.krs)++q.krs).length k2 rfl rfl x9 x44 hl9.2 ?_
  refine hK.out _ _ (hSof _ hbel) (fun _=>wpAnyH_done (by kernel_rfl) ?_ _)
  have of:=(hR.f _ _ _ rfl).kept hgb (by simp [Value.ownBlock]; exact hR.d13 _ _ _ _ rfl rfl)
  have ok:=(hR.k _ _ _ rfl).kept hgb (by simp [Value.ownBlock]; exact hR.d23 _ _ _ _ rfl rfl)
  rw [← hA]
  refine h (.pointer (some ⟨g9,0,none⟩)) (v30) (v33) (.slice (some ⟨g1,0,none⟩) ((([]:List Fn)++p.fns)++q.fns).length k1) (v37) (v40) (.slice (some ⟨g2,0,none⟩) ((([]:List Kr)++p.krs)++q.krs).length k2) (.agg #[.slice (some ⟨g1,0,none⟩) ((([]:List Fn)++p.fns)++q.fns).length k1,.slice (some ⟨g2,0,none⟩) ((([]:List Kr)++p.krs)++q.krs).length k2]) _ g9 (some ⟨g1,0,none⟩) ((([]:List Fn)++p.fns)++q.fns).length k1 (some ⟨g2,0,none⟩) ((([]:List Kr)++p.krs)++q.krs).length k2 rfl hl9.1 (put2 _ _ hl9.2) ⟨?_,?_,?_,?_,?_,?_⟩ ⟨hbel.os,hbel.tape,hbel.output,hbel.size,hbel.block⟩
  ·exact of.slR u2l hbel
  ·exact ok.slR u2x hbel
  ·exact fun x hx=>(List.mem_append.1 hx).elim (hp.gf x) (hq.gf x)
  ·exact fun x hx=>(List.mem_append.1 hx).elim (hp.gk x) (hq.gk x)
  ·show (p.fns++q.fns).length≤_; rw [List.length_append]; omega
  ·show (p.krs++q.krs).length≤_; rw [List.length_append]; omega
 have st4_1101:∀ (v30:Value) (v33:Value) (v37:Value) (v40:Value) (g1:Nat) (k1:Nat) (g2:Nat) (k2:Nat) (w:World),Rg W.heap.size W.drew w (some (g1,k1,((([]:List Fn)++p.fns)++q.fns))) (some (g2,k2,((([]:List Kr)++p.krs)++q.krs))) none→wpAnyH Tryz.prog .any u1a Q S 2 #[true,true,true,true,true,true,true,true,true,true,true,true,true,true,true,false,false] (((((((((((((((a.put (some 30) (v30)).put (some 31) (.pointer (some ⟨b2,0,none⟩))).put (some 32) (.slice A m c)).put (some 33) (v33)).put (some 34) (.pointer (some ⟨b3,0,none⟩))).put (some 35) (.slice A2 m2 c2)).put (some 36) (.slice (some ⟨g1,0,none⟩) ((([]:List Fn)++p.fns)++q.fns).length k1)).put (some 37) (v37)).put (some 38) (.pointer (some ⟨b2,1,none⟩))).put (some 39) (.slice B mb cb)).put (some 40) (v40)).put (some 41) (.pointer (some ⟨b3,1,none⟩))).put (some 42) (.slice B2 mb2 cb2)).put (some 43) (.slice (some ⟨g2,0,none⟩) ((([]:List Kr)++p.krs)++q.krs).length k2)).put (some 44) (.agg #[.slice (some ⟨g1,0,none⟩) ((([]:List Fn)++p.fns)++q.fns).length k1,.slice (some ⟨g2,0,none⟩) ((([]:List Kr)++p.krs)++q.krs).length k2])) w:=by
  intro v30 v33 v37 v40 g1 k1 g2 k2 w hR
  generalize hA:(((((((((((((((a.put (some 30) (v30)).put (some 31) (.pointer (some ⟨b2,0,none⟩))).put (some 32) (.slice A m c)).put (some 33) (v33)).put (some 34) (.pointer (some ⟨b3,0,none⟩))).put (some 35) (.slice A2 m2 c2)).put (some 36) (.slice (some ⟨g1,0,none⟩) ((([]:List Fn)++p.fns)++q.fns).length k1)).put (some 37) (v37)).put (some 38) (.pointer (some ⟨b2,1,none⟩))).put (some 39) (.slice B mb cb)).put (some 40) (v40)).put (some 41) (.pointer (some ⟨b3,1,none⟩))).put (some 42) (.slice B2 mb2 cb2)).put (some 43) (.slice (some ⟨g2,0,none⟩) ((([]:List Kr)++p.krs)++q.krs).length k2)).put (some 44) (.agg #[.slice (some ⟨g1,0,none⟩) ((([]:List Fn)++p.fns)++q.fns).length k1,.slice (some ⟨g2,0,none⟩) ((([]:List Kr)++p.krs)++q.krs).length k2]))=aa
  refine wpAnyH_ready (rs:=[15]) (by kernel_rfl) (by simp) ?_
  refine AllReadyH.cons (o:=mo15) (by kernel_rfl) (fun K hK=>?_) ?_
  ·rw [if_pos (by rfl)]
   refine u5p rfl ?_
   have hR2:=hR.alloc3
   refine hK.out _ _ (hSof _ hR2.bel) (fun _=>?_)
   show wpAnyH Tryz.prog .any u1a Q S 1 #[true,true,true,true,true,true,true,true,true,true,true,true,true,true,true,true,false] (Act.put _ (some 9) _) _
   rw [← hA]
   rw [u0b _ 44 9 _ _ (by decide)]
   rw [u0b _ 43 9 _ _ (by decide)]
   rw [u0b _ 42 9 _ _ (by decide)]
   rw [u0b _ 41 9 _ _ (by decide)]
   rw [u0b _ 40 9 _ _ (by decide)]
   rw [u0b _ 39 9 _ _ (by decide)]
   rw [u0b _ 38 9 _ _ (by decide)]
   rw [u0b _ 37 9 _ _ (by decide)]
   rw [u0b _ 36 9 _ _ (by decide)]
   rw [u0b _ 35 9 _ _ (by decide)]
   rw [u0b _ 34 9 _ _ (by decide)]
   rw [u0b _ 33 9 _ _ (by decide)]
   rw [u0b _ 32 9 _ _ (by decide)]
   rw [u0b _ 31 9 _ _ (by decide)]
   rw [u0b _ 30 9 _ _ (by decide)]
   exact st4_1111 (v30) (v33) (v37) (v40) (g1) (k1) (g2) (k2) (w.heap.size) _ hR2
  exact AllReadyH.nil
 have st4_1100:∀ (v30:Value) (v33:Value) (v37:Value) (v40:Value) (g1:Nat) (k1:Nat) (g2:Nat) (k2:Nat) (w:World),Rg W.heap.size W.drew w (some (g1,k1,((([]:List Fn)++p.fns)++q.fns))) (some (g2,k2,((([]:List Kr)++p.krs)++q.krs))) none→wpAnyH Tryz.prog .any u1a Q S 3 #[true,true,true,true,true,true,true,true,true,true,true,true,true,true,false,false,false] ((((((((((((((a.put (some 30) (v30)).put (some 31) (.pointer (some ⟨b2,0,none⟩))).put (some 32) (.slice A m c)).put (some 33) (v33)).put (some 34) (.pointer (some ⟨b3,0,none⟩))).put (some 35) (.slice A2 m2 c2)).put (some 36) (.slice (some ⟨g1,0,none⟩) ((([]:List Fn)++p.fns)++q.fns).length k1)).put (some 37) (v37)).put (some 38) (.pointer (some ⟨b2,1,none⟩))).put (some 39) (.slice B mb cb)).put (some 40) (v40)).put (some 41) (.pointer (some ⟨b3,1,none⟩))).put (some 42) (.slice B2 mb2 cb2)).put (some 43) (.slice (some ⟨g2,0,none⟩) ((([]:List Kr)++p.krs)++q.krs).length k2)) w:=by
  intro v30 v33 v37 v40 g1 k1 g2 k2 w hR
  generalize hA:((((((((((((((a.put (some 30) (v30)).put (some 31) (.pointer (some ⟨b2,0,none⟩))).put (some 32) (.slice A m c)).put (some 33) (v33)).put (some 34) (.pointer (some ⟨b3,0,none⟩))).put (some 35) (.slice A2 m2 c2)).put (some 36) (.slice (some ⟨g1,0,none⟩) ((([]:List Fn)++p.fns)++q.fns).length k1)).put (some 37) (v37)).put (some 38) (.pointer (some ⟨b2,1,none⟩))).put (some 39) (.slice B mb cb)).put (some 40) (v40)).put (some 41) (.pointer (some ⟨b3,1,none⟩))).put (some 42) (.slice B2 mb2 cb2)).put (some 43) (.slice (some ⟨g2,0,none⟩) ((([]:List Kr)++p.krs)++q.krs).length k2))=aa
  have x36:aa.eval (.tmp 36)=.slice (some ⟨g1,0,none⟩) ((([]:List Fn)++p.fns)++q.fns).length k1:=by rw [← hA]; exact (by rw [u0m _ 43 36 _ (by decide),u0m _ 42 36 _ (by decide),u0m _ 41 36 _ (by decide),u0m _ 40 36 _ (by decide),u0m _ 39 36 _ (by decide),u0m _ 38 36 _ (by decide),u0m _ 37 36 _ (by decide),u1r _ 36 _ (by rw [u0d,u0d,u0d,u0d,u0d,u0d,hn]; decide)])
  have x43:aa.eval (.tmp 43)=.slice (some ⟨g2,0,none⟩) ((([]:List Kr)++p.krs)++q.krs).length k2:=by rw [← hA]; exact (by rw [u1r _ 43 _ (by rw [u0d,u0d,u0d,u0d,u0d,u0d,u0d,u0d,u0d,u0d,u0d,u0d,u0d,hn]; decide)])
  refine wpAnyH_take (i:=14) (oi:=mo14) (v:=.agg #[.slice (some ⟨g1,0,none⟩) ((([]:List Fn)++p.fns)++q.fns).length k1,.slice (some ⟨g2,0,none⟩) ((([]:List Kr)++p.krs)++q.krs).length k2]) (by kernel_rfl) (by kernel_rfl) (by kernel_rfl) (by kernel_rfl) (hQ _ _) (Or.inl ⟨by rfl,fun w' _=>run_build (.tmp 36) (.tmp 43) _ _ _ _ _ _ rfl x36 x43⟩) (hSof _ hR.bel) ?_
  show wpAnyH Tryz.prog .any u1a Q S 2 #[true,true,true,true,true,true,true,true,true,true,true,true,true,true,true,false,false] (Act.put _ (some 44) _) _
  rw [← hA]
  exact st4_1101 v30 v33 v37 v40 g1 k1 g2 k2 _ hR
 have st4_1110:∀ (v30:Value) (v33:Value) (v37:Value) (v40:Value) (g1:Nat) (k1:Nat) (g2:Nat) (k2:Nat) (g9:Nat) (w:World),Rg W.heap.size W.drew w (some (g1,k1,((([]:List Fn)++p.fns)++q.fns))) (some (g2,k2,((([]:List Kr)++p.krs)++q.krs))) (some g9)→wpAnyH Tryz.prog .any u1a Q S 2 #[true,true,true,true,true,true,true,true,true,true,true,true,true,true,false,true,false] (((((((((((((((a.put (some 9) (.pointer (some ⟨g9,0,none⟩))).put (some 30) (v30)).put (some 31) (.pointer (some ⟨b2,0,none⟩))).put (some 32) (.slice A m c)).put (some 33) (v33)).put (some 34) (.pointer (some ⟨b3,0,none⟩))).put (some 35) (.slice A2 m2 c2)).put (some 36) (.slice (some ⟨g1,0,none⟩) ((([]:List Fn)++p.fns)++q.fns).length k1)).put (some 37) (v37)).put (some 38) (.pointer (some ⟨b2,1,none⟩))).put (some 39) (.slice B mb cb)).put (some 40) (v40)).put (some 41) (.pointer (some ⟨b3,1,none⟩))).put (some 42) (.slice B2 mb2 cb2)).put (some 43) (.slice (some ⟨g2,0,none⟩) ((([]:List Kr)++p.krs)++q.krs).length k2)) w:=by
  intro v30 v33 v37 v40 g1 k1 g2 k2 g9 w hR
  generalize hA:(((((((((((((((a.put (some 9) (.pointer (some ⟨g9,0,none⟩))).put (some 30) (v30)).put (some 31) (.pointer (some ⟨b2,0,none⟩))).put (some 32) (.slice A m c)).put (some 33) (v33)).put (some 34) (.pointer (some ⟨b3,0,none⟩))).put (some 35) (.slice A2 m2 c2)).put (some 36) (.slice (some ⟨g1,0,none⟩) ((([]:List Fn)++p.fns)++q.fns).length k1)).put (some 37) (v37)).put (some 38) (.pointer (some ⟨b2,1,none⟩))).put (some 39) (.slice B mb cb)).put (some 40) (v40)).put (some 41) (.pointer (some ⟨b3,1,none⟩))).put (some 42) (.slice B2 mb2 cb2)).put (some 43) (.slice (some ⟨g2,0,none⟩) ((([]:List Kr)++p.krs)++q.krs).length k2))=aa
  have x36:aa.eval (.tmp 36)=.slice (some ⟨g1,0,none⟩) ((([]:List Fn)++p.fns)++q.fns).length k1:=by rw [← hA]; exact (by rw [u0m _ 43 36 _ (by decide),u0m _ 42 36 _ (by decide),u0m _ 41 36 _ (by decide),u0m _ 40 36 _ (by decide),u0m _ 39 36 _ (by decide),u0m _ 38 36 _ (by decide),u0m _ 37 36 _ (by decide),u1r _ 36 _ (by rw [u0d,u0d,u0d,u0d,u0d,u0d,u0d,hn]; decide)])
  have x43:aa.eval (.tmp 43)=.slice (some ⟨g2,0,none⟩) ((([]:List Kr)++p.krs)++q.krs).length k2:=by rw [← hA]; exact (by rw [u1r _ 43 _ (by rw [u0d,u0d,u0d,u0d,u0d,u0d,u0d,u0d,u0d,u0d,u0d,u0d,u0d,u0d,hn]; decide)])
  refine wpAnyH_take (i:=14) (oi:=mo14) (v:=.agg #[.slice (some ⟨g1,0,none⟩) ((([]:List Fn)++p.fns)++q.fns).length k1,.slice (some ⟨g2,0,none⟩) ((([]:List Kr)++p.krs)++q.krs).length k2]) (by kernel_rfl) (by kernel_rfl) (by kernel_rfl) (by kernel_rfl) (hQ _ _) (Or.inl ⟨by rfl,fun w' _=>run_build (.tmp 36) (.tmp 43) _ _ _ _ _ _ rfl x36 x43⟩) (hSof _ hR.bel) ?_
  show wpAnyH Tryz.prog .any u1a Q S 1 #[true,true,true,true,true,true,true,true,true,true,true,true,true,true,true,true,false] (Act.put _ (some 44) _) _
  rw [← hA]
  exact st4_1111 v30 v33 v37 v40 g1 k1 g2 k2 g9 _ hR
 have st3_1110:∀ (v30:Value) (v33:Value) (v37:Value) (g1:Nat) (k1:Nat) (g2:Nat) (k2:Nat) (g9:Nat) (w:World),Rg W.heap.size W.drew w (some (g1,k1,((([]:List Fn)++p.fns)++q.fns))) (some (g2,k2,(([]:List Kr)++p.krs))) (some g9)→wpAnyH Tryz.prog .any u1a Q S 3 #[true,true,true,true,true,true,true,true,true,true,true,true,true,false,false,true,false] ((((((((((((((a.put (some 9) (.pointer (some ⟨g9,0,none⟩))).put (some 30) (v30)).put (some 31) (.pointer (some ⟨b2,0,none⟩))).put (some 32) (.slice A m c)).put (some 33) (v33)).put (some 34) (.pointer (some ⟨b3,0,none⟩))).put (some 35) (.slice A2 m2 c2)).put (some 36) (.slice (some ⟨g1,0,none⟩) ((([]:List Fn)++p.fns)++q.fns).length k1)).put (some 37) (v37)).put (some 38) (.pointer (some ⟨b2,1,none⟩))).put (some 39) (.slice B mb cb)).put (some 40) (.slice (some ⟨g2,0,none⟩) (([]:List Kr)++p.krs).length k2)).put (some 41) (.pointer (some ⟨b3,1,none⟩))).put (some 42) (.slice B2 mb2 cb2)) w:=by
  intro v30 v33 v37 g1 k1 g2 k2 g9 w hR
  generalize hA:((((((((((((((a.put (some 9) (.pointer (some ⟨g9,0,none⟩))).put (some 30) (v30)).put (some 31) (.pointer (some ⟨b2,0,none⟩))).put (some 32) (.slice A m c)).put (some 33) (v33)).put (some 34) (.pointer (some ⟨b3,0,none⟩))).put (some 35) (.slice A2 m2 c2)).put (some 36) (.slice (some ⟨g1,0,none⟩) ((([]:List Fn)++p.fns)++q.fns).length k1)).put (some 37) (v37)).put (some 38) (.pointer (some ⟨b2,1,none⟩))).put (some 39) (.slice B mb cb)).put (some 40) (.slice (some ⟨g2,0,none⟩) (([]:List Kr)++p.krs).length k2)).put (some 41) (.pointer (some ⟨b3,1,none⟩))).put (some 42) (.slice B2 mb2 cb2))=aa
  have x40:aa.eval (.tmp 40)=.slice (some ⟨g2,0,none⟩) (([]:List Kr)++p.krs).length k2:=by rw [← hA]; exact (by rw [u0m _ 42 40 _ (by decide),u0m _ 41 40 _ (by decide),u1r _ 40 _ (by rw [u0d,u0d,u0d,u0d,u0d,u0d,u0d,u0d,u0d,u0d,u0d,hn]; decide)])
  have x42:aa.eval (.tmp 42)=.slice B2 mb2 cb2:=by rw [← hA]; exact (by rw [u1r _ 42 _ (by rw [u0d,u0d,u0d,u0d,u0d,u0d,u0d,u0d,u0d,u0d,u0d,u0d,u0d,hn]; decide)])
  refine wpAnyH_ready (rs:=[13]) (by kernel_rfl) (by simp) ?_
  refine AllReadyH.cons (o:=mo13) (by kernel_rfl) (fun K hK=>?_) ?_
  ·rw [if_pos (by rfl)]
   refine u1y u2x szK oneK (.tmp 40) (.tmp 42) 24 rfl _ 88 info75 Tryz.underlying24 rfl (by decide) (by decide) W.heap.size W.drew rfl (([]:List Kr)++p.krs) q.krs g2 k2 x40 (hR.k _ _ _ rfl) B2 mb2 cb2 x42 hqk hR.bel (by simp only [List.length_append,List.length_nil]; omega) (by omega) ?_
   intro g' cap w' ho hg hw hlt hb
   have hR2:=hR.grow2 ho hg hw hb
   refine hK.out _ _ (hSof _ hR2.bel) (fun _=>?_)
   show wpAnyH Tryz.prog .any u1a Q S 2 #[true,true,true,true,true,true,true,true,true,true,true,true,true,true,false,true,false] (Act.put _ (some 43) _) _
   rw [← hA]
   exact st4_1110 (v30) (v33) (v37) (.slice (some ⟨g2,0,none⟩) (([]:List Kr)++p.krs).length k2) (g1) (k1) (g') (cap) (g9) _ hR2
  exact AllReadyH.nil
 have st3_1100:∀ (v30:Value) (v33:Value) (v37:Value) (g1:Nat) (k1:Nat) (g2:Nat) (k2:Nat) (w:World),Rg W.heap.size W.drew w (some (g1,k1,((([]:List Fn)++p.fns)++q.fns))) (some (g2,k2,(([]:List Kr)++p.krs))) none→wpAnyH Tryz.prog .any u1a Q S 4 #[true,true,true,true,true,true,true,true,true,true,true,true,true,false,false,false,false] (((((((((((((a.put (some 30) (v30)).put (some 31) (.pointer (some ⟨b2,0,none⟩))).put (some 32) (.slice A m c)).put (some 33) (v33)).put (some 34) (.pointer (some ⟨b3,0,none⟩))).put (some 35) (.slice A2 m2 c2)).put (some 36) (.slice (some ⟨g1,0,none⟩) ((([]:List Fn)++p.fns)++q.fns).length k1)).put (some 37) (v37)).put (some 38) (.pointer (some ⟨b2,1,none⟩))).put (some 39) (.slice B mb cb)).put (some 40) (.slice (some ⟨g2,0,none⟩) (([]:List Kr)++p.krs).length k2)).put (some 41) (.pointer (some ⟨b3,1,none⟩))).put (some 42) (.slice B2 mb2 cb2)) w:=by
  intro v30 v33 v37 g1 k1 g2 k2 w hR
  generalize hA:(((((((((((((a.put (some 30) (v30)).put (some 31) (.pointer (some ⟨b2,0,none⟩))).put (some 32) (.slice A m c)).put (some 33) (v33)).put (some 34) (.pointer (some ⟨b3,0,none⟩))).put (some 35) (.slice A2 m2 c2)).put (some 36) (.slice (some ⟨g1,0,none⟩) ((([]:List Fn)++p.fns)++q.fns).length k1)).put (some 37) (v37)).put (some 38) (.pointer (some ⟨b2,1,none⟩))).put (some 39) (.slice B mb cb)).put (some 40) (.slice (some ⟨g2,0,none⟩) (([]:List Kr)++p.krs).length k2)).put (some 41) (.pointer (some ⟨b3,1,none⟩))).put (some 42) (.slice B2 mb2 cb2))=aa
  have x40:aa.eval (.tmp 40)=.slice (some ⟨g2,0,none⟩) (([]:List Kr)++p.krs).length k2:=by rw [← hA]; exact (by rw [u0m _ 42 40 _ (by decide),u0m _ 41 40 _ (by decide),u1r _ 40 _ (by rw [u0d,u0d,u0d,u0d,u0d,u0d,u0d,u0d,u0d,u0d,hn]; decide)])
  have x42:aa.eval (.tmp 42)=.slice B2 mb2 cb2:=by rw [← hA]; exact (by rw [u1r _ 42 _ (by rw [u0d,u0d,u0d,u0d,u0d,u0d,u0d,u0d,u0d,u0d,u0d,u0d,hn]; decide)])
  refine wpAnyH_ready (rs:=[13,15]) (by kernel_rfl) (by simp) ?_
  refine AllReadyH.cons (o:=mo13) (by kernel_rfl) (fun K hK=>?_) ?_
  ·rw [if_pos (by rfl)]
   refine u1y u2x szK oneK (.tmp 40) (.tmp 42) 24 rfl _ 88 info75 Tryz.underlying24 rfl (by decide) (by decide) W.heap.size W.drew rfl (([]:List Kr)++p.krs) q.krs g2 k2 x40 (hR.k _ _ _ rfl) B2 mb2 cb2 x42 hqk hR.bel (by simp only [List.length_append,List.length_nil]; omega) (by omega) ?_
   intro g' cap w' ho hg hw hlt hb
   have hR2:=hR.grow2 ho hg hw hb
   refine hK.out _ _ (hSof _ hR2.bel) (fun _=>?_)
   show wpAnyH Tryz.prog .any u1a Q S 3 #[true,true,true,true,true,true,true,true,true,true,true,true,true,true,false,false,false] (Act.put _ (some 43) _) _
   rw [← hA]
   exact st4_1100 (v30) (v33) (v37) (.slice (some ⟨g2,0,none⟩) (([]:List Kr)++p.krs).length k2) (g1) (k1) (g') (cap) _ hR2
  refine AllReadyH.cons (o:=mo15) (by kernel_rfl) (fun K hK=>?_) ?_
  ·rw [if_pos (by rfl)]
   refine u5p rfl ?_
   have hR2:=hR.alloc3
   refine hK.out _ _ (hSof _ hR2.bel) (fun _=>?_)
   show wpAnyH Tryz.prog .any u1a Q S 3 #[true,true,true,true,true,true,true,true,true,true,true,true,true,false,false,true,false] (Act.put _ (some 9) _) _
   rw [← hA]
   rw [u0b _ 42 9 _ _ (by decide)]
   rw [u0b _ 41 9 _ _ (by decide)]
   rw [u0b _ 40 9 _ _ (by decide)]
   rw [u0b _ 39 9 _ _ (by decide)]
   rw [u0b _ 38 9 _ _ (by decide)]
   rw [u0b _ 37 9 _ _ (by decide)]
   rw [u0b _ 36 9 _ _ (by decide)]
   rw [u0b _ 35 9 _ _ (by decide)]
   rw [u0b _ 34 9 _ _ (by decide)]
   rw [u0b _ 33 9 _ _ (by decide)]
   rw [u0b _ 32 9 _ _ (by decide)]
   rw [u0b _ 31 9 _ _ (by decide)]
   rw [u0b _ 30 9 _ _ (by decide)]
   exact st3_1110 (v30) (v33) (v37) (g1) (k1) (g2) (k2) (w.heap.size) _ hR2
  exact AllReadyH.nil
 have st2_1110:∀ (v30:Value) (v33:Value) (g1:Nat) (k1:Nat) (g2:Nat) (k2:Nat) (g9:Nat) (w:World),Rg W.heap.size W.drew w (some (g1,k1,((([]:List Fn)++p.fns)++q.fns))) (some (g2,k2,([]:List Kr))) (some g9)→wpAnyH Tryz.prog .any u1a Q S 4 #[true,true,true,true,true,true,true,true,true,true,false,true,true,false,false,true,false] (((((((((((((a.put (some 9) (.pointer (some ⟨g9,0,none⟩))).put (some 30) (v30)).put (some 31) (.pointer (some ⟨b2,0,none⟩))).put (some 32) (.slice A m c)).put (some 33) (v33)).put (some 34) (.pointer (some ⟨b3,0,none⟩))).put (some 35) (.slice A2 m2 c2)).put (some 36) (.slice (some ⟨g1,0,none⟩) ((([]:List Fn)++p.fns)++q.fns).length k1)).put (some 37) (.slice (some ⟨g2,0,none⟩) ([]:List Kr).length k2)).put (some 38) (.pointer (some ⟨b2,1,none⟩))).put (some 39) (.slice B mb cb)).put (some 41) (.pointer (some ⟨b3,1,none⟩))).put (some 42) (.slice B2 mb2 cb2)) w:=by
  intro v30 v33 g1 k1 g2 k2 g9 w hR
  generalize hA:(((((((((((((a.put (some 9) (.pointer (some ⟨g9,0,none⟩))).put (some 30) (v30)).put (some 31) (.pointer (some ⟨b2,0,none⟩))).put (some 32) (.slice A m c)).put (some 33) (v33)).put (some 34) (.pointer (some ⟨b3,0,none⟩))).put (some 35) (.slice A2 m2 c2)).put (some 36) (.slice (some ⟨g1,0,none⟩) ((([]:List Fn)++p.fns)++q.fns).length k1)).put (some 37) (.slice (some ⟨g2,0,none⟩) ([]:List Kr).length k2)).put (some 38) (.pointer (some ⟨b2,1,none⟩))).put (some 39) (.slice B mb cb)).put (some 41) (.pointer (some ⟨b3,1,none⟩))).put (some 42) (.slice B2 mb2 cb2))=aa
  have x37:aa.eval (.tmp 37)=.slice (some ⟨g2,0,none⟩) ([]:List Kr).length k2:=by rw [← hA]; exact (by rw [u0m _ 42 37 _ (by decide),u0m _ 41 37 _ (by decide),u0m _ 39 37 _ (by decide),u0m _ 38 37 _ (by decide),u1r _ 37 _ (by rw [u0d,u0d,u0d,u0d,u0d,u0d,u0d,u0d,hn]; decide)])
  have x39:aa.eval (.tmp 39)=.slice B mb cb:=by rw [← hA]; exact (by rw [u0m _ 42 39 _ (by decide),u0m _ 41 39 _ (by decide),u1r _ 39 _ (by rw [u0d,u0d,u0d,u0d,u0d,u0d,u0d,u0d,u0d,u0d,hn]; decide)])
  refine wpAnyH_ready (rs:=[10]) (by kernel_rfl) (by simp) ?_
  refine AllReadyH.cons (o:=mo10) (by kernel_rfl) (fun K hK=>?_) ?_
  ·rw [if_pos (by rfl)]
   refine u1y u2x szK oneK (.tmp 37) (.tmp 39) 24 rfl _ 88 info75 Tryz.underlying24 rfl (by decide) (by decide) W.heap.size W.drew rfl ([]:List Kr) p.krs g2 k2 x37 (hR.k _ _ _ rfl) B mb cb x39 hpk hR.bel (by simp only [List.length_append,List.length_nil]; omega) (by omega) ?_
   intro g' cap w' ho hg hw hlt hb
   have hR2:=hR.grow2 ho hg hw hb
   refine hK.out _ _ (hSof _ hR2.bel) (fun _=>?_)
   show wpAnyH Tryz.prog .any u1a Q S 3 #[true,true,true,true,true,true,true,true,true,true,true,true,true,false,false,true,false] (Act.put _ (some 40) _) _
   rw [← hA]
   rw [u0b _ 42 40 _ _ (by decide)]
   rw [u0b _ 41 40 _ _ (by decide)]
   exact st3_1110 (v30) (v33) (.slice (some ⟨g2,0,none⟩) ([]:List Kr).length k2) (g1) (k1) (g') (cap) (g9) _ hR2
  exact AllReadyH.nil
 have st2_1100:∀ (v30:Value) (v33:Value) (g1:Nat) (k1:Nat) (g2:Nat) (k2:Nat) (w:World),Rg W.heap.size W.drew w (some (g1,k1,((([]:List Fn)++p.fns)++q.fns))) (some (g2,k2,([]:List Kr))) none→wpAnyH Tryz.prog .any u1a Q S 5 #[true,true,true,true,true,true,true,true,true,true,false,true,true,false,false,false,false] ((((((((((((a.put (some 30) (v30)).put (some 31) (.pointer (some ⟨b2,0,none⟩))).put (some 32) (.slice A m c)).put (some 33) (v33)).put (some 34) (.pointer (some ⟨b3,0,none⟩))).put (some 35) (.slice A2 m2 c2)).put (some 36) (.slice (some ⟨g1,0,none⟩) ((([]:List Fn)++p.fns)++q.fns).length k1)).put (some 37) (.slice (some ⟨g2,0,none⟩) ([]:List Kr).length k2)).put (some 38) (.pointer (some ⟨b2,1,none⟩))).put (some 39) (.slice B mb cb)).put (some 41) (.pointer (some ⟨b3,1,none⟩))).put (some 42) (.slice B2 mb2 cb2)) w:=by
  intro v30 v33 g1 k1 g2 k2 w hR
  generalize hA:((((((((((((a.put (some 30) (v30)).put (some 31) (.pointer (some ⟨b2,0,none⟩))).put (some 32) (.slice A m c)).put (some 33) (v33)).put (some 34) (.pointer (some ⟨b3,0,none⟩))).put (some 35) (.slice A2 m2 c2)).put (some 36) (.slice (some ⟨g1,0,none⟩) ((([]:List Fn)++p.fns)++q.fns).length k1)).put (some 37) (.slice (some ⟨g2,0,none⟩) ([]:List Kr).length k2)).put (some 38) (.pointer (some ⟨b2,1,none⟩))).put (some 39) (.slice B mb cb)).put (some 41) (.pointer (some ⟨b3,1,none⟩))).put (some 42) (.slice B2 mb2 cb2))=aa
  have x37:aa.eval (.tmp 37)=.slice (some ⟨g2,0,none⟩) ([]:List Kr).length k2:=by rw [← hA]; exact (by rw [u0m _ 42 37 _ (by decide),u0m _ 41 37 _ (by decide),u0m _ 39 37 _ (by decide),u0m _ 38 37 _ (by decide),u1r _ 37 _ (by rw [u0d,u0d,u0d,u0d,u0d,u0d,u0d,hn]; decide)])
  have x39:aa.eval (.tmp 39)=.slice B mb cb:=by rw [← hA]; exact (by rw [u0m _ 42 39 _ (by decide),u0m _ 41 39 _ (by decide),u1r _ 39 _ (by rw [u0d,u0d,u0d,u0d,u0d,u0d,u0d,u0d,u0d,hn]; decide)])
  refine wpAnyH_ready (rs:=[10,15]) (by kernel_rfl) (by simp) ?_
  refine AllReadyH.cons (o:=mo10) (by kernel_rfl) (fun K hK=>?_) ?_
  ·rw [if_pos (by rfl)]
   refine u1y u2x szK oneK (.tmp 37) (.tmp 39) 24 rfl _ 88 info75 Tryz.underlying24 rfl (by decide) (by decide) W.heap.size W.drew rfl ([]:List Kr) p.krs g2 k2 x37 (hR.k _ _ _ rfl) B mb cb x39 hpk hR.bel (by simp only [List.length_append,List.length_nil]; omega) (by omega) ?_
   intro g' cap w' ho hg hw hlt hb
   have hR2:=hR.grow2 ho hg hw hb
   refine hK.out _ _ (hSof _ hR2.bel) (fun _=>?_)
   show wpAnyH Tryz.prog .any u1a Q S 4 #[true,true,true,true,true,true,true,true,true,true,true,true,true,false,false,false,false] (Act.put _ (some 40) _) _
   rw [← hA]
   rw [u0b _ 42 40 _ _ (by decide)]
   rw [u0b _ 41 40 _ _ (by decide)]
   exact st3_1100 (v30) (v33) (.slice (some ⟨g2,0,none⟩) ([]:List Kr).length k2) (g1) (k1) (g') (cap) _ hR2
  refine AllReadyH.cons (o:=mo15) (by kernel_rfl) (fun K hK=>?_) ?_
  ·rw [if_pos (by rfl)]
   refine u5p rfl ?_
   have hR2:=hR.alloc3
   refine hK.out _ _ (hSof _ hR2.bel) (fun _=>?_)
   show wpAnyH Tryz.prog .any u1a Q S 4 #[true,true,true,true,true,true,true,true,true,true,false,true,true,false,false,true,false] (Act.put _ (some 9) _) _
   rw [← hA]
   rw [u0b _ 42 9 _ _ (by decide)]
   rw [u0b _ 41 9 _ _ (by decide)]
   rw [u0b _ 39 9 _ _ (by decide)]
   rw [u0b _ 38 9 _ _ (by decide)]
   rw [u0b _ 37 9 _ _ (by decide)]
   rw [u0b _ 36 9 _ _ (by decide)]
   rw [u0b _ 35 9 _ _ (by decide)]
   rw [u0b _ 34 9 _ _ (by decide)]
   rw [u0b _ 33 9 _ _ (by decide)]
   rw [u0b _ 32 9 _ _ (by decide)]
   rw [u0b _ 31 9 _ _ (by decide)]
   rw [u0b _ 30 9 _ _ (by decide)]
   exact st2_1110 (v30) (v33) (g1) (k1) (g2) (k2) (w.heap.size) _ hR2
  exact AllReadyH.nil
 have st2_1010:∀ (v30:Value) (v33:Value) (g1:Nat) (k1:Nat) (g9:Nat) (w:World),Rg W.heap.size W.drew w (some (g1,k1,((([]:List Fn)++p.fns)++q.fns))) none (some g9)→wpAnyH Tryz.prog .any u1a Q S 5 #[true,true,true,true,true,true,true,false,true,true,false,true,true,false,false,true,false] ((((((((((((a.put (some 9) (.pointer (some ⟨g9,0,none⟩))).put (some 30) (v30)).put (some 31) (.pointer (some ⟨b2,0,none⟩))).put (some 32) (.slice A m c)).put (some 33) (v33)).put (some 34) (.pointer (some ⟨b3,0,none⟩))).put (some 35) (.slice A2 m2 c2)).put (some 36) (.slice (some ⟨g1,0,none⟩) ((([]:List Fn)++p.fns)++q.fns).length k1)).put (some 38) (.pointer (some ⟨b2,1,none⟩))).put (some 39) (.slice B mb cb)).put (some 41) (.pointer (some ⟨b3,1,none⟩))).put (some 42) (.slice B2 mb2 cb2)) w:=by
  intro v30 v33 g1 k1 g9 w hR
  generalize hA:((((((((((((a.put (some 9) (.pointer (some ⟨g9,0,none⟩))).put (some 30) (v30)).put (some 31) (.pointer (some ⟨b2,0,none⟩))).put (some 32) (.slice A m c)).put (some 33) (v33)).put (some 34) (.pointer (some ⟨b3,0,none⟩))).put (some 35) (.slice A2 m2 c2)).put (some 36) (.slice (some ⟨g1,0,none⟩) ((([]:List Fn)++p.fns)++q.fns).length k1)).put (some 38) (.pointer (some ⟨b2,1,none⟩))).put (some 39) (.slice B mb cb)).put (some 41) (.pointer (some ⟨b3,1,none⟩))).put (some 42) (.slice B2 mb2 cb2))=aa
  refine wpAnyH_ready (rs:=[7]) (by kernel_rfl) (by simp) ?_
  refine AllReadyH.cons (o:=mo7) (by kernel_rfl) (fun K hK=>?_) ?_
  ·rw [if_pos (by rfl)]
   refine u4o 24 75 rfl (by decide) ?_
   have hR2:=hR.alloc2
   refine hK.out _ _ (hSof _ hR2.bel) (fun _=>?_)
   show wpAnyH Tryz.prog .any u1a Q S 4 #[true,true,true,true,true,true,true,true,true,true,false,true,true,false,false,true,false] (Act.put _ (some 37) _) _
   rw [← hA]
   rw [u0b _ 42 37 _ _ (by decide)]
   rw [u0b _ 41 37 _ _ (by decide)]
   rw [u0b _ 39 37 _ _ (by decide)]
   rw [u0b _ 38 37 _ _ (by decide)]
   exact st2_1110 (v30) (v33) (g1) (k1) (w.heap.size) (0) (g9) _ hR2
  exact AllReadyH.nil
 have st2_1000:∀ (v30:Value) (v33:Value) (g1:Nat) (k1:Nat) (w:World),Rg W.heap.size W.drew w (some (g1,k1,((([]:List Fn)++p.fns)++q.fns))) none none→wpAnyH Tryz.prog .any u1a Q S 6 #[true,true,true,true,true,true,true,false,true,true,false,true,true,false,false,false,false] (((((((((((a.put (some 30) (v30)).put (some 31) (.pointer (some ⟨b2,0,none⟩))).put (some 32) (.slice A m c)).put (some 33) (v33)).put (some 34) (.pointer (some ⟨b3,0,none⟩))).put (some 35) (.slice A2 m2 c2)).put (some 36) (.slice (some ⟨g1,0,none⟩) ((([]:List Fn)++p.fns)++q.fns).length k1)).put (some 38) (.pointer (some ⟨b2,1,none⟩))).put (some 39) (.slice B mb cb)).put (some 41) (.pointer (some ⟨b3,1,none⟩))).put (some 42) (.slice B2 mb2 cb2)) w:=by
  intro v30 v33 g1 k1 w hR
  generalize hA:(((((((((((a.put (some 30) (v30)).put (some 31) (.pointer (some ⟨b2,0,none⟩))).put (some 32) (.slice A m c)).put (some 33) (v33)).put (some 34) (.pointer (some ⟨b3,0,none⟩))).put (some 35) (.slice A2 m2 c2)).put (some 36) (.slice (some ⟨g1,0,none⟩) ((([]:List Fn)++p.fns)++q.fns).length k1)).put (some 38) (.pointer (some ⟨b2,1,none⟩))).put (some 39) (.slice B mb cb)).put (some 41) (.pointer (some ⟨b3,1,none⟩))).put (some 42) (.slice B2 mb2 cb2))=aa
  refine wpAnyH_ready (rs:=[7,15]) (by kernel_rfl) (by simp) ?_
  refine AllReadyH.cons (o:=mo7) (by kernel_rfl) (fun K hK=>?_) ?_
  ·rw [if_pos (by rfl)]
   refine u4o 24 75 rfl (by decide) ?_
   have hR2:=hR.alloc2
   refine hK.out _ _ (hSof _ hR2.bel) (fun _=>?_)
   show wpAnyH Tryz.prog .any u1a Q S 5 #[true,true,true,true,true,true,true,true,true,true,false,true,true,false,false,false,false] (Act.put _ (some 37) _) _
   rw [← hA]
   rw [u0b _ 42 37 _ _ (by decide)]
   rw [u0b _ 41 37 _ _ (by decide)]
   rw [u0b _ 39 37 _ _ (by decide)]
   rw [u0b _ 38 37 _ _ (by decide)]
   exact st2_1100 (v30) (v33) (g1) (k1) (w.heap.size) (0) _ hR2
  refine AllReadyH.cons (o:=mo15) (by kernel_rfl) (fun K hK=>?_) ?_
  ·rw [if_pos (by rfl)]
   refine u5p rfl ?_
   have hR2:=hR.alloc3
   refine hK.out _ _ (hSof _ hR2.bel) (fun _=>?_)
   show wpAnyH Tryz.prog .any u1a Q S 5 #[true,true,true,true,true,true,true,false,true,true,false,true,true,false,false,true,false] (Act.put _ (some 9) _) _
   rw [← hA]
   rw [u0b _ 42 9 _ _ (by decide)]
   rw [u0b _ 41 9 _ _ (by decide)]
   rw [u0b _ 39 9 _ _ (by decide)]
   rw [u0b _ 38 9 _ _ (by decide)]
   rw [u0b _ 36 9 _ _ (by decide)]
   rw [u0b _ 35 9 _ _ (by decide)]
   rw [u0b _ 34 9 _ _ (by decide)]
   rw [u0b _ 33 9 _ _ (by decide)]
   rw [u0b _ 32 9 _ _ (by decide)]
   rw [u0b _ 31 9 _ _ (by decide)]
   rw [u0b _ 30 9 _ _ (by decide)]
   exact st2_1010 (v30) (v33) (g1) (k1) (w.heap.size) _ hR2
  exact AllReadyH.nil
 have st1_1110:∀ (v30:Value) (g1:Nat) (k1:Nat) (g2:Nat) (k2:Nat) (g9:Nat) (w:World),Rg W.heap.size W.drew w (some (g1,k1,(([]:List Fn)++p.fns))) (some (g2,k2,([]:List Kr))) (some g9)→wpAnyH Tryz.prog .any u1a Q S 5 #[true,true,true,true,true,true,false,true,true,true,false,true,true,false,false,true,false] ((((((((((((a.put (some 9) (.pointer (some ⟨g9,0,none⟩))).put (some 30) (v30)).put (some 31) (.pointer (some ⟨b2,0,none⟩))).put (some 32) (.slice A m c)).put (some 33) (.slice (some ⟨g1,0,none⟩) (([]:List Fn)++p.fns).length k1)).put (some 34) (.pointer (some ⟨b3,0,none⟩))).put (some 35) (.slice A2 m2 c2)).put (some 37) (.slice (some ⟨g2,0,none⟩) ([]:List Kr).length k2)).put (some 38) (.pointer (some ⟨b2,1,none⟩))).put (some 39) (.slice B mb cb)).put (some 41) (.pointer (some ⟨b3,1,none⟩))).put (some 42) (.slice B2 mb2 cb2)) w:=by
  intro v30 g1 k1 g2 k2 g9 w hR
  generalize hA:((((((((((((a.put (some 9) (.pointer (some ⟨g9,0,none⟩))).put (some 30) (v30)).put (some 31) (.pointer (some ⟨b2,0,none⟩))).put (some 32) (.slice A m c)).put (some 33) (.slice (some ⟨g1,0,none⟩) (([]:List Fn)++p.fns).length k1)).put (some 34) (.pointer (some ⟨b3,0,none⟩))).put (some 35) (.slice A2 m2 c2)).put (some 37) (.slice (some ⟨g2,0,none⟩) ([]:List Kr).length k2)).put (some 38) (.pointer (some ⟨b2,1,none⟩))).put (some 39) (.slice B mb cb)).put (some 41) (.pointer (some ⟨b3,1,none⟩))).put (some 42) (.slice B2 mb2 cb2))=aa
  have x33:aa.eval (.tmp 33)=.slice (some ⟨g1,0,none⟩) (([]:List Fn)++p.fns).length k1:=by rw [← hA]; exact (by rw [u0m _ 42 33 _ (by decide),u0m _ 41 33 _ (by decide),u0m _ 39 33 _ (by decide),u0m _ 38 33 _ (by decide),u0m _ 37 33 _ (by decide),u0m _ 35 33 _ (by decide),u0m _ 34 33 _ (by decide),u1r _ 33 _ (by rw [u0d,u0d,u0d,u0d,hn]; decide)])
  have x35:aa.eval (.tmp 35)=.slice A2 m2 c2:=by rw [← hA]; exact (by rw [u0m _ 42 35 _ (by decide),u0m _ 41 35 _ (by decide),u0m _ 39 35 _ (by decide),u0m _ 38 35 _ (by decide),u0m _ 37 35 _ (by decide),u1r _ 35 _ (by rw [u0d,u0d,u0d,u0d,u0d,u0d,hn]; decide)])
  refine wpAnyH_ready (rs:=[6]) (by kernel_rfl) (by simp) ?_
  refine AllReadyH.cons (o:=mo6) (by kernel_rfl) (fun K hK=>?_) ?_
  ·rw [if_pos (by rfl)]
   refine u1y u2l szF oneF (.tmp 33) (.tmp 35) 23 rfl _ 64 info71 Tryz.underlying23 rfl (by decide) (by decide) W.heap.size W.drew rfl (([]:List Fn)++p.fns) q.fns g1 k1 x33 (hR.f _ _ _ rfl) A2 m2 c2 x35 hqf hR.bel (by simp only [List.length_append,List.length_nil]; omega) (by omega) ?_
   intro g' cap w' ho hg hw hlt hb
   have hR2:=hR.grow1 ho hg hw hb
   refine hK.out _ _ (hSof _ hR2.bel) (fun _=>?_)
   show wpAnyH Tryz.prog .any u1a Q S 4 #[true,true,true,true,true,true,true,true,true,true,false,true,true,false,false,true,false] (Act.put _ (some 36) _) _
   rw [← hA]
   rw [u0b _ 42 36 _ _ (by decide)]
   rw [u0b _ 41 36 _ _ (by decide)]
   rw [u0b _ 39 36 _ _ (by decide)]
   rw [u0b _ 38 36 _ _ (by decide)]
   rw [u0b _ 37 36 _ _ (by decide)]
   exact st2_1110 (v30) (.slice (some ⟨g1,0,none⟩) (([]:List Fn)++p.fns).length k1) (g') (cap) (g2) (k2) (g9) _ hR2
  exact AllReadyH.nil
 have st1_1100:∀ (v30:Value) (g1:Nat) (k1:Nat) (g2:Nat) (k2:Nat) (w:World),Rg W.heap.size W.drew w (some (g1,k1,(([]:List Fn)++p.fns))) (some (g2,k2,([]:List Kr))) none→wpAnyH Tryz.prog .any u1a Q S 6 #[true,true,true,true,true,true,false,true,true,true,false,true,true,false,false,false,false] (((((((((((a.put (some 30) (v30)).put (some 31) (.pointer (some ⟨b2,0,none⟩))).put (some 32) (.slice A m c)).put (some 33) (.slice (some ⟨g1,0,none⟩) (([]:List Fn)++p.fns).length k1)).put (some 34) (.pointer (some ⟨b3,0,none⟩))).put (some 35) (.slice A2 m2 c2)).put (some 37) (.slice (some ⟨g2,0,none⟩) ([]:List Kr).length k2)).put (some 38) (.pointer (some ⟨b2,1,none⟩))).put (some 39) (.slice B mb cb)).put (some 41) (.pointer (some ⟨b3,1,none⟩))).put (some 42) (.slice B2 mb2 cb2)) w:=by
  intro v30 g1 k1 g2 k2 w hR
  generalize hA:(((((((((((a.put (some 30) (v30)).put (some 31) (.pointer (some ⟨b2,0,none⟩))).put (some 32) (.slice A m c)).put (some 33) (.slice (some ⟨g1,0,none⟩) (([]:List Fn)++p.fns).length k1)).put (some 34) (.pointer (some ⟨b3,0,none⟩))).put (some 35) (.slice A2 m2 c2)).put (some 37) (.slice (some ⟨g2,0,none⟩) ([]:List Kr).length k2)).put (some 38) (.pointer (some ⟨b2,1,none⟩))).put (some 39) (.slice B mb cb)).put (some 41) (.pointer (some ⟨b3,1,none⟩))).put (some 42) (.slice B2 mb2 cb2))=aa
  have x33:aa.eval (.tmp 33)=.slice (some ⟨g1,0,none⟩) (([]:List Fn)++p.fns).length k1:=by rw [← hA]; exact (by rw [u0m _ 42 33 _ (by decide),u0m _ 41 33 _ (by decide),u0m _ 39 33 _ (by decide),u0m _ 38 33 _ (by decide),u0m _ 37 33 _ (by decide),u0m _ 35 33 _ (by decide),u0m _ 34 33 _ (by decide),u1r _ 33 _ (by rw [u0d,u0d,u0d,hn]; decide)])
  have x35:aa.eval (.tmp 35)=.slice A2 m2 c2:=by rw [← hA]; exact (by rw [u0m _ 42 35 _ (by decide),u0m _ 41 35 _ (by decide),u0m _ 39 35 _ (by decide),u0m _ 38 35 _ (by decide),u0m _ 37 35 _ (by decide),u1r _ 35 _ (by rw [u0d,u0d,u0d,u0d,u0d,hn]; decide)])
  refine wpAnyH_ready (rs:=[6,15]) (by kernel_rfl) (by simp) ?_
  refine AllReadyH.cons (o:=mo6) (by kernel_rfl) (fun K hK=>?_) ?_
  ·rw [if_pos (by rfl)]
   refine u1y u2l szF oneF (.tmp 33) (.tmp 35) 23 rfl _ 64 info71 Tryz.underlying23 rfl (by decide) (by decide) W.heap.size W.drew rfl (([]:List Fn)++p.fns) q.fns g1 k1 x33 (hR.f _ _ _ rfl) A2 m2 c2 x35 hqf hR.bel (by simp only [List.length_append,List.length_nil]; omega) (by omega) ?_
   intro g' cap w' ho hg hw hlt hb
   have hR2:=hR.grow1 ho hg hw hb
   refine hK.out _ _ (hSof _ hR2.bel) (fun _=>?_)
   show wpAnyH Tryz.prog .any u1a Q S 5 #[true,true,true,true,true,true,true,true,true,true,false,true,true,false,false,false,false] (Act.put _ (some 36) _) _
   rw [← hA]
   rw [u0b _ 42 36 _ _ (by decide)]
   rw [u0b _ 41 36 _ _ (by decide)]
   rw [u0b _ 39 36 _ _ (by decide)]
   rw [u0b _ 38 36 _ _ (by decide)]
   rw [u0b _ 37 36 _ _ (by decide)]
   exact st2_1100 (v30) (.slice (some ⟨g1,0,none⟩) (([]:List Fn)++p.fns).length k1) (g') (cap) (g2) (k2) _ hR2
  refine AllReadyH.cons (o:=mo15) (by kernel_rfl) (fun K hK=>?_) ?_
  ·rw [if_pos (by rfl)]
   refine u5p rfl ?_
   have hR2:=hR.alloc3
   refine hK.out _ _ (hSof _ hR2.bel) (fun _=>?_)
   show wpAnyH Tryz.prog .any u1a Q S 5 #[true,true,true,true,true,true,false,true,true,true,false,true,true,false,false,true,false] (Act.put _ (some 9) _) _
   rw [← hA]
   rw [u0b _ 42 9 _ _ (by decide)]
   rw [u0b _ 41 9 _ _ (by decide)]
   rw [u0b _ 39 9 _ _ (by decide)]
   rw [u0b _ 38 9 _ _ (by decide)]
   rw [u0b _ 37 9 _ _ (by decide)]
   rw [u0b _ 35 9 _ _ (by decide)]
   rw [u0b _ 34 9 _ _ (by decide)]
   rw [u0b _ 33 9 _ _ (by decide)]
   rw [u0b _ 32 9 _ _ (by decide)]
   rw [u0b _ 31 9 _ _ (by decide)]
   rw [u0b _ 30 9 _ _ (by decide)]
   exact st1_1110 (v30) (g1) (k1) (g2) (k2) (w.heap.size) _ hR2
  exact AllReadyH.nil
 have st1_1010:∀ (v30:Value) (g1:Nat) (k1:Nat) (g9:Nat) (w:World),Rg W.heap.size W.drew w (some (g1,k1,(([]:List Fn)++p.fns))) none (some g9)→wpAnyH Tryz.prog .any u1a Q S 6 #[true,true,true,true,true,true,false,false,true,true,false,true,true,false,false,true,false] (((((((((((a.put (some 9) (.pointer (some ⟨g9,0,none⟩))).put (some 30) (v30)).put (some 31) (.pointer (some ⟨b2,0,none⟩))).put (some 32) (.slice A m c)).put (some 33) (.slice (some ⟨g1,0,none⟩) (([]:List Fn)++p.fns).length k1)).put (some 34) (.pointer (some ⟨b3,0,none⟩))).put (some 35) (.slice A2 m2 c2)).put (some 38) (.pointer (some ⟨b2,1,none⟩))).put (some 39) (.slice B mb cb)).put (some 41) (.pointer (some ⟨b3,1,none⟩))).put (some 42) (.slice B2 mb2 cb2)) w:=by
  intro v30 g1 k1 g9 w hR
  generalize hA:(((((((((((a.put (some 9) (.pointer (some ⟨g9,0,none⟩))).put (some 30) (v30)).put (some 31) (.pointer (some ⟨b2,0,none⟩))).put (some 32) (.slice A m c)).put (some 33) (.slice (some ⟨g1,0,none⟩) (([]:List Fn)++p.fns).length k1)).put (some 34) (.pointer (some ⟨b3,0,none⟩))).put (some 35) (.slice A2 m2 c2)).put (some 38) (.pointer (some ⟨b2,1,none⟩))).put (some 39) (.slice B mb cb)).put (some 41) (.pointer (some ⟨b3,1,none⟩))).put (some 42) (.slice B2 mb2 cb2))=aa
  have x33:aa.eval (.tmp 33)=.slice (some ⟨g1,0,none⟩) (([]:List Fn)++p.fns).length k1:=by rw [← hA]; exact (by rw [u0m _ 42 33 _ (by decide),u0m _ 41 33 _ (by decide),u0m _ 39 33 _ (by decide),u0m _ 38 33 _ (by decide),u0m _ 35 33 _ (by decide),u0m _ 34 33 _ (by decide),u1r _ 33 _ (by rw [u0d,u0d,u0d,u0d,hn]; decide)])
  have x35:aa.eval (.tmp 35)=.slice A2 m2 c2:=by rw [← hA]; exact (by rw [u0m _ 42 35 _ (by decide),u0m _ 41 35 _ (by decide),u0m _ 39 35 _ (by decide),u0m _ 38 35 _ (by decide),u1r _ 35 _ (by rw [u0d,u0d,u0d,u0d,u0d,u0d,hn]; decide)])
  refine wpAnyH_ready (rs:=[6,7]) (by kernel_rfl) (by simp) ?_
  refine AllReadyH.cons (o:=mo6) (by kernel_rfl) (fun K hK=>?_) ?_
  ·rw [if_pos (by rfl)]
   refine u1y u2l szF oneF (.tmp 33) (.tmp 35) 23 rfl _ 64 info71 Tryz.underlying23 rfl (by decide) (by decide) W.heap.size W.drew rfl (([]:List Fn)++p.fns) q.fns g1 k1 x33 (hR.f _ _ _ rfl) A2 m2 c2 x35 hqf hR.bel (by simp only [List.length_append,List.length_nil]; omega) (by omega) ?_
   intro g' cap w' ho hg hw hlt hb
   have hR2:=hR.grow1 ho hg hw hb
   refine hK.out _ _ (hSof _ hR2.bel) (fun _=>?_)
   show wpAnyH Tryz.prog .any u1a Q S 5 #[true,true,true,true,true,true,true,false,true,true,false,true,true,false,false,true,false] (Act.put _ (some 36) _) _
   rw [← hA]
   rw [u0b _ 42 36 _ _ (by decide)]
   rw [u0b _ 41 36 _ _ (by decide)]
   rw [u0b _ 39 36 _ _ (by decide)]
   rw [u0b _ 38 36 _ _ (by decide)]
   exact st2_1010 (v30) (.slice (some ⟨g1,0,none⟩) (([]:List Fn)++p.fns).length k1) (g') (cap) (g9) _ hR2
  refine AllReadyH.cons (o:=mo7) (by kernel_rfl) (fun K hK=>?_) ?_
  ·rw [if_pos (by rfl)]
   refine u4o 24 75 rfl (by decide) ?_
   have hR2:=hR.alloc2
   refine hK.out _ _ (hSof _ hR2.bel) (fun _=>?_)
   show wpAnyH Tryz.prog .any u1a Q S 5 #[true,true,true,true,true,true,false,true,true,true,false,true,true,false,false,true,false] (Act.put _ (some 37) _) _
   rw [← hA]
   rw [u0b _ 42 37 _ _ (by decide)]
   rw [u0b _ 41 37 _ _ (by decide)]
   rw [u0b _ 39 37 _ _ (by decide)]
   rw [u0b _ 38 37 _ _ (by decide)]
   exact st1_1110 (v30) (g1) (k1) (w.heap.size) (0) (g9) _ hR2
  exact AllReadyH.nil
 have st1_1000:∀ (v30:Value) (g1:Nat) (k1:Nat) (w:World),Rg W.heap.size W.drew w (some (g1,k1,(([]:List Fn)++p.fns))) none none→wpAnyH Tryz.prog .any u1a Q S 7 #[true,true,true,true,true,true,false,false,true,true,false,true,true,false,false,false,false] ((((((((((a.put (some 30) (v30)).put (some 31) (.pointer (some ⟨b2,0,none⟩))).put (some 32) (.slice A m c)).put (some 33) (.slice (some ⟨g1,0,none⟩) (([]:List Fn)++p.fns).length k1)).put (some 34) (.pointer (some ⟨b3,0,none⟩))).put (some 35) (.slice A2 m2 c2)).put (some 38) (.pointer (some ⟨b2,1,none⟩))).put (some 39) (.slice B mb cb)).put (some 41) (.pointer (some ⟨b3,1,none⟩))).put (some 42) (.slice B2 mb2 cb2)) w:=by
  intro v30 g1 k1 w hR
  generalize hA:((((((((((a.put (some 30) (v30)).put (some 31) (.pointer (some ⟨b2,0,none⟩))).put (some 32) (.slice A m c)).put (some 33) (.slice (some ⟨g1,0,none⟩) (([]:List Fn)++p.fns).length k1)).put (some 34) (.pointer (some ⟨b3,0,none⟩))).put (some 35) (.slice A2 m2 c2)).put (some 38) (.pointer (some ⟨b2,1,none⟩))).put (some 39) (.slice B mb cb)).put (some 41) (.pointer (some ⟨b3,1,none⟩))).put (some 42) (.slice B2 mb2 cb2))=aa
  have x33:aa.eval (.tmp 33)=.slice (some ⟨g1,0,none⟩) (([]:List Fn)++p.fns).length k1:=by rw [← hA]; exact (by rw [u0m _ 42 33 _ (by decide),u0m _ 41 33 _ (by decide),u0m _ 39 33 _ (by decide),u0m _ 38 33 _ (by decide),u0m _ 35 33 _ (by decide),u0m _ 34 33 _ (by decide),u1r _ 33 _ (by rw [u0d,u0d,u0d,hn]; decide)])
  have x35:aa.eval (.tmp 35)=.slice A2 m2 c2:=by rw [← hA]; exact (by rw [u0m _ 42 35 _ (by decide),u0m _ 41 35 _ (by decide),u0m _ 39 35 _ (by decide),u0m _ 38 35 _ (by decide),u1r _ 35 _ (by rw [u0d,u0d,u0d,u0d,u0d,hn]; decide)])
  refine wpAnyH_ready (rs:=[6,7,15]) (by kernel_rfl) (by simp) ?_
  refine AllReadyH.cons (o:=mo6) (by kernel_rfl) (fun K hK=>?_) ?_
  ·rw [if_pos (by rfl)]
   refine u1y u2l szF oneF (.tmp 33) (.tmp 35) 23 rfl _ 64 info71 Tryz.underlying23 rfl (by decide) (by decide) W.heap.size W.drew rfl (([]:List Fn)++p.fns) q.fns g1 k1 x33 (hR.f _ _ _ rfl) A2 m2 c2 x35 hqf hR.bel (by simp only [List.length_append,List.length_nil]; omega) (by omega) ?_
   intro g' cap w' ho hg hw hlt hb
   have hR2:=hR.grow1 ho hg hw hb
   refine hK.out _ _ (hSof _ hR2.bel) (fun _=>?_)
   show wpAnyH Tryz.prog .any u1a Q S 6 #[true,true,true,true,true,true,true,false,true,true,false,true,true,false,false,false,false] (Act.put _ (some 36) _) _
   rw [← hA]
   rw [u0b _ 42 36 _ _ (by decide)]
   rw [u0b _ 41 36 _ _ (by decide)]
   rw [u0b _ 39 36 _ _ (by decide)]
   rw [u0b _ 38 36 _ _ (by decide)]
   exact st2_1000 (v30) (.slice (some ⟨g1,0,none⟩) (([]:List Fn)++p.fns).length k1) (g') (cap) _ hR2
  refine AllReadyH.cons (o:=mo7) (by kernel_rfl) (fun K hK=>?_) ?_
  ·rw [if_pos (by rfl)]
   refine u4o 24 75 rfl (by decide) ?_
   have hR2:=hR.alloc2
   refine hK.out _ _ (hSof _ hR2.bel) (fun _=>?_)
   show wpAnyH Tryz.prog .any u1a Q S 6 #[true,true,true,true,true,true,false,true,true,true,false,true,true,false,false,false,false] (Act.put _ (some 37) _) _
   rw [← hA]
   rw [u0b _ 42 37 _ _ (by decide)]
   rw [u0b _ 41 37 _ _ (by decide)]
   rw [u0b _ 39 37 _ _ (by decide)]
   rw [u0b _ 38 37 _ _ (by decide)]
   exact st1_1100 (v30) (g1) (k1) (w.heap.size) (0) _ hR2
  refine AllReadyH.cons (o:=mo15) (by kernel_rfl) (fun K hK=>?_) ?_
  ·rw [if_pos (by rfl)]
   refine u5p rfl ?_
   have hR2:=hR.alloc3
   refine hK.out _ _ (hSof _ hR2.bel) (fun _=>?_)
   show wpAnyH Tryz.prog .any u1a Q S 6 #[true,true,true,true,true,true,false,false,true,true,false,true,true,false,false,true,false] (Act.put _ (some 9) _) _
   rw [← hA]
   rw [u0b _ 42 9 _ _ (by decide)]
   rw [u0b _ 41 9 _ _ (by decide)]
   rw [u0b _ 39 9 _ _ (by decide)]
   rw [u0b _ 38 9 _ _ (by decide)]
   rw [u0b _ 35 9 _ _ (by decide)]
   rw [u0b _ 34 9 _ _ (by decide)]
   rw [u0b _ 33 9 _ _ (by decide)]
   rw [u0b _ 32 9 _ _ (by decide)]
   rw [u0b _ 31 9 _ _ (by decide)]
   rw [u0b _ 30 9 _ _ (by decide)]
   exact st1_1010 (v30) (g1) (k1) (w.heap.size) _ hR2
  exact AllReadyH.nil
 have st0_1110:∀ (g1:Nat) (k1:Nat) (g2:Nat) (k2:Nat) (g9:Nat) (w:World),Rg W.heap.size W.drew w (some (g1,k1,([]:List Fn))) (some (g2,k2,([]:List Kr))) (some g9)→wpAnyH Tryz.prog .any u1a Q S 6 #[true,true,true,false,true,true,false,true,true,true,false,true,true,false,false,true,false] (((((((((((a.put (some 9) (.pointer (some ⟨g9,0,none⟩))).put (some 30) (.slice (some ⟨g1,0,none⟩) ([]:List Fn).length k1)).put (some 31) (.pointer (some ⟨b2,0,none⟩))).put (some 32) (.slice A m c)).put (some 34) (.pointer (some ⟨b3,0,none⟩))).put (some 35) (.slice A2 m2 c2)).put (some 37) (.slice (some ⟨g2,0,none⟩) ([]:List Kr).length k2)).put (some 38) (.pointer (some ⟨b2,1,none⟩))).put (some 39) (.slice B mb cb)).put (some 41) (.pointer (some ⟨b3,1,none⟩))).put (some 42) (.slice B2 mb2 cb2)) w:=by
  intro g1 k1 g2 k2 g9 w hR
  generalize hA:(((((((((((a.put (some 9) (.pointer (some ⟨g9,0,none⟩))).put (some 30) (.slice (some ⟨g1,0,none⟩) ([]:List Fn).length k1)).put (some 31) (.pointer (some ⟨b2,0,none⟩))).put (some 32) (.slice A m c)).put (some 34) (.pointer (some ⟨b3,0,none⟩))).put (some 35) (.slice A2 m2 c2)).put (some 37) (.slice (some ⟨g2,0,none⟩) ([]:List Kr).length k2)).put (some 38) (.pointer (some ⟨b2,1,none⟩))).put (some 39) (.slice B mb cb)).put (some 41) (.pointer (some ⟨b3,1,none⟩))).put (some 42) (.slice B2 mb2 cb2))=aa
  have x30:aa.eval (.tmp 30)=.slice (some ⟨g1,0,none⟩) ([]:List Fn).length k1:=by rw [← hA]; exact (by rw [u0m _ 42 30 _ (by decide),u0m _ 41 30 _ (by decide),u0m _ 39 30 _ (by decide),u0m _ 38 30 _ (by decide),u0m _ 37 30 _ (by decide),u0m _ 35 30 _ (by decide),u0m _ 34 30 _ (by decide),u0m _ 32 30 _ (by decide),u0m _ 31 30 _ (by decide),u1r _ 30 _ (by rw [u0d,hn]; decide)])
  have x32:aa.eval (.tmp 32)=.slice A m c:=by rw [← hA]; exact (by rw [u0m _ 42 32 _ (by decide),u0m _ 41 32 _ (by decide),u0m _ 39 32 _ (by decide),u0m _ 38 32 _ (by decide),u0m _ 37 32 _ (by decide),u0m _ 35 32 _ (by decide),u0m _ 34 32 _ (by decide),u1r _ 32 _ (by rw [u0d,u0d,u0d,hn]; decide)])
  refine wpAnyH_ready (rs:=[3]) (by kernel_rfl) (by simp) ?_
  refine AllReadyH.cons (o:=mo3) (by kernel_rfl) (fun K hK=>?_) ?_
  ·rw [if_pos (by rfl)]
   refine u1y u2l szF oneF (.tmp 30) (.tmp 32) 23 rfl _ 64 info71 Tryz.underlying23 rfl (by decide) (by decide) W.heap.size W.drew rfl ([]:List Fn) p.fns g1 k1 x30 (hR.f _ _ _ rfl) A m c x32 hpf hR.bel (by simp only [List.length_append,List.length_nil]; omega) (by omega) ?_
   intro g' cap w' ho hg hw hlt hb
   have hR2:=hR.grow1 ho hg hw hb
   refine hK.out _ _ (hSof _ hR2.bel) (fun _=>?_)
   show wpAnyH Tryz.prog .any u1a Q S 5 #[true,true,true,true,true,true,false,true,true,true,false,true,true,false,false,true,false] (Act.put _ (some 33) _) _
   rw [← hA]
   rw [u0b _ 42 33 _ _ (by decide)]
   rw [u0b _ 41 33 _ _ (by decide)]
   rw [u0b _ 39 33 _ _ (by decide)]
   rw [u0b _ 38 33 _ _ (by decide)]
   rw [u0b _ 37 33 _ _ (by decide)]
   rw [u0b _ 35 33 _ _ (by decide)]
   rw [u0b _ 34 33 _ _ (by decide)]
   exact st1_1110 (.slice (some ⟨g1,0,none⟩) ([]:List Fn).length k1) (g') (cap) (g2) (k2) (g9) _ hR2
  exact AllReadyH.nil
 have st0_1100:∀ (g1:Nat) (k1:Nat) (g2:Nat) (k2:Nat) (w:World),Rg W.heap.size W.drew w (some (g1,k1,([]:List Fn))) (some (g2,k2,([]:List Kr))) none→wpAnyH Tryz.prog .any u1a Q S 7 #[true,true,true,false,true,true,false,true,true,true,false,true,true,false,false,false,false] ((((((((((a.put (some 30) (.slice (some ⟨g1,0,none⟩) ([]:List Fn).length k1)).put (some 31) (.pointer (some ⟨b2,0,none⟩))).put (some 32) (.slice A m c)).put (some 34) (.pointer (some ⟨b3,0,none⟩))).put (some 35) (.slice A2 m2 c2)).put (some 37) (.slice (some ⟨g2,0,none⟩) ([]:List Kr).length k2)).put (some 38) (.pointer (some ⟨b2,1,none⟩))).put (some 39) (.slice B mb cb)).put (some 41) (.pointer (some ⟨b3,1,none⟩))).put (some 42) (.slice B2 mb2 cb2)) w:=by
  intro g1 k1 g2 k2 w hR
  generalize hA:((((((((((a.put (some 30) (.slice (some ⟨g1,0,none⟩) ([]:List Fn).length k1)).put (some 31) (.pointer (some ⟨b2,0,none⟩))).put (some 32) (.slice A m c)).put (some 34) (.pointer (some ⟨b3,0,none⟩))).put (some 35) (.slice A2 m2 c2)).put (some 37) (.slice (some ⟨g2,0,none⟩) ([]:List Kr).length k2)).put (some 38) (.pointer (some ⟨b2,1,none⟩))).put (some 39) (.slice B mb cb)).put (some 41) (.pointer (some ⟨b3,1,none⟩))).put (some 42) (.slice B2 mb2 cb2))=aa
  have x30:aa.eval (.tmp 30)=.slice (some ⟨g1,0,none⟩) ([]:List Fn).length k1:=by rw [← hA]; exact (by rw [u0m _ 42 30 _ (by decide),u0m _ 41 30 _ (by decide),u0m _ 39 30 _ (by decide),u0m _ 38 30 _ (by decide),u0m _ 37 30 _ (by decide),u0m _ 35 30 _ (by decide),u0m _ 34 30 _ (by decide),u0m _ 32 30 _ (by decide),u0m _ 31 30 _ (by decide),u1r _ 30 _ (by rw [hn]; decide)])
  have x32:aa.eval (.tmp 32)=.slice A m c:=by rw [← hA]; exact (by rw [u0m _ 42 32 _ (by decide),u0m _ 41 32 _ (by decide),u0m _ 39 32 _ (by decide),u0m _ 38 32 _ (by decide),u0m _ 37 32 _ (by decide),u0m _ 35 32 _ (by decide),u0m _ 34 32 _ (by decide),u1r _ 32 _ (by rw [u0d,u0d,hn]; decide)])
  refine wpAnyH_ready (rs:=[3,15]) (by kernel_rfl) (by simp) ?_
  refine AllReadyH.cons (o:=mo3) (by kernel_rfl) (fun K hK=>?_) ?_
  ·rw [if_pos (by rfl)]
   refine u1y u2l szF oneF (.tmp 30) (.tmp 32) 23 rfl _ 64 info71 Tryz.underlying23 rfl (by decide) (by decide) W.heap.size W.drew rfl ([]:List Fn) p.fns g1 k1 x30 (hR.f _ _ _ rfl) A m c x32 hpf hR.bel (by simp only [List.length_append,List.length_nil]; omega) (by omega) ?_
   intro g' cap w' ho hg hw hlt hb
   have hR2:=hR.grow1 ho hg hw hb
   refine hK.out _ _ (hSof _ hR2.bel) (fun _=>?_)
   show wpAnyH Tryz.prog .any u1a Q S 6 #[true,true,true,true,true,true,false,true,true,true,false,true,true,false,false,false,false] (Act.put _ (some 33) _) _
   rw [← hA]
   rw [u0b _ 42 33 _ _ (by decide)]
   rw [u0b _ 41 33 _ _ (by decide)]
   rw [u0b _ 39 33 _ _ (by decide)]
   rw [u0b _ 38 33 _ _ (by decide)]
   rw [u0b _ 37 33 _ _ (by decide)]
   rw [u0b _ 35 33 _ _ (by decide)]
   rw [u0b _ 34 33 _ _ (by decide)]
   exact st1_1100 (.slice (some ⟨g1,0,none⟩) ([]:List Fn).length k1) (g') (cap) (g2) (k2) _ hR2
  refine AllReadyH.cons (o:=mo15) (by kernel_rfl) (fun K hK=>?_) ?_
  ·rw [if_pos (by rfl)]
   refine u5p rfl ?_
   have hR2:=hR.alloc3
   refine hK.out _ _ (hSof _ hR2.bel) (fun _=>?_)
   show wpAnyH Tryz.prog .any u1a Q S 6 #[true,true,true,false,true,true,false,true,true,true,false,true,true,false,false,true,false] (Act.put _ (some 9) _) _
   rw [← hA]
   rw [u0b _ 42 9 _ _ (by decide)]
   rw [u0b _ 41 9 _ _ (by decide)]
   rw [u0b _ 39 9 _ _ (by decide)]
   rw [u0b _ 38 9 _ _ (by decide)]
   rw [u0b _ 37 9 _ _ (by decide)]
   rw [u0b _ 35 9 _ _ (by decide)]
   rw [u0b _ 34 9 _ _ (by decide)]
   rw [u0b _ 32 9 _ _ (by decide)]
   rw [u0b _ 31 9 _ _ (by decide)]
   rw [u0b _ 30 9 _ _ (by decide)]
   exact st0_1110 (g1) (k1) (g2) (k2) (w.heap.size) _ hR2
  exact AllReadyH.nil
 have st0_1010:∀ (g1:Nat) (k1:Nat) (g9:Nat) (w:World),Rg W.heap.size W.drew w (some (g1,k1,([]:List Fn))) none (some g9)→wpAnyH Tryz.prog .any u1a Q S 7 #[true,true,true,false,true,true,false,false,true,true,false,true,true,false,false,true,false] ((((((((((a.put (some 9) (.pointer (some ⟨g9,0,none⟩))).put (some 30) (.slice (some ⟨g1,0,none⟩) ([]:List Fn).length k1)).put (some 31) (.pointer (some ⟨b2,0,none⟩))).put (some 32) (.slice A m c)).put (some 34) (.pointer (some ⟨b3,0,none⟩))).put (some 35) (.slice A2 m2 c2)).put (some 38) (.pointer (some ⟨b2,1,none⟩))).put (some 39) (.slice B mb cb)).put (some 41) (.pointer (some ⟨b3,1,none⟩))).put (some 42) (.slice B2 mb2 cb2)) w:=by
  intro g1 k1 g9 w hR
  generalize hA:((((((((((a.put (some 9) (.pointer (some ⟨g9,0,none⟩))).put (some 30) (.slice (some ⟨g1,0,none⟩) ([]:List Fn).length k1)).put (some 31) (.pointer (some ⟨b2,0,none⟩))).put (some 32) (.slice A m c)).put (some 34) (.pointer (some ⟨b3,0,none⟩))).put (some 35) (.slice A2 m2 c2)).put (some 38) (.pointer (some ⟨b2,1,none⟩))).put (some 39) (.slice B mb cb)).put (some 41) (.pointer (some ⟨b3,1,none⟩))).put (some 42) (.slice B2 mb2 cb2))=aa
  have x30:aa.eval (.tmp 30)=.slice (some ⟨g1,0,none⟩) ([]:List Fn).length k1:=by rw [← hA]; exact (by rw [u0m _ 42 30 _ (by decide),u0m _ 41 30 _ (by decide),u0m _ 39 30 _ (by decide),u0m _ 38 30 _ (by decide),u0m _ 35 30 _ (by decide),u0m _ 34 30 _ (by decide),u0m _ 32 30 _ (by decide),u0m _ 31 30 _ (by decide),u1r _ 30 _ (by rw [u0d,hn]; decide)])
  have x32:aa.eval (.tmp 32)=.slice A m c:=by rw [← hA]; exact (by rw [u0m _ 42 32 _ (by decide),u0m _ 41 32 _ (by decide),u0m _ 39 32 _ (by decide),u0m _ 38 32 _ (by decide),u0m _ 35 32 _ (by decide),u0m _ 34 32 _ (by decide),u1r _ 32 _ (by rw [u0d,u0d,u0d,hn]; decide)])
  refine wpAnyH_ready (rs:=[3,7]) (by kernel_rfl) (by simp) ?_
  refine AllReadyH.cons (o:=mo3) (by kernel_rfl) (fun K hK=>?_) ?_
  ·rw [if_pos (by rfl)]
   refine u1y u2l szF oneF (.tmp 30) (.tmp 32) 23 rfl _ 64 info71 Tryz.underlying23 rfl (by decide) (by decide) W.heap.size W.drew rfl ([]:List Fn) p.fns g1 k1 x30 (hR.f _ _ _ rfl) A m c x32 hpf hR.bel (by simp only [List.length_append,List.length_nil]; omega) (by omega) ?_
   intro g' cap w' ho hg hw hlt hb
   have hR2:=hR.grow1 ho hg hw hb
   refine hK.out _ _ (hSof _ hR2.bel) (fun _=>?_)
   show wpAnyH Tryz.prog .any u1a Q S 6 #[true,true,true,true,true,true,false,false,true,true,false,true,true,false,false,true,false] (Act.put _ (some 33) _) _
   rw [← hA]
   rw [u0b _ 42 33 _ _ (by decide)]
   rw [u0b _ 41 33 _ _ (by decide)]
   rw [u0b _ 39 33 _ _ (by decide)]
   rw [u0b _ 38 33 _ _ (by decide)]
   rw [u0b _ 35 33 _ _ (by decide)]
   rw [u0b _ 34 33 _ _ (by decide)]
   exact st1_1010 (.slice (some ⟨g1,0,none⟩) ([]:List Fn).length k1) (g') (cap) (g9) _ hR2
  refine AllReadyH.cons (o:=mo7) (by kernel_rfl) (fun K hK=>?_) ?_
  ·rw [if_pos (by rfl)]
   refine u4o 24 75 rfl (by decide) ?_
   have hR2:=hR.alloc2
   refine hK.out _ _ (hSof _ hR2.bel) (fun _=>?_)
   show wpAnyH Tryz.prog .any u1a Q S 6 #[true,true,true,false,true,true,false,true,true,true,false,true,true,false,false,true,false] (Act.put _ (some 37) _) _
   rw [← hA]
   rw [u0b _ 42 37 _ _ (by decide)]
   rw [u0b _ 41 37 _ _ (by decide)]
   rw [u0b _ 39 37 _ _ (by decide)]
   rw [u0b _ 38 37 _ _ (by decide)]
   exact st0_1110 (g1) (k1) (w.heap.size) (0) (g9) _ hR2
  exact AllReadyH.nil
 have st0_1000:∀ (g1:Nat) (k1:Nat) (w:World),Rg W.heap.size W.drew w (some (g1,k1,([]:List Fn))) none none→wpAnyH Tryz.prog .any u1a Q S 8 #[true,true,true,false,true,true,false,false,true,true,false,true,true,false,false,false,false] (((((((((a.put (some 30) (.slice (some ⟨g1,0,none⟩) ([]:List Fn).length k1)).put (some 31) (.pointer (some ⟨b2,0,none⟩))).put (some 32) (.slice A m c)).put (some 34) (.pointer (some ⟨b3,0,none⟩))).put (some 35) (.slice A2 m2 c2)).put (some 38) (.pointer (some ⟨b2,1,none⟩))).put (some 39) (.slice B mb cb)).put (some 41) (.pointer (some ⟨b3,1,none⟩))).put (some 42) (.slice B2 mb2 cb2)) w:=by
  intro g1 k1 w hR
  generalize hA:(((((((((a.put (some 30) (.slice (some ⟨g1,0,none⟩) ([]:List Fn).length k1)).put (some 31) (.pointer (some ⟨b2,0,none⟩))).put (some 32) (.slice A m c)).put (some 34) (.pointer (some ⟨b3,0,none⟩))).put (some 35) (.slice A2 m2 c2)).put (some 38) (.pointer (some ⟨b2,1,none⟩))).put (some 39) (.slice B mb cb)).put (some 41) (.pointer (some ⟨b3,1,none⟩))).put (some 42) (.slice B2 mb2 cb2))=aa
  have x30:aa.eval (.tmp 30)=.slice (some ⟨g1,0,none⟩) ([]:List Fn).length k1:=by rw [← hA]; exact (by rw [u0m _ 42 30 _ (by decide),u0m _ 41 30 _ (by decide),u0m _ 39 30 _ (by decide),u0m _ 38 30 _ (by decide),u0m _ 35 30 _ (by decide),u0m _ 34 30 _ (by decide),u0m _ 32 30 _ (by decide),u0m _ 31 30 _ (by decide),u1r _ 30 _ (by rw [hn]; decide)])
  have x32:aa.eval (.tmp 32)=.slice A m c:=by rw [← hA]; exact (by rw [u0m _ 42 32 _ (by decide),u0m _ 41 32 _ (by decide),u0m _ 39 32 _ (by decide),u0m _ 38 32 _ (by decide),u0m _ 35 32 _ (by decide),u0m _ 34 32 _ (by decide),u1r _ 32 _ (by rw [u0d,u0d,hn]; decide)])
  refine wpAnyH_ready (rs:=[3,7,15]) (by kernel_rfl) (by simp) ?_
  refine AllReadyH.cons (o:=mo3) (by kernel_rfl) (fun K hK=>?_) ?_
  ·rw [if_pos (by rfl)]
   refine u1y u2l szF oneF (.tmp 30) (.tmp 32) 23 rfl _ 64 info71 Tryz.underlying23 rfl (by decide) (by decide) W.heap.size W.drew rfl ([]:List Fn) p.fns g1 k1 x30 (hR.f _ _ _ rfl) A m c x32 hpf hR.bel (by simp only [List.length_append,List.length_nil]; omega) (by omega) ?_
   intro g' cap w' ho hg hw hlt hb
   have hR2:=hR.grow1 ho hg hw hb
   refine hK.out _ _ (hSof _ hR2.bel) (fun _=>?_)
   show wpAnyH Tryz.prog .any u1a Q S 7 #[true,true,true,true,true,true,false,false,true,true,false,true,true,false,false,false,false] (Act.put _ (some 33) _) _
   rw [← hA]
   rw [u0b _ 42 33 _ _ (by decide)]
   rw [u0b _ 41 33 _ _ (by decide)]
   rw [u0b _ 39 33 _ _ (by decide)]
   rw [u0b _ 38 33 _ _ (by decide)]
   rw [u0b _ 35 33 _ _ (by decide)]
   rw [u0b _ 34 33 _ _ (by decide)]
   exact st1_1000 (.slice (some ⟨g1,0,none⟩) ([]:List Fn).length k1) (g') (cap) _ hR2
  refine AllReadyH.cons (o:=mo7) (by kernel_rfl) (fun K hK=>?_) ?_
  ·rw [if_pos (by rfl)]
   refine u4o 24 75 rfl (by decide) ?_
   have hR2:=hR.alloc2
   refine hK.out _ _ (hSof _ hR2.bel) (fun _=>?_)
   show wpAnyH Tryz.prog .any u1a Q S 7 #[true,true,true,false,true,true,false,true,true,true,false,true,true,false,false,false,false] (Act.put _ (some 37) _) _
   rw [← hA]
   rw [u0b _ 42 37 _ _ (by decide)]
   rw [u0b _ 41 37 _ _ (by decide)]
   rw [u0b _ 39 37 _ _ (by decide)]
   rw [u0b _ 38 37 _ _ (by decide)]
   exact st0_1100 (g1) (k1) (w.heap.size) (0) _ hR2
  refine AllReadyH.cons (o:=mo15) (by kernel_rfl) (fun K hK=>?_) ?_
  ·rw [if_pos (by rfl)]
   refine u5p rfl ?_
   have hR2:=hR.alloc3
   refine hK.out _ _ (hSof _ hR2.bel) (fun _=>?_)
   show wpAnyH Tryz.prog .any u1a Q S 7 #[true,true,true,false,true,true,false,false,true,true,false,true,true,false,false,true,false] (Act.put _ (some 9) _) _
   rw [← hA]
   rw [u0b _ 42 9 _ _ (by decide)]
   rw [u0b _ 41 9 _ _ (by decide)]
   rw [u0b _ 39 9 _ _ (by decide)]
   rw [u0b _ 38 9 _ _ (by decide)]
   rw [u0b _ 35 9 _ _ (by decide)]
   rw [u0b _ 34 9 _ _ (by decide)]
   rw [u0b _ 32 9 _ _ (by decide)]
   rw [u0b _ 31 9 _ _ (by decide)]
   rw [u0b _ 30 9 _ _ (by decide)]
   exact st0_1010 (g1) (k1) (w.heap.size) _ hR2
  exact AllReadyH.nil
 have st0_0110:∀ (g2:Nat) (k2:Nat) (g9:Nat) (w:World),Rg W.heap.size W.drew w none (some (g2,k2,([]:List Kr))) (some g9)→wpAnyH Tryz.prog .any u1a Q S 7 #[false,true,true,false,true,true,false,true,true,true,false,true,true,false,false,true,false] ((((((((((a.put (some 9) (.pointer (some ⟨g9,0,none⟩))).put (some 31) (.pointer (some ⟨b2,0,none⟩))).put (some 32) (.slice A m c)).put (some 34) (.pointer (some ⟨b3,0,none⟩))).put (some 35) (.slice A2 m2 c2)).put (some 37) (.slice (some ⟨g2,0,none⟩) ([]:List Kr).length k2)).put (some 38) (.pointer (some ⟨b2,1,none⟩))).put (some 39) (.slice B mb cb)).put (some 41) (.pointer (some ⟨b3,1,none⟩))).put (some 42) (.slice B2 mb2 cb2)) w:=by
  intro g2 k2 g9 w hR
  generalize hA:((((((((((a.put (some 9) (.pointer (some ⟨g9,0,none⟩))).put (some 31) (.pointer (some ⟨b2,0,none⟩))).put (some 32) (.slice A m c)).put (some 34) (.pointer (some ⟨b3,0,none⟩))).put (some 35) (.slice A2 m2 c2)).put (some 37) (.slice (some ⟨g2,0,none⟩) ([]:List Kr).length k2)).put (some 38) (.pointer (some ⟨b2,1,none⟩))).put (some 39) (.slice B mb cb)).put (some 41) (.pointer (some ⟨b3,1,none⟩))).put (some 42) (.slice B2 mb2 cb2))=aa
  refine wpAnyH_ready (rs:=[0]) (by kernel_rfl) (by simp) ?_
  refine AllReadyH.cons (o:=mo0) (by kernel_rfl) (fun K hK=>?_) ?_
  ·rw [if_pos (by rfl)]
   refine u4o 23 71 rfl (by decide) ?_
   have hR2:=hR.alloc1
   refine hK.out _ _ (hSof _ hR2.bel) (fun _=>?_)
   show wpAnyH Tryz.prog .any u1a Q S 6 #[true,true,true,false,true,true,false,true,true,true,false,true,true,false,false,true,false] (Act.put _ (some 30) _) _
   rw [← hA]
   rw [u0b _ 42 30 _ _ (by decide)]
   rw [u0b _ 41 30 _ _ (by decide)]
   rw [u0b _ 39 30 _ _ (by decide)]
   rw [u0b _ 38 30 _ _ (by decide)]
   rw [u0b _ 37 30 _ _ (by decide)]
   rw [u0b _ 35 30 _ _ (by decide)]
   rw [u0b _ 34 30 _ _ (by decide)]
   rw [u0b _ 32 30 _ _ (by decide)]
   rw [u0b _ 31 30 _ _ (by decide)]
   exact st0_1110 (w.heap.size) (0) (g2) (k2) (g9) _ hR2
  exact AllReadyH.nil
 have st0_0100:∀ (g2:Nat) (k2:Nat) (w:World),Rg W.heap.size W.drew w none (some (g2,k2,([]:List Kr))) none→wpAnyH Tryz.prog .any u1a Q S 8 #[false,true,true,false,true,true,false,true,true,true,false,true,true,false,false,false,false] (((((((((a.put (some 31) (.pointer (some ⟨b2,0,none⟩))).put (some 32) (.slice A m c)).put (some 34) (.pointer (some ⟨b3,0,none⟩))).put (some 35) (.slice A2 m2 c2)).put (some 37) (.slice (some ⟨g2,0,none⟩) ([]:List Kr).length k2)).put (some 38) (.pointer (some ⟨b2,1,none⟩))).put (some 39) (.slice B mb cb)).put (some 41) (.pointer (some ⟨b3,1,none⟩))).put (some 42) (.slice B2 mb2 cb2)) w:=by
  intro g2 k2 w hR
  generalize hA:(((((((((a.put (some 31) (.pointer (some ⟨b2,0,none⟩))).put (some 32) (.slice A m c)).put (some 34) (.pointer (some ⟨b3,0,none⟩))).put (some 35) (.slice A2 m2 c2)).put (some 37) (.slice (some ⟨g2,0,none⟩) ([]:List Kr).length k2)).put (some 38) (.pointer (some ⟨b2,1,none⟩))).put (some 39) (.slice B mb cb)).put (some 41) (.pointer (some ⟨b3,1,none⟩))).put (some 42) (.slice B2 mb2 cb2))=aa
  refine wpAnyH_ready (rs:=[0,15]) (by kernel_rfl) (by simp) ?_
  refine AllReadyH.cons (o:=mo0) (by kernel_rfl) (fun K hK=>?_) ?_
  ·rw [if_pos (by rfl)]
   refine u4o 23 71 rfl (by decide) ?_
   have hR2:=hR.alloc1
   refine hK.out _ _ (hSof _ hR2.bel) (fun _=>?_)
   show wpAnyH Tryz.prog .any u1a Q S 7 #[true,true,true,false,true,true,false,true,true,true,false,true,true,false,false,false,false] (Act.put _ (some 30) _) _
   rw [← hA]
   rw [u0b _ 42 30 _ _ (by decide)]
   rw [u0b _ 41 30 _ _ (by decide)]
   rw [u0b _ 39 30 _ _ (by decide)]
   rw [u0b _ 38 30 _ _ (by decide)]
   rw [u0b _ 37 30 _ _ (by decide)]
   rw [u0b _ 35 30 _ _ (by decide)]
   rw [u0b _ 34 30 _ _ (by decide)]
   rw [u0b _ 32 30 _ _ (by decide)]
   rw [u0b _ 31 30 _ _ (by decide)]
   exact st0_1100 (w.heap.size) (0) (g2) (k2) _ hR2
  refine AllReadyH.cons (o:=mo15) (by kernel_rfl) (fun K hK=>?_) ?_
  ·rw [if_pos (by rfl)]
   refine u5p rfl ?_
   have hR2:=hR.alloc3
   refine hK.out _ _ (hSof _ hR2.bel) (fun _=>?_)
   show wpAnyH Tryz.prog .any u1a Q S 7 #[false,true,true,false,true,true,false,true,true,true,false,true,true,false,false,true,false] (Act.put _ (some 9) _) _
   rw [← hA]
   rw [u0b _ 42 9 _ _ (by decide)]
   rw [u0b _ 41 9 _ _ (by decide)]
   rw [u0b _ 39 9 _ _ (by decide)]
   rw [u0b _ 38 9 _ _ (by decide)]
   rw [u0b _ 37 9 _ _ (by decide)]
   rw [u0b _ 35 9 _ _ (by decide)]
   rw [u0b _ 34 9 _ _ (by decide)]
   rw [u0b _ 32 9 _ _ (by decide)]
   rw [u0b _ 31 9 _ _ (by decide)]
   exact st0_0110 (g2) (k2) (w.heap.size) _ hR2
  exact AllReadyH.nil
 have st0_0010:∀ (g9:Nat) (w:World),Rg W.heap.size W.drew w none none (some g9)→wpAnyH Tryz.prog .any u1a Q S 8 #[false,true,true,false,true,true,false,false,true,true,false,true,true,false,false,true,false] (((((((((a.put (some 9) (.pointer (some ⟨g9,0,none⟩))).put (some 31) (.pointer (some ⟨b2,0,none⟩))).put (some 32) (.slice A m c)).put (some 34) (.pointer (some ⟨b3,0,none⟩))).put (some 35) (.slice A2 m2 c2)).put (some 38) (.pointer (some ⟨b2,1,none⟩))).put (some 39) (.slice B mb cb)).put (some 41) (.pointer (some ⟨b3,1,none⟩))).put (some 42) (.slice B2 mb2 cb2)) w:=by
  intro g9 w hR
  generalize hA:(((((((((a.put (some 9) (.pointer (some ⟨g9,0,none⟩))).put (some 31) (.pointer (some ⟨b2,0,none⟩))).put (some 32) (.slice A m c)).put (some 34) (.pointer (some ⟨b3,0,none⟩))).put (some 35) (.slice A2 m2 c2)).put (some 38) (.pointer (some ⟨b2,1,none⟩))).put (some 39) (.slice B mb cb)).put (some 41) (.pointer (some ⟨b3,1,none⟩))).put (some 42) (.slice B2 mb2 cb2))=aa
  refine wpAnyH_ready (rs:=[0,7]) (by kernel_rfl) (by simp) ?_
  refine AllReadyH.cons (o:=mo0) (by kernel_rfl) (fun K hK=>?_) ?_
  ·rw [if_pos (by rfl)]
   refine u4o 23 71 rfl (by decide) ?_
   have hR2:=hR.alloc1
   refine hK.out _ _ (hSof _ hR2.bel) (fun _=>?_)
   show wpAnyH Tryz.prog .any u1a Q S 7 #[true,true,true,false,true,true,false,false,true,true,false,true,true,false,false,true,false] (Act.put _ (some 30) _) _
   rw [← hA]
   rw [u0b _ 42 30 _ _ (by decide)]
   rw [u0b _ 41 30 _ _ (by decide)]
   rw [u0b _ 39 30 _ _ (by decide)]
   rw [u0b _ 38 30 _ _ (by decide)]
   rw [u0b _ 35 30 _ _ (by decide)]
   rw [u0b _ 34 30 _ _ (by decide)]
   rw [u0b _ 32 30 _ _ (by decide)]
   rw [u0b _ 31 30 _ _ (by decide)]
   exact st0_1010 (w.heap.size) (0) (g9) _ hR2
  refine AllReadyH.cons (o:=mo7) (by kernel_rfl) (fun K hK=>?_) ?_
  ·rw [if_pos (by rfl)]
   refine u4o 24 75 rfl (by decide) ?_
   have hR2:=hR.alloc2
   refine hK.out _ _ (hSof _ hR2.bel) (fun _=>?_)
   show wpAnyH Tryz.prog .any u1a Q S 7 #[false,true,true,false,true,true,false,true,true,true,false,true,true,false,false,true,false] (Act.put _ (some 37) _) _
   rw [← hA]
   rw [u0b _ 42 37 _ _ (by decide)]
   rw [u0b _ 41 37 _ _ (by decide)]
   rw [u0b _ 39 37 _ _ (by decide)]
   rw [u0b _ 38 37 _ _ (by decide)]
   exact st0_0110 (w.heap.size) (0) (g9) _ hR2
  exact AllReadyH.nil
 have st0_0000:∀  (w:World),Rg W.heap.size W.drew w none none none→wpAnyH Tryz.prog .any u1a Q S 9 #[false,true,true,false,true,true,false,false,true,true,false,true,true,false,false,false,false] ((((((((a.put (some 31) (.pointer (some ⟨b2,0,none⟩))).put (some 32) (.slice A m c)).put (some 34) (.pointer (some ⟨b3,0,none⟩))).put (some 35) (.slice A2 m2 c2)).put (some 38) (.pointer (some ⟨b2,1,none⟩))).put (some 39) (.slice B mb cb)).put (some 41) (.pointer (some ⟨b3,1,none⟩))).put (some 42) (.slice B2 mb2 cb2)) w:=by
  intro  w hR
  generalize hA:((((((((a.put (some 31) (.pointer (some ⟨b2,0,none⟩))).put (some 32) (.slice A m c)).put (some 34) (.pointer (some ⟨b3,0,none⟩))).put (some 35) (.slice A2 m2 c2)).put (some 38) (.pointer (some ⟨b2,1,none⟩))).put (some 39) (.slice B mb cb)).put (some 41) (.pointer (some ⟨b3,1,none⟩))).put (some 42) (.slice B2 mb2 cb2))=aa
  refine wpAnyH_ready (rs:=[0,7,15]) (by kernel_rfl) (by simp) ?_
  refine AllReadyH.cons (o:=mo0) (by kernel_rfl) (fun K hK=>?_) ?_
  ·rw [if_pos (by rfl)]
   refine u4o 23 71 rfl (by decide) ?_
   have hR2:=hR.alloc1
   refine hK.out _ _ (hSof _ hR2.bel) (fun _=>?_)
   show wpAnyH Tryz.prog .any u1a Q S 8 #[true,true,true,false,true,true,false,false,true,true,false,true,true,false,false,false,false] (Act.put _ (some 30) _) _
   rw [← hA]
   rw [u0b _ 42 30 _ _ (by decide)]
   rw [u0b _ 41 30 _ _ (by decide)]
   rw [u0b _ 39 30 _ _ (by decide)]
   rw [u0b _ 38 30 _ _ (by decide)]
   rw [u0b _ 35 30 _ _ (by decide)]
   rw [u0b _ 34 30 _ _ (by decide)]
   rw [u0b _ 32 30 _ _ (by decide)]
   rw [u0b _ 31 30 _ _ (by decide)]
   exact st0_1000 (w.heap.size) (0) _ hR2
  refine AllReadyH.cons (o:=mo7) (by kernel_rfl) (fun K hK=>?_) ?_
  ·rw [if_pos (by rfl)]
   refine u4o 24 75 rfl (by decide) ?_
   have hR2:=hR.alloc2
   refine hK.out _ _ (hSof _ hR2.bel) (fun _=>?_)
   show wpAnyH Tryz.prog .any u1a Q S 8 #[false,true,true,false,true,true,false,true,true,true,false,true,true,false,false,false,false] (Act.put _ (some 37) _) _
   rw [← hA]
   rw [u0b _ 42 37 _ _ (by decide)]
   rw [u0b _ 41 37 _ _ (by decide)]
   rw [u0b _ 39 37 _ _ (by decide)]
   rw [u0b _ 38 37 _ _ (by decide)]
   exact st0_0100 (w.heap.size) (0) _ hR2
  refine AllReadyH.cons (o:=mo15) (by kernel_rfl) (fun K hK=>?_) ?_
  ·rw [if_pos (by rfl)]
   refine u5p rfl ?_
   have hR2:=hR.alloc3
   refine hK.out _ _ (hSof _ hR2.bel) (fun _=>?_)
   show wpAnyH Tryz.prog .any u1a Q S 8 #[false,true,true,false,true,true,false,false,true,true,false,true,true,false,false,true,false] (Act.put _ (some 9) _) _
   rw [← hA]
   rw [u0b _ 42 9 _ _ (by decide)]
   rw [u0b _ 41 9 _ _ (by decide)]
   rw [u0b _ 39 9 _ _ (by decide)]
   rw [u0b _ 38 9 _ _ (by decide)]
   rw [u0b _ 35 9 _ _ (by decide)]
   rw [u0b _ 34 9 _ _ (by decide)]
   rw [u0b _ 32 9 _ _ (by decide)]
   rw [u0b _ 31 9 _ _ (by decide)]
   exact st0_0010 (w.heap.size) _ hR2
  exact AllReadyH.nil
 refine wp_region_held_drew (S:=S) (by kernel_rfl) (hSof _ (Below.refl _ _)) (fun _=>?_)
 show wpAnyH Tryz.prog .any u1a Q S 17 #[false,false,false,false,false,false,false,false,false,false,false,false,false,false,false,false,false] a W.drew
 have hS0:S W.drew:=hSof _ (Below.refl _ _)
 refine wpAnyH_take (i:=1) (oi:=mo1) (v:=.pointer (some ⟨b2,0,none⟩)) (by kernel_rfl) (by kernel_rfl) (by kernel_rfl) (by kernel_rfl) (hQ _ _) (Or.inl ⟨by rfl,fun w' _=>run_field (.tmp 2) 0 b2 (by decide) rfl e2⟩) hS0 ?_
 show wpAnyH Tryz.prog .any u1a Q S 16 #[false,true,false,false,false,false,false,false,false,false,false,false,false,false,false,false,false] (Act.put _ (some 31) _) _
 refine wpAnyH_take (i:=4) (oi:=mo4) (v:=.pointer (some ⟨b3,0,none⟩)) (by kernel_rfl) (by kernel_rfl) (by kernel_rfl) (by kernel_rfl) (hQ _ _) (Or.inl ⟨by rfl,fun w' _=>run_field (.tmp 3) 0 b3 (by decide) rfl (by rw [u0m _ 31 3 _ (by decide)]; exact e3)⟩) hS0 ?_
 show wpAnyH Tryz.prog .any u1a Q S 15 #[false,true,false,false,true,false,false,false,false,false,false,false,false,false,false,false,false] (Act.put _ (some 34) _) _
 refine wpAnyH_take (i:=8) (oi:=mo8) (v:=.pointer (some ⟨b2,1,none⟩)) (by kernel_rfl) (by kernel_rfl) (by kernel_rfl) (by kernel_rfl) (hQ _ _) (Or.inl ⟨by rfl,fun w' _=>run_field (.tmp 2) 1 b2 (by decide) rfl (by rw [u0m _ 34 2 _ (by decide),u0m _ 31 2 _ (by decide)]; exact e2)⟩) hS0 ?_
 show wpAnyH Tryz.prog .any u1a Q S 14 #[false,true,false,false,true,false,false,false,true,false,false,false,false,false,false,false,false] (Act.put _ (some 38) _) _
 refine wpAnyH_take (i:=11) (oi:=mo11) (v:=.pointer (some ⟨b3,1,none⟩)) (by kernel_rfl) (by kernel_rfl) (by kernel_rfl) (by kernel_rfl) (hQ _ _) (Or.inl ⟨by rfl,fun w' _=>run_field (.tmp 3) 1 b3 (by decide) rfl (by rw [u0m _ 38 3 _ (by decide),u0m _ 34 3 _ (by decide),u0m _ 31 3 _ (by decide)]; exact e3)⟩) hS0 ?_
 show wpAnyH Tryz.prog .any u1a Q S 13 #[false,true,false,false,true,false,false,false,true,false,false,true,false,false,false,false,false] (Act.put _ (some 41) _) _
 refine wpAnyH_take (i:=2) (oi:=mo2) (v:=.slice A m c) (by kernel_rfl) (by kernel_rfl) (by kernel_rfl) (by kernel_rfl) (hQ _ _) (Or.inl ⟨by rfl,fun w' hS=>by rw [hSd] at hS; exact run_load 23 (by decide) (.tmp 31) b2 0 _ rfl (by rw [u0m _ 41 31 _ (by decide),u0m _ 38 31 _ (by decide),u0m _ 34 31 _ (by decide),u1r _ 31 _ (by rw [hn]; decide)]) (cell_of_row _ _ 0 _ _ _ hS.1)⟩) hS0 ?_
 show wpAnyH Tryz.prog .any u1a Q S 12 #[false,true,true,false,true,false,false,false,true,false,false,true,false,false,false,false,false] (Act.put _ (some 32) _) _
 rw [u0b _ 41 32 _ _ (by decide)]
 rw [u0b _ 38 32 _ _ (by decide)]
 rw [u0b _ 34 32 _ _ (by decide)]
 refine wpAnyH_take (i:=5) (oi:=mo5) (v:=.slice A2 m2 c2) (by kernel_rfl) (by kernel_rfl) (by kernel_rfl) (by kernel_rfl) (hQ _ _) (Or.inl ⟨by rfl,fun w' hS=>by rw [hSd] at hS; exact run_load 23 (by decide) (.tmp 34) b3 0 _ rfl (by rw [u0m _ 41 34 _ (by decide),u0m _ 38 34 _ (by decide),u1r _ 34 _ (by rw [u0d,u0d,hn]; decide)]) (cell_of_row _ _ 0 _ _ _ hS.2)⟩) hS0 ?_
 show wpAnyH Tryz.prog .any u1a Q S 11 #[false,true,true,false,true,true,false,false,true,false,false,true,false,false,false,false,false] (Act.put _ (some 35) _) _
 rw [u0b _ 41 35 _ _ (by decide)]
 rw [u0b _ 38 35 _ _ (by decide)]
 refine wpAnyH_take (i:=9) (oi:=mo9) (v:=.slice B mb cb) (by kernel_rfl) (by kernel_rfl) (by kernel_rfl) (by kernel_rfl) (hQ _ _) (Or.inl ⟨by rfl,fun w' hS=>by rw [hSd] at hS; exact run_load 24 (by decide) (.tmp 38) b2 1 _ rfl (by rw [u0m _ 41 38 _ (by decide),u1r _ 38 _ (by rw [u0d,u0d,u0d,u0d,hn]; decide)]) (cell_of_row _ _ 1 _ _ _ hS.1)⟩) hS0 ?_
 show wpAnyH Tryz.prog .any u1a Q S 10 #[false,true,true,false,true,true,false,false,true,true,false,true,false,false,false,false,false] (Act.put _ (some 39) _) _
 rw [u0b _ 41 39 _ _ (by decide)]
 refine wpAnyH_take (i:=12) (oi:=mo12) (v:=.slice B2 mb2 cb2) (by kernel_rfl) (by kernel_rfl) (by kernel_rfl) (by kernel_rfl) (hQ _ _) (Or.inl ⟨by rfl,fun w' hS=>by rw [hSd] at hS; exact run_load 24 (by decide) (.tmp 41) b3 1 _ rfl (by rw [u1r _ 41 _ (by rw [u0d,u0d,u0d,u0d,u0d,u0d,hn]; decide)]) (cell_of_row _ _ 1 _ _ _ hS.2)⟩) hS0 ?_
 show wpAnyH Tryz.prog .any u1a Q S 9 #[false,true,true,false,true,true,false,false,true,true,false,true,true,false,false,false,false] (Act.put _ (some 42) _) _
 exact st0_0000 _ ⟨rfl,Below.refl _ _,(fun _ _ _ h=>by cases h),(fun _ _ _ h=>by cases h),(fun _ h=>by cases h),(fun _ _ _ _ _ _ h=>by cases h),(fun _ _ _ _ h=>by cases h),(fun _ _ _ _ h=>by cases h)⟩
end Go.Proofs.YtbkhnilbgocpnaaGreatDoor.SynC
