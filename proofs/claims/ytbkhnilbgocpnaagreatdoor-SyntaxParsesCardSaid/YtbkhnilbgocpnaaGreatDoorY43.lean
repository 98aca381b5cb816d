import Derived.Test.YtbkhnilbgocpnaaGreatDoorY28
set_option linter.unusedVariables false
set_option linter.unusedSimpArgs false
set_option maxRecDepth 100000
set_option maxHeartbeats 2000000
open Go.Lib (hid)
namespace Go.Proofs.YtbkhnilbgocpnaaGreatDoor.SynC
open Go.Proofs.YtbkhnilbgocpnaaGreatDoor.LexC
open Go Go.ChangeShapes Go.WideShapes Go.ChangeAt Go.RowKit Go.Deep
theorem ss_3 (o:Int) (x:List UInt8) (A:Option Addr) (m c:Nat) (B:Option Addr) (mb cb:Nat) (C:Option Addr) (mc cc:Nat) (w:World) (nb ne:Bool) (hb:mb=0↔nb=true) (he:mc=0↔ne=true) :
  SS 3 o x A m c B mb cb C mc cc w (u0u u0f 3 o x m nb ne):=by
 have h2:=u2v x
 obtain ⟨p,hp⟩:∃ p,(o == 0)=p:=⟨_,rfl⟩
 obtain ⟨q,hq⟩:∃ q,x.isEmpty=q:=⟨_,rfl⟩
 have key:u0u u0f 3 o x m nb ne=(p&&(q&&((m:Int) == 1))):=by
  rw [← hp,← hq]
  refine u3p ?_
  unfold u0u
  generalize x.isEmpty=u
  cases u <;> cases nb <;> cases ne <;> first | (simp; done) | (simp; omega)
 rw [key]
 clear key
 rw [hq] at h2
 clear hq
 unfold SS
 (cases p; rotate_left 1; cases q)
 all_goals
  (try simp only [reduceCtorEq,iff_true,iff_false] at hb)
  (try simp only [reduceCtorEq,iff_true,iff_false] at he)
  try subst hb
  try subst he
  go_enter Tryz.func164,Tryz.ntmps164
  go_wp2_with fail
  go_quiet (fail)
  go_wp2
  go_ret
  first | exact ⟨rfl,seq (u0j w _) (u1b _ _)⟩ | (refine ⟨?_,seq (u0j w _) (u1b _ _)⟩; simp; done)
theorem ss_4 (o:Int) (x:List UInt8) (A:Option Addr) (m c:Nat) (B:Option Addr) (mb cb:Nat) (C:Option Addr) (mc cc:Nat) (w:World) (nb ne:Bool) (hb:mb=0↔nb=true) (he:mc=0↔ne=true) :
  SS 4 o x A m c B mb cb C mc cc w (u0u u0f 4 o x m nb ne):=by
 have h2:=u2v x
 obtain ⟨p,hp⟩:∃ p,(o == 0)=p:=⟨_,rfl⟩
 obtain ⟨q,hq⟩:∃ q,x.isEmpty=q:=⟨_,rfl⟩
 have key:u0u u0f 4 o x m nb ne=(p&&(q&&(((m:Int) == 1)&&ne))):=by
  rw [← hp,← hq]
  refine u3p ?_
  unfold u0u
  generalize x.isEmpty=u
  cases u <;> cases nb <;> cases ne <;> first | (simp; done) | (simp; omega)
 rw [key]
 clear key
 rw [hq] at h2
 clear hq
 unfold SS
 (cases ne; rotate_left 1; cases p; rotate_left 1; cases q)
 all_goals
  (try simp only [reduceCtorEq,iff_true,iff_false] at hb)
  (try simp only [reduceCtorEq,iff_true,iff_false] at he)
  try subst hb
  try subst he
  go_enter Tryz.func164,Tryz.ntmps164
  go_wp2_with fail
  go_quiet (fail)
  go_wp2
  go_ret
  first | exact ⟨rfl,seq (u0j w _) (u1b _ _)⟩ | (refine ⟨?_,seq (u0j w _) (u1b _ _)⟩; simp; done)
theorem ss_5 (o:Int) (x:List UInt8) (A:Option Addr) (m c:Nat) (B:Option Addr) (mb cb:Nat) (C:Option Addr) (mc cc:Nat) (w:World) (nb ne:Bool) (hb:mb=0↔nb=true) (he:mc=0↔ne=true) :
  SS 5 o x A m c B mb cb C mc cc w (u0u u0f 5 o x m nb ne):=by
 have h2:=u2v x
 obtain ⟨p,hp⟩:∃ p,(o == 0)=p:=⟨_,rfl⟩
 obtain ⟨q,hq⟩:∃ q,x.isEmpty=q:=⟨_,rfl⟩
 have key:u0u u0f 5 o x m nb ne=(p&&(q&&(((m:Int) == 0)&&(nb&&ne)))):=by
  rw [← hp,← hq]
  refine u3p ?_
  unfold u0u
  generalize x.isEmpty=u
  cases u <;> cases nb <;> cases ne <;> first | (simp; done) | (simp; omega)
 rw [key]
 clear key
 rw [hq] at h2
 clear hq
 unfold SS
 (cases ne; rotate_left 1; cases nb; rotate_left 1; cases p; rotate_left 1; cases q)
 all_goals
  (try simp only [reduceCtorEq,iff_true,iff_false] at hb)
  (try simp only [reduceCtorEq,iff_true,iff_false] at he)
  try subst hb
  try subst he
  go_enter Tryz.func164,Tryz.ntmps164
  go_wp2_with fail
  go_quiet (fail)
  go_wp2
  go_ret
  first | exact ⟨rfl,seq (u0j w _) (u1b _ _)⟩ | (refine ⟨?_,seq (u0j w _) (u1b _ _)⟩; simp; done)
theorem ss_6 (o:Int) (x:List UInt8) (A:Option Addr) (m c:Nat) (B:Option Addr) (mb cb:Nat) (C:Option Addr) (mc cc:Nat) (w:World) (nb ne:Bool) (hb:mb=0↔nb=true) (he:mc=0↔ne=true) :
  SS 6 o x A m c B mb cb C mc cc w (u0u u0f 6 o x m nb ne):=by
 have h2:=u2v x
 obtain ⟨p,hp⟩:∃ p,(o == 0)=p:=⟨_,rfl⟩
 obtain ⟨q,hq⟩:∃ q,x.isEmpty=q:=⟨_,rfl⟩
 have key:u0u u0f 6 o x m nb ne=(p&&(q&&(((m:Int) == 0)&&(nb&&ne)))):=by
  rw [← hp,← hq]
  refine u3p ?_
  unfold u0u
  generalize x.isEmpty=u
  cases u <;> cases nb <;> cases ne <;> first | (simp; done) | (simp; omega)
 rw [key]
 clear key
 rw [hq] at h2
 clear hq
 unfold SS
 (cases ne; rotate_left 1; cases nb; rotate_left 1; cases p; rotate_left 1; cases q)
 all_goals
  (try simp only [reduceCtorEq,iff_true,iff_false] at hb)
  (try simp only [reduceCtorEq,iff_true,iff_false] at he)
  try subst hb
  try subst he
  go_enter Tryz.func164,Tryz.ntmps164
  go_wp2_with fail
  go_quiet (fail)
  go_wp2
  go_ret
  first | exact ⟨rfl,seq (u0j w _) (u1b _ _)⟩ | (refine ⟨?_,seq (u0j w _) (u1b _ _)⟩; simp; done)
theorem ss_8 (o:Int) (x:List UInt8) (A:Option Addr) (m c:Nat) (B:Option Addr) (mb cb:Nat) (C:Option Addr) (mc cc:Nat) (w:World) (nb ne:Bool) (hb:mb=0↔nb=true) (he:mc=0↔ne=true) :
  SS 8 o x A m c B mb cb C mc cc w (u0u u0f 8 o x m nb ne):=by
 have h2:=u2v x
 obtain ⟨p,hp⟩:∃ p,(o == 0)=p:=⟨_,rfl⟩
 obtain ⟨q,hq⟩:∃ q,x.isEmpty=q:=⟨_,rfl⟩
 have key:u0u u0f 8 o x m nb ne=(p&&(q&&(((m:Int) == 0)&&(nb&&ne)))):=by
  rw [← hp,← hq]
  refine u3p ?_
  unfold u0u
  generalize x.isEmpty=u
  cases u <;> cases nb <;> cases ne <;> first | (simp; done) | (simp; omega)
 rw [key]
 clear key
 rw [hq] at h2
 clear hq
 unfold SS
 (cases ne; rotate_left 1; cases nb; rotate_left 1; cases p; rotate_left 1; cases q)
 all_goals
  (try simp only [reduceCtorEq,iff_true,iff_false] at hb)
  (try simp only [reduceCtorEq,iff_true,iff_false] at he)
  try subst hb
  try subst he
  go_enter Tryz.func164,Tryz.ntmps164
  go_wp2_with fail
  go_quiet (fail)
  go_wp2
  go_ret
  first | exact ⟨rfl,seq (u0j w _) (u1b _ _)⟩ | (refine ⟨?_,seq (u0j w _) (u1b _ _)⟩; simp; done)
theorem ss_7 (o:Int) (x:List UInt8) (A:Option Addr) (m c:Nat) (B:Option Addr) (mb cb:Nat) (C:Option Addr) (mc cc:Nat) (hm:m≤1125899906842624) (w:World) (nb ne:Bool) (hb:mb=0↔nb=true) (he:mc=0↔ne=true) :
  SS 7 o x A m c B mb cb C mc cc w (u0u u0f 7 o x m nb ne):=by
 have h2:=u2v x
 obtain ⟨p,hp⟩:∃ p,(o == 0)=p:=⟨_,rfl⟩
 obtain ⟨q,hq⟩:∃ q,x.isEmpty=q:=⟨_,rfl⟩
 obtain ⟨s,hs⟩:∃ s,((m:Int) == min (m:Int) 1)=s:=⟨_,rfl⟩
 have key:u0u u0f 7 o x m nb ne=(p&&(q&&(s&&(nb&&ne)))):=by
  rw [← hp,← hq,← hs]
  refine u3p ?_
  unfold u0u
  generalize x.isEmpty=u
  cases u <;> cases nb <;> cases ne <;> first | (simp; done) | (simp; omega)
 rw [key]
 clear key
 rw [hq] at h2
 clear hq
 unfold SS
 (cases ne; rotate_left 1; cases nb; rotate_left 1; cases p; rotate_left 1; cases q)
 all_goals
  (try simp only [reduceCtorEq,iff_true,iff_false] at hb)
  (try simp only [reduceCtorEq,iff_true,iff_false] at he)
  try subst hb
  try subst he
  go_enter Tryz.func164,Tryz.ntmps164
  go_wp2_with fail
  go_quiet (fail)
  go_wp2
  go_ret
  first | exact ⟨rfl,seq (u0j w _) (u1b _ _)⟩ | (refine ⟨?_,seq (u0j w _) (u1b _ _)⟩; simp; done)
theorem ss_9 (o:Int) (x:List UInt8) (A:Option Addr) (m c:Nat) (B:Option Addr) (mb cb:Nat) (C:Option Addr) (mc cc:Nat) (hx:x.length≤maxLen) (w:World) (nb ne:Bool) (hb:mb=0↔nb=true) (he:mc=0↔ne=true) :
  SS 9 o x A m c B mb cb C mc cc w (u0u u0f 9 o x m nb ne):=by
 have h2:=u2v x
 obtain ⟨p,hp⟩:∃ p,u7a o=p:=⟨_,rfl⟩
 obtain ⟨q,hq⟩:∃ q,u0f x=q:=⟨_,rfl⟩
 have key:u0u u0f 9 o x m nb ne=(p&&(q&&(((m:Int) == 2)&&(nb&&ne)))):=by
  rw [← hp,← hq]
  refine u3p ?_
  unfold u0u
  generalize u0f x=u
  cases u <;> cases nb <;> cases ne <;> first | (simp; done) | (simp; omega)
 rw [key]
 clear key
 have HN:=hid (fun w'=>u5l x hx w')
 rw [hq] at HN
 have HF:=hid (fun w'=>ref_folds o w')
 rw [hp] at HF
 clear hq hp
 unfold SS
 (cases ne; rotate_left 1; cases nb; rotate_left 1; cases p; rotate_left 1; cases q)
 all_goals
  (try simp only [reduceCtorEq,iff_true,iff_false] at hb)
  (try simp only [reduceCtorEq,iff_true,iff_false] at he)
  try subst hb
  try subst he
  go_enter Tryz.func164,Tryz.ntmps164
  go_wp2_with fail
  go_quiet (fail)
  go_wp2_with fail
  go_region_held3 (fun w'=>w'.cell? ⟨w.heap.size,1,none⟩=some (.int .i64 o)∧w'.cell? ⟨w.heap.size,2,none⟩=some (.string (bs x))) (first | exact ⟨by simp,by simp⟩ | exact ⟨(qc 1).trans rfl,(qc 2).trans rfl⟩) ((first | (go_at_call 189; refine (HF.out _).mono ?_; rintro e w0 ⟨rfl,rfl⟩) | (go_at_call 37; refine (HN.out _).mono ?_; rintro e w1 ⟨rfl,hb1⟩; obtain ⟨qc,_,_,l1⟩:=u0a (q:=w.heap.size) (u0d hb1 (some (w.heap.size+10))) (by first | exact u3o (u0c _ _) | exact u3o (u3o (u0c _ _)) | exact u2d (u3o (u0c _ _))) (by omega))))
  all_goals
   have hB0:Below w.heap.size w w1:=seq (seq (u0j w _) (u1b _ _)) hb1
   have HB:=hid hB0
   have z0:=qc 0
   have z3:=qc 3
   have z4:=qc 4
   have z5:=qc 5
   clear hB0 hb1 qc
   go_wp2
   go_ret
   first | exact ⟨rfl,HB.out⟩ | (refine ⟨?_,HB.out⟩; simp; done)
theorem ss_10 (o:Int) (x:List UInt8) (A:Option Addr) (m c:Nat) (B:Option Addr) (mb cb:Nat) (C:Option Addr) (mc cc:Nat) (hx:x.length≤maxLen) (w:World) (nb ne:Bool) (hb:mb=0↔nb=true) (he:mc=0↔ne=true) :
  SS 10 o x A m c B mb cb C mc cc w (u0u u0f 10 o x m nb ne):=by
 have h2:=u2v x
 obtain ⟨p,hp⟩:∃ p,u7a o=p:=⟨_,rfl⟩
 obtain ⟨q,hq⟩:∃ q,u0f x=q:=⟨_,rfl⟩
 have key:u0u u0f 10 o x m nb ne=(p&&(q&&(((m:Int) == 1)&&(nb&&ne)))):=by
  rw [← hp,← hq]
  refine u3p ?_
  unfold u0u
  generalize u0f x=u
  cases u <;> cases nb <;> cases ne <;> first | (simp; done) | (simp; omega)
 rw [key]
 clear key
 have HN:=hid (fun w'=>u5l x hx w')
 rw [hq] at HN
 have HF:=hid (fun w'=>ref_folds o w')
 rw [hp] at HF
 clear hq hp
 unfold SS
 (cases ne; rotate_left 1; cases nb; rotate_left 1; cases p; rotate_left 1; cases q)
 all_goals
  (try simp only [reduceCtorEq,iff_true,iff_false] at hb)
  (try simp only [reduceCtorEq,iff_true,iff_false] at he)
  try subst hb
  try subst he
  go_enter Tryz.func164,Tryz.ntmps164
  go_wp2_with fail
  go_quiet (fail)
  go_wp2_with fail
  go_region_held3 (fun w'=>w'.cell? ⟨w.heap.size,1,none⟩=some (.int .i64 o)∧w'.cell? ⟨w.heap.size,2,none⟩=some (.string (bs x))) (first | exact ⟨by simp,by simp⟩ | exact ⟨(qc 1).trans rfl,(qc 2).trans rfl⟩) ((first | (go_at_call 189; refine (HF.out _).mono ?_; rintro e w0 ⟨rfl,rfl⟩) | (go_at_call 37; refine (HN.out _).mono ?_; rintro e w1 ⟨rfl,hb1⟩; obtain ⟨qc,_,_,l1⟩:=u0a (q:=w.heap.size) (u0d hb1 (some (w.heap.size+10))) (by first | exact u3o (u0c _ _) | exact u3o (u3o (u0c _ _)) | exact u2d (u3o (u0c _ _))) (by omega))))
  all_goals
   have hB0:Below w.heap.size w w1:=seq (seq (u0j w _) (u1b _ _)) hb1
   have HB:=hid hB0
   have z0:=qc 0
   have z3:=qc 3
   have z4:=qc 4
   have z5:=qc 5
   clear hB0 hb1 qc
   go_wp2
   go_ret
   first | exact ⟨rfl,HB.out⟩ | (refine ⟨?_,HB.out⟩; simp; done)
theorem ss_no (k o:Int) (x:List UInt8) (A:Option Addr) (m c:Nat) (B:Option Addr) (mb cb:Nat) (C:Option Addr) (mc cc:Nat) (w:World) (nb ne:Bool)
  (hk:k≠0∧k≠1∧k≠2∧k≠3∧k≠4∧k≠5∧k≠6∧k≠7∧k≠8∧k≠9∧k≠10):SS k o x A m c B mb cb C mc cc w (u0u u0f k o x m nb ne):=by
 obtain ⟨a0,a1,a2,a3,a4,a5,a6,a7,a8,a9,a10⟩:=hk
 have key:u0u u0f k o x m nb ne=false:=by
  unfold u0u
  rw [if_neg (by omega),if_neg a2,if_neg a3,if_neg a4,if_neg (by omega),if_neg a7,if_neg a9,if_neg a10]
 rw [key]
 have h2:=u2v x
 have e0:(k == 0)=false:=by simpa using a0
 have e1:(k == 1)=false:=by simpa using a1
 have e2:(k == 2)=false:=by simpa using a2
 have e3:(k == 3)=false:=by simpa using a3
 have e4:(k == 4)=false:=by simpa using a4
 have e5:(k == 5)=false:=by simpa using a5
 have e6:(k == 6)=false:=by simpa using a6
 have e7:(k == 7)=false:=by simpa using a7
 have e8:(k == 8)=false:=by simpa using a8
 have e9:(k == 9)=false:=by simpa using a9
 have e10:(k == 10)=false:=by simpa using a10
 unfold SS
 go_enter Tryz.func164,Tryz.ntmps164
 go_wp2_with fail
 go_quiet (fail)
 go_wp2
 go_ret
 exact ⟨rfl,seq (u0j w _) (u1b _ _)⟩
theorem shapeS_164 (k o:Int) (x:List UInt8) (A:Option Addr) (m c:Nat) (B:Option Addr) (cb:Nat) (C:Option Addr) (cc:Nat) (body els:List St) (hx:x.length≤maxLen) (hm:m≤1125899906842624) (w:World) :
  SS k o x A m c B body.length cb C els.length cc w (u0u u0f k o x m body.isEmpty els.isEmpty):=by
 have hb:body.length=0↔body.isEmpty=true:=by cases body <;> simp
 have he:els.length=0↔els.isEmpty=true:=by cases els <;> simp
 by_cases h:k≠0∧k≠1∧k≠2∧k≠3∧k≠4∧k≠5∧k≠6∧k≠7∧k≠8∧k≠9∧k≠10
 ·exact ss_no _ _ _ _ _ _ _ _ _ _ _ _ _ _ _ h
 have h:k=0∨k=1∨k=2∨k=3∨k=4∨k=5∨k=6∨k=7∨k=8∨k=9∨k=10:=by omega
 rcases h with rfl | rfl | rfl | rfl | rfl | rfl | rfl | rfl | rfl | rfl | rfl
 ·exact ss_0 _ _ _ _ _ _ _ _ _ _ _ hx _ _ _ hb he
 ·exact ss_1 _ _ _ _ _ _ _ _ _ _ _ hx _ _ _ hb he
 ·exact ss_2 _ _ _ _ _ _ _ _ _ _ _ hx _ _ _ hb he
 ·exact ss_3 _ _ _ _ _ _ _ _ _ _ _ _ _ _ hb he
 ·exact ss_4 _ _ _ _ _ _ _ _ _ _ _ _ _ _ hb he
 ·exact ss_5 _ _ _ _ _ _ _ _ _ _ _ _ _ _ hb he
 ·exact ss_6 _ _ _ _ _ _ _ _ _ _ _ _ _ _ hb he
 ·exact ss_7 _ _ _ _ _ _ _ _ _ _ _ hm _ _ _ hb he
 ·exact ss_8 _ _ _ _ _ _ _ _ _ _ _ _ _ _ hb he
 ·exact ss_9 _ _ _ _ _ _ _ _ _ _ _ hx _ _ _ hb he
 ·exact ss_10 _ _ _ _ _ _ _ _ _ _ _ hx _ _ _ hb he
end Go.Proofs.YtbkhnilbgocpnaaGreatDoor.SynC
