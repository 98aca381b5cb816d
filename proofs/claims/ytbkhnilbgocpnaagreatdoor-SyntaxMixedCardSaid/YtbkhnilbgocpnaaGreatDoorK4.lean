import Derived.Test.YtbkhnilbgocpnaaGreatDoorK1
import Derived.Test.YtbkhnilbgocpnaaGreatDoorK0
set_option linter.unusedVariables false
set_option linter.unusedSimpArgs false
set_option maxRecDepth 100000
set_option maxHeartbeats 2000000
namespace Go.Proofs.YtbkhnilbgocpnaaGreatDoor.SynC
def hit (s:List UInt8) (l:List K):Bool:=match l with | t :: _=>isS s t | []=>false
theorem hit_cons {s:List UInt8} {l:List K} (h:hit s l=true):∃ n r,l=(2,s,n) :: r:=by
 cases l with
 | nil=>cases h
 | cons t r =>
  obtain ⟨k,x,n⟩:=t
  simp only [hit,isS,Bool.and_eq_true,beq_iff_eq] at h
  obtain ⟨rfl,rfl⟩:=h
  exact ⟨n,r,rfl⟩
def pairR (op:Int) (l:List K):Res Ex :=
 need [40] l fun r1=>(PE (.ex 1) r1).bind fun a r2=>need [44] r2 fun r3=>(PE (.ex 1) r3).bind fun b r4=>need [41] r4 fun r5=>.ok (.mk 4 op 0 [] [a,b]) r5
def parenR (l:List K):Res Ex:=(PE (.ex 1) l).bind fun e r2=>need [41] r2 fun r3=>.ok e r3
theorem prim_int {x:List UInt8} {n:Int} {r:List K}:PE .prim ((1,x,n) :: r)=.ok (.mk 0 0 n [] []) r:=by rw [u2j]; rfl
theorem prim_name {x:List UInt8} {n:Int} {r:List K}:PE .prim ((0,x,n) :: r)=PE (.named x) r:=by rw [u2j]; rfl
theorem prim_paren {n:Int} {r:List K}:PE .prim ((2,[40],n) :: r)=parenR r:=by rw [u2j]; rfl
theorem prim_min {n:Int} {r:List K}:PE .prim ((2,[109,105,110],n) :: r)=pairR 18 r:=by rw [u2j]; rfl
theorem prim_max {n:Int} {r:List K}:PE .prim ((2,[109,97,120],n) :: r)=pairR 19 r:=by rw [u2j]; rfl
def spL:List (List UInt8):=[[116,105,100],[98,105,100],[100,105,109],[103,114,105,100]]
theorem prim_sp (k:Nat) (hk:k<4) {n:Int} {r:List K}:PE .prim ((2,spL.getD k [],n) :: r)=.ok (.mk 2 k 0 [] []) r:=by
 rw [u2j]
 have:k=0∨k=1∨k=2∨k=3:=by omega
 rcases this with rfl | rfl | rfl | rfl <;> rfl
theorem u5n {s:List UInt8}:∀ L:List (List UInt8 × Int),(∀ x∈L,x.1≠s)→L.lookup s=none
 | [],_=>rfl
 | x :: L,h=>by
  rw [List.lookup_cons,beq_false_of_ne (fun e=>h x (by simp) e.symm)]
  exact u5n L fun y hy=>h y (by simp [hy])
theorem u4r {s x:List UInt8} {n:Int} {r:List K} (h:hit s ((2,x,n) :: r)=false):s≠x:=by
 rintro rfl
 simp [hit,isS] at h
theorem prim_nil:PE .prim []=.no []:=by rw [u2j]; rfl
theorem prim_no {x:List UInt8} {n:Int} {r:List K} (h0:hit [40] ((2,x,n) :: r)=false) (h1:hit [109,105,110] ((2,x,n) :: r)=false) (h2:hit [109,97,120] ((2,x,n) :: r)=false)
  (h3:∀ k,k<4→hit (spL.getD k []) ((2,x,n) :: r)=false):PE .prim ((2,x,n) :: r)=.no ((2,x,n) :: r):=by
 have e1:mmOf (2,x,n)=none:=u5n _ (by
  intro y hy; simp at hy
  rcases hy with rfl | rfl
  ·exact u4r h1
  ·exact u4r h2)
 have e2:spOf (2,x,n)=none:=u5n _ (by
  intro y hy; simp at hy
  rcases hy with rfl | rfl | rfl | rfl
  ·exact u4r (h3 0 (by omega))
  ·exact u4r (h3 1 (by omega))
  ·exact u4r (h3 2 (by omega))
  ·exact u4r (h3 3 (by omega)))
 rw [u2j]
 simp only [step,e1,e2]
 unfold need
 simp only [hit] at h0
 simp [h0]
def unL:List (List UInt8):=[[45],[126],[33]]
theorem un_hit (k:Nat) (hk:k<3) {n:Int} {r:List K}:PE .un ((2,unL.getD k [],n) :: r)=(PE .un r).bind fun a q=>.ok (.mk 3 k 0 [] [a]) q:=by
 rw [u2j]
 have:k=0∨k=1∨k=2:=by omega
 rcases this with rfl | rfl | rfl <;> rfl
theorem un_no {l:List K} (h:∀ k,k<3→hit (unL.getD k []) l=false):PE .un l=PE .prim l:=by
 rw [u2j]
 cases l with
 | nil=>rfl
 | cons t r =>
  obtain ⟨k,x,n⟩:=t
  have e:unOf (k,x,n)=none:=by
   unfold unOf
   split
   ·rename_i hk
    have hk:k=2:=by simpa using hk
    subst hk
    refine u5n _ ?_
    intro y hy; simp at hy
    rcases hy with rfl | rfl | rfl
    ·exact u4r (h 0 (by omega))
    ·exact u4r (h 1 (by omega))
    ·exact u4r (h 2 (by omega))
   ·rfl
  simp only [step,e]
theorem named_idx {x:List UInt8} {n:Int} {r:List K}:PE (.named x) ((2,[91],n) :: r)=(PE (.ex 1) r).bind fun e r2=>need [93] r2 fun r3=>.ok (.mk 5 0 0 x [e]) r3:=by rw [u2j]; rfl
theorem named_plain {x:List UInt8} {l:List K} (h1:hit [91] l=false) (h2:hit [40] l=false):PE (.named x) l=.ok (.mk 1 0 0 x []) l:=by
 rw [u2j]
 cases l with
 | nil=>rfl
 | cons t r=>simp only [hit] at h1 h2; simp [step,h1,h2]
def itemR (x:List UInt8) (kids:List Ex) (l:List K):Res Ex:=(PE (.ex 1) l).bind fun e r2=>PE (.args x (kids++[e])) r2
theorem named_call0 {x:List UInt8} {n m:Int} {r:List K}:PE (.named x) ((2,[40],n) :: (2,[41],m) :: r)=.ok (.mk 6 0 0 x []) r:=by rw [u2j]; rfl
theorem named_call {x:List UInt8} {n:Int} {l:List K} (h:hit [41] l=false):PE (.named x) ((2,[40],n) :: l)=itemR x [] l:=by
 rw [u2j]
 cases l with
 | nil=>rfl
 | cons t r =>
  simp only [hit] at h
  show step PE (.named x) ((2,[40],n) :: t :: r)=_
  simp only [step]
  rw [if_neg (by simp [isS]),if_pos (by simp [isS]),h]
  rfl
theorem args_end {x:List UInt8} {kids:List Ex} {n:Int} {r:List K}:PE (.args x kids) ((2,[41],n) :: r)=.ok (.mk 6 0 0 x kids) r:=by rw [u2j]; rfl
theorem args_more {x:List UInt8} {kids:List Ex} {n:Int} {r:List K}:PE (.args x kids) ((2,[44],n) :: r)=itemR x kids r:=by rw [u2j]; rfl
theorem args_no {x:List UInt8} {kids:List Ex} {l:List K} (h1:hit [41] l=false) (h2:hit [44] l=false):PE (.args x kids) l=.no l:=by
 rw [u2j]
 cases l with
 | nil=>rfl
 | cons t r=>simp only [hit] at h1 h2; simp [step,h1,h2]
def u3j (s:List UInt8) (l:List K):Res Unit:=need s l fun r=>.ok () r
theorem u0s {β:Type} (s:List UInt8) (l:List K) (f:List K→Res β):need s l f=(u3j s l).bind fun _ r=>f r:=by
 cases l with
 | nil=>rfl
 | cons t r=>unfold u3j need; simp only; split <;> rfl
def needN' (l:List K):Res (List UInt8):=u3t l fun x r=>.ok x r
theorem u0w {β:Type} (l:List K) (f:List UInt8→List K→Res β):u3t l f=(needN' l).bind f:=by
 cases l with
 | nil=>rfl
 | cons t r=>unfold needN' u3t; simp only; split <;> rfl
def needI' (l:List K):Res Int:=needI l fun x r=>.ok x r
theorem need_I {β:Type} (l:List K) (f:Int→List K→Res β):needI l f=(needI' l).bind f:=by
 cases l with
 | nil=>rfl
 | cons t r=>unfold needI' needI; simp only; split <;> rfl
def needF' (l:List K):Res Int:=needF l fun x r=>.ok x r
theorem need_F {β:Type} (l:List K) (f:Int→List K→Res β):needF l f=(needF' l).bind f:=by
 cases l with
 | nil=>rfl
 | cons t r =>
  unfold needF' needF
  simp only
  split <;> rfl
def singR (l:List K):Res (List Ex):=(PE (.ex 1) l).bind fun e r=>.ok [e] r
def cellR (s:List UInt8) (l:List K):Res (List Ex) :=
 (u3j [91] l).bind fun _ r1=>(PE (.ex 1) r1).bind fun a r2=>(u3j [93] r2).bind fun _ r3=>(u3j s r3).bind fun _ r4=>(PE (.ex 1) r4).bind fun b r5=>.ok [a,b] r5
def letR (l:List K):Res St:=(needN' l).bind fun x r1=>(u3j [61] r1).bind fun _ r2=>(singR r2).bind fun e r3=>.ok (.mk 0 0 x e [] []) r3
def retR (l:List K):Res St:=if hit [59] l then .ok (.mk 7 0 [] [] [] []) l else (singR l).bind fun e r=>.ok (.mk 7 0 [] e [] []) r
def atomR (l:List K):Res St:=(needF' l).bind fun op r1=>(needN' r1).bind fun x r2=>(cellR [44] r2).bind fun e r3=>.ok (.mk 9 op x e [] []) r3
def colR (l:List K):Res St:=(needN' l).bind fun x r1=>(u3j [61] r1).bind fun _ r2=>(needF' r2).bind fun op r3=>(singR r3).bind fun e r4=>.ok (.mk 10 op x e [] []) r4
def putR (x:List UInt8) (l:List K):Res St:=(cellR [61] l).bind fun e r2=>.ok (.mk 2 0 x e [] []) r2
def setR (x:List UInt8) (l:List K):Res St:=(u3j [61] l).bind fun _ r2=>(singR r2).bind fun e r3=>.ok (.mk 1 0 x e [] []) r3
def asgR (l:List K):Res St:=(needN' l).bind fun x r1=>if hit [91] r1 then putR x r1 else setR x r1
def smpR (l:List K):Res St :=
 if hit wLet l then letR (l.drop 1) else if hit wBreak l then .ok (.mk 5 0 [] [] [] []) (l.drop 1) else if hit u5s l then .ok (.mk 6 0 [] [] [] []) (l.drop 1)
 else if hit u6l l then retR (l.drop 1) else if hit u6x l then .ok (.mk 8 0 [] [] [] []) (l.drop 1) else if hit wAtomic l then atomR (l.drop 1)
 else if hit u6w l then colR (l.drop 1) else asgR l
def u6q (l:List K):Res (List St):=(u3j [123] l).bind fun _ r=>PR r
def branR (l:List K):Res St:=(singR l).bind fun e r1=>(u6q r1).bind fun b r2=>if hit wElse r2 then (u6q (r2.drop 1)).bind fun c r3=>.ok (.mk 3 0 [] e b c) r3 else .ok (.mk 3 0 [] e b []) r2
def loopR (l:List K):Res St:=(singR l).bind fun e r1=>(u6q r1).bind fun b r2=>.ok (.mk 4 0 [] e b []) r2
def endR (l:List K):Res St:=(smpR l).bind fun s r=>(u3j [59] r).bind fun _ q=>.ok s q
def stmtR (l:List K):Res St:=if hit wIf l then branR (l.drop 1) else if hit wWhile l then loopR (l.drop 1) else endR l
theorem u4i {α β:Type} (a:α) (r:List K) (f:α→List K→Res β):(Res.ok a r).bind f=f a r:=rfl
theorem no_bind {α β:Type} (r:List K) (f:α→List K→Res β):(Res.no r:Res α).bind f=.no r:=rfl
theorem else_eq (e:Ex) (b:List St) (l:List K):elseP PR e b l=if hit wElse l then (u6q (l.drop 1)).bind fun c r3=>.ok (.mk 3 0 [] [e] b c) r3 else .ok (.mk 3 0 [] [e] b []) l:=by
 cases l with
 | nil=>rfl
 | cons t r =>
  show (if isS wElse t then _ else _)=if isS wElse t then _ else _
  split
  ·rw [u0s]; unfold u6q; rw [u1s]; rfl
  ·rfl
theorem ret_eq (r:List K):retP r=(retR r).bind fun s r=>(u3j [59] r).bind fun _ q=>.ok s q:=by
 cases r with
 | nil=>unfold retP retR; rw [if_neg (by decide)]; unfold singR; rw [u2j]; rfl
 | cons t r =>
  unfold retP retR
  show (if isS [59] t then _ else _)=Res.bind (if isS [59] t then _ else _) _
  cases h:isS [59] t
  ·simp only [Bool.false_eq_true,if_false,singR,u1s,u4i,u3u,u0s]
  ·simp only [if_true,u4i]
   unfold u3j need; simp only [h,if_true]; rfl
theorem nam_eq (x:List UInt8) (r:List K):namP x r=(if hit [91] r then putR x r else setR x r).bind fun s r=>(u3j [59] r).bind fun _ q=>.ok s q:=by
 cases r with
 | nil=>rfl
 | cons t r =>
  unfold namP
  show (if isS [91] t then _ else _)=Res.bind (if isS [91] t then _ else _) _
  cases h:isS [91] t
  ·simp only [Bool.false_eq_true,if_false,setR,singR,u1s,u4i,u3u,u0s]
  ·simp only [if_true,putR,cellR,u1s,u4i,u3u,u0s]
   unfold u3j need; simp only [h,if_true]; rfl
theorem stmt_eq (t:K) (r:List K):stmtR (t :: r)=u5k PR t r:=by
 unfold stmtR u5k endR smpR
 simp only [hit,List.drop_one,List.tail_cons]
 split
 ·unfold branR singR
  simp only [u1s,u4i,u3u,u0s,u6q,else_eq]
 ·split
  ·unfold loopR singR
   simp only [u1s,u4i,u3u,u0s,u6q]
  ·split
   ·simp only [letR,singR,u1s,u4i,u3u,u0s,u0w]
   ·split
    ·simp only [u4i,u0s]
    ·split
     ·simp only [u4i,u0s]
     ·split
      ·rw [ret_eq]
      ·split
       ·simp only [u4i,u0s]
       ·split
        ·simp only [atomR,cellR,u1s,u4i,u3u,u0s,u0w,need_F]
        ·split
         ·simp only [colR,singR,u1s,u4i,u3u,u0s,u0w,need_F]
         ·simp only [asgR,u1s,u0w,nam_eq]
theorem stmt_nil:stmtR []=.no []:=rfl
theorem PR_step (l:List K):PR l=if hit [125] l then .ok [] (l.drop 1) else (stmtR l).bind fun s q=>(PR q).bind fun ss q2=>.ok (s :: ss) q2:=by
 rw [PR_eq]
 cases l with
 | nil=>rfl
 | cons t r =>
  show (if isS [125] t then _ else _)=if isS [125] t then _ else _
  rw [stmt_eq]; rfl
def moreR {α:Type} (one:List K→Res α) (l:List K):Res (List α):=moreP one (l.length+1) l
theorem moreR_step {α:Type} {one:List K→Res α} (h:LenO one) (l:List K):moreR one l =
  if hit [44] l then (one (l.drop 1)).bind fun a q=>(moreR one q).bind fun as q2=>.ok (a :: as) q2 else if hit [41] l then .ok [] (l.drop 1) else .no l:=by
 cases l with
 | nil=>rfl
 | cons t r =>
  show (if isS [44] t then _ else _)=if isS [44] t then _ else _
  split
  ·refine u1l fun a q e=>?_
   have:q.length+1≤r.length:=h _ _ _ e
   rw [show moreP one (t :: r).length q=moreR one q from moreP_stable h _ _ q (by simp only [List.length_cons]; omega) (by omega)]
  ·rfl
def u7o {α:Type} (one:List K→Res α) (l:List K):Res (List α):=(one l).bind fun a q=>(moreR one q).bind fun as q2=>.ok (a :: as) q2
def listO {α:Type} (one:List K→Res α) (l:List K):Res (List α):=(u3j [40] l).bind fun _ r=>if hit [41] r then .ok [] (r.drop 1) else u7o one r
theorem list_eq {α:Type} {one:List K→Res α} (h0:one []=.no []) (l:List K):listP one l=listO one l:=by
 unfold listP listO
 rw [u0s]
 congr 1
 funext _ r
 cases r with
 | nil=>simp only [hit,u7o,h0]; rfl
 | cons t q=>rfl
def sharedR (l:List K):Res (List (List UInt8 × Int)):=u3e (l.length+1) l
def arrR (l:List K):Res (List UInt8 × Int):=(u3j u3o l).bind fun _ r0=>(needN' r0).bind fun x r1=>(u3j [91] r1).bind fun _ r2=>(needI' r2).bind fun n r3=>(u3j [93] r3).bind fun _ r4=>(u3j [59] r4).bind fun _ r5=>.ok (x,n) r5
theorem lenS {s:List UInt8} {l r:List K} {u:Unit} (h:u3j s l=.ok u r):r.length<l.length:=by
 obtain ⟨t,r',e,_,h⟩:=u1b h
 cases h; rw [e]; simp
theorem lenN {l r:List K} {u:List UInt8} (h:needN' l=.ok u r):r.length<l.length:=by
 obtain ⟨t,r',e,_,h⟩:=u3f h
 cases h; rw [e]; simp
theorem lenI {l r:List K} {u:Int} (h:needI' l=.ok u r):r.length<l.length:=by
 obtain ⟨t,r',e,_,h⟩:=needI_ok h
 cases h; rw [e]; simp
theorem sharedR_step (l:List K):sharedR l=if hit u3o l then (arrR l).bind fun a r=>(sharedR r).bind fun as r2=>.ok (a :: as) r2 else .ok [] l:=by
 cases l with
 | nil=>rfl
 | cons t r =>
  show (if isS u3o t then _ else _)=if isS u3o t then _ else _
  cases h:isS u3o t
  ·rfl
  ·simp only [if_true]
   have e:u3j u3o (t :: r)=.ok () r:=by unfold u3j need; simp only [h,if_true]
   simp only [arrR,e,u4i,u1s,u0s,u0w,need_I]
   refine u1l fun x r1 h1=>u1l fun _ r2 h2=>u1l fun n r3 h3=>u1l fun _ r4 h4=>u1l fun _ r5 h5=>?_
   have h1:=lenN h1
   have h2:=lenS h2
   have h3:=lenI h3
   have h4:=lenS h4
   have h5:=lenS h5
   rw [show u3e (t :: r).length r5=sharedR r5 from sharedP_stable _ _ _ (by simp only [List.length_cons]; omega) (by omega)]
def fnR (l:List K):Res It:=(u3j wFunc l).bind fun _ r=>(needN' r).bind fun x r1=>(listO nameO r1).bind fun ps r2=>(u6q r2).bind fun b r4=>.ok (.fn x ps b) r4
def kerR (l:List K):Res It:=(u3j u7u l).bind fun _ r=>(needN' r).bind fun x r1=>(listO u4h r1).bind fun ps r2=>(u3j [123] r2).bind fun _ r3=>(sharedR r3).bind fun sh r5=>(PR r5).bind fun b r6=>.ok (.ker x ps sh b) r6
theorem item_eq (l:List K):u8a l=if hit wFunc l then fnR l else kerR l:=by
 cases l with
 | nil=>rfl
 | cons t r =>
  show (if isS wFunc t then _ else _)=if isS wFunc t then _ else _
  cases h:isS wFunc t
  ·simp only [Bool.false_eq_true,if_false,kerR,u0s,u0w,list_eq (one:=u4h) rfl]
   rfl
  ·simp only [if_true]
   have e:u3j wFunc (t :: r)=.ok () r:=by unfold u3j need; simp only [h,if_true]
   simp only [fnR,e,u4i,u0s,u0w,list_eq (one:=nameO) rfl,u6q,u1s]
theorem PP_step (l:List K):PP l=if l.isEmpty then .ok [] [] else (u8a l).bind fun i q=>(PP q).bind fun is q2=>.ok (i :: is) q2:=by
 cases l with
 | nil=>rfl
 | cons t r=>rw [PP_cons]; rfl
def parR (l:List K):Res (List UInt8 × Bool):=if hit wBuffer l then (needN' (l.drop 1)).bind fun x q=>.ok (x,true) q else (u3j wInt l).bind fun _ r=>(needN' r).bind fun x q=>.ok (x,false) q
theorem par_eq (l:List K):u4h l=parR l:=by
 cases l with
 | nil=>rfl
 | cons t r =>
  show (if isS wBuffer t then _ else _)=if isS wBuffer t then _ else _
  split
  ·rw [u0w]; rfl
  ·rw [u0s]; simp only [u0w]
end Go.Proofs.YtbkhnilbgocpnaaGreatDoor.SynC
namespace Go.Proofs.YtbkhnilbgocpnaaGreatDoor.LexC
def askedL:List (List UInt8):=u3h++wordsL
theorem asked_head:∀ s∈u3h,∀ c r,s=c :: r→letB c=false∧digB c=false:=by
 have:∀ s∈u3h,letB (s.headD 0)=false∧digB (s.headD 0)=false:=by decide
 intro s hs c r e
 have:=this s hs
 rw [e] at this; exact this
theorem word_head:∀ s∈wordsL,∀ c r,s=c :: r→digB c=false:=by
 have:∀ s∈wordsL,digB (s.headD 0)=false:=by decide
 intro s hs c r e
 have:=this s hs
 rw [e] at this; exact this
theorem valAcc_le:∀ (l:List UInt8) (a v:Int),(∀ c∈l,digB c=true)→0≤a→a≤2147483648→u2y a l=some v→0≤v∧v≤2147483648
 | [],a,v,_,h0,h,e=>by cases e; exact ⟨h0,h⟩
 | c :: r,a,v,hd,h0,h,e=>by
  unfold u2y at e
  split at e
  ·cases e
  ·have hc:=hd c (by simp)
   unfold digB digN at hc
   simp only [decide_eq_true_eq] at hc
   exact valAcc_le r _ v (fun d hd'=>hd d (by simp [hd'])) (by omega) (by omega) e
theorem sc_wf {l:List UInt8} {i:Nat}:∀ t∈(sc l i).1,(t.kind=0∨t.kind=1∨t.kind=2)∧t.text≠[]∧(t.kind≠2→∀ s∈askedL,t.text≠s)∧(t.kind≠1→t.num=0)∧(-2147483648≤t.num∧t.num≤2147483647):=by
 intro t ht
 have hg:=sc_good (l:=l) (i:=i) rfl t ht
 have h:=hg.2 [] (by simp [Sep])
 rw [List.append_nil] at h
 obtain ⟨c0,r0,e0,_,_⟩:=hg.1
 rcases u6f h with ⟨c,r,e,hl,_,hn,hk⟩ | ⟨c,r,v,e,hl,hd,htx,hk,hv,hn,_⟩ | ⟨c,r,e,hl,hd,_,hk,hn⟩
 ·simp only at hn hk
  have hcc:c0=c:=by rw [e0] at e; injection e
  refine ⟨?_,by rw [e0]; simp,?_,fun _=>hn,by rw [hn]; decide⟩
  ·rcases hk with ⟨_,hk⟩ | ⟨_,_,hk⟩
   ·exact .inr (.inr hk)
   ·exact .inl hk
  ·intro h2 s hs e2
   rcases hk with ⟨_,hk⟩ | ⟨hw,_,_⟩
   ·exact h2 hk
   ·rcases List.mem_append.1 hs with hs | hs
    ·have:=asked_head s hs c0 r0 (by rw [← e2]; exact e0)
     rw [hcc,hl] at this
     exact absurd this.1 (by decide)
    ·have hw':u4x t.text=false:=hw
     unfold u4x at hw'
     have:wordsL.contains t.text=true:=by rw [e2]; exact List.contains_iff_mem.2 hs
     rw [this] at hw'; cases hw'
 ·simp only at hn hk
  have hcc:c0=c:=by rw [e0] at e; injection e
  refine ⟨.inr (.inl hk),by rw [e0]; simp,?_,fun h1=>absurd hk h1,?_⟩
  ·intro _ s hs e2
   rcases List.mem_append.1 hs with hs | hs
   ·have:=(asked_head s hs c0 r0 (by rw [← e2]; exact e0)).2
    rw [hcc,hd] at this; cases this
   ·have:=word_head s hs c0 r0 (by rw [← e2]; exact e0)
    rw [hcc,hd] at this; cases this
  ·have hb:=valAcc_le t.text 0 v (fun c hc=>by
    have htx':t.text=t.text.takeWhile digB:=htx
    rw [htx'] at hc
    exact u4e c hc) (by omega) (by omega) hv
   rw [hn]; unfold wrap32; split <;> omega
 ·simp only at hn hk
  exact ⟨.inr (.inr hk),by rw [e0]; simp,fun h2=>absurd hk h2,fun _=>hn,by rw [hn]; decide⟩
theorem scan_count:∀ (n:Nat) (l:List UInt8) (i:Nat),(scan n l i).1.length≤l.length
 | 0,_,_=>by simp [scan]
 | _+1,[],_=>by simp [scan]
 | n+1,c :: r,i=>by
  unfold scan
  split
  ·have:=scan_count n ((c :: r).drop (cnt noE (c :: r))) (i+cnt noE (c :: r))
   simp only [List.length_drop] at this; omega
  ·split
   ·have:=scan_count n r (i+1)
    simp only [List.length_cons]; omega
   ·split
    ·simp
    ·rename_i t ht
     have h1:=u5i ht
     have h2:=scan_count n ((c :: r).drop t.text.length) (i+t.text.length)
     simp only [List.length_cons,List.length_drop] at *
     omega
theorem sc_count (l:List UInt8) (i:Nat):(sc l i).1.length≤l.length:=scan_count _ _ _
end Go.Proofs.YtbkhnilbgocpnaaGreatDoor.LexC
