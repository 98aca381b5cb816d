import Derived.BigQuiet
import Derived.Deep.RegionHeld3
import Derived.Handy
import Derived.Test.YtbkhnilbgocpnaaGreatDoorY26
import Derived.Test.YtbkhnilbgocpnaaGreatDoorY22
import Derived.Test.YtbkhnilbgocpnaaGreatDoorY5
import Derived.Test.YtbkhnilbgocpnaaGreatDoorY1
set_option linter.unusedVariables false
set_option linter.unusedSimpArgs false
set_option maxRecDepth 100000
set_option maxHeartbeats 2000000
open Go.Lib (hid)
namespace Go.Proofs.YtbkhnilbgocpnaaGreatDoor.SynC
open Go.Proofs.YtbkhnilbgocpnaaGreatDoor.LexC
open Go Go.ChangeShapes Go.WideShapes Go.ChangeAt Go.RowKit Go.Deep
theorem u3o {w:World} {n k:Nat} {x:Option Obj} (h:w.heap[n]? = x):(w.drewN k).heap[n]? = x:=h
theorem u1b (w:World) (n:Nat):Below w.heap.size w (w.drewN n):=u2w (Below.refl _ _) n
theorem u5l (x:List UInt8) (hx:x.length≤maxLen) (w:World):Calls Tryz.prog 37 #[.string (bs x)] w fun e w'=>e=.returned (.bool (u0f x))∧Below w.heap.size w w':=by
 have:=refName_any (bs x) (by rw [u3t]; exact hx) w
 rwa [u3g] at this
theorem ref_un (k:Int) (w:World):Calls Tryz.prog 168 #[.int .i64 k] w fun e w'=>e=.returned (.bool (decide (0≤k∧k<3)))∧w'=w:=by
 by_cases h0:0≤k
 ·have e:decide (0≤k∧k<3)=decide (k<3):=by simp [h0]
  rw [e]
  go_enter Tryz.func168,Tryz.ntmps168
  go_wp2
  go_ret
  first | exact ⟨rfl,rfl⟩ | (simp; done)
 ·have e:decide (0≤k∧k<3)=false:=by simp [h0]
  rw [e]
  go_enter Tryz.func168,Tryz.ntmps168
  go_wp2
  go_ret
  first | exact ⟨rfl,rfl⟩ | (simp; done)
theorem ref_bin (k:Int) (w:World):Calls Tryz.prog 169 #[.int .i64 k] w fun e w'=>e=.returned (.bool (decide (0≤k∧k<20)))∧w'=w:=by
 by_cases h0:0≤k
 ·have e:decide (0≤k∧k<20)=decide (k<20):=by simp [h0]
  rw [e]
  go_enter Tryz.func169,Tryz.ntmps169
  go_wp2
  go_ret
  first | exact ⟨rfl,rfl⟩ | (simp; done)
 ·have e:decide (0≤k∧k<20)=false:=by simp [h0]
  rw [e]
  go_enter Tryz.func169,Tryz.ntmps169
  go_wp2
  go_ret
  first | exact ⟨rfl,rfl⟩ | (simp; done)
theorem shape_k0 (o n:Int) (x:List UInt8) (A:Option Addr) (m c:Nat) (hx:x.length≤maxLen) (hn:-2147483648≤n∧n≤2147483647) (w:World) :
  Calls Tryz.prog 114 #[.agg #[.int .i64 0,.int .i64 o,.int .i32 n,.string (bs x),.slice A m c]] w fun e w'=>e=.returned (.bool (u1h u0f 0 o n x m))∧Below w.heap.size w w':=by
 have h2:=u2v x
 obtain ⟨p,hp⟩:∃ p,(o == 0)=p:=⟨_,rfl⟩
 obtain ⟨q,hq⟩:∃ q,x.isEmpty=q:=⟨_,rfl⟩
 obtain ⟨r,hr⟩:∃ r,(decide (0≤n) || n == -2147483648)=r:=⟨_,rfl⟩
 have key:u1h u0f 0 o n x m=(p&&(q&&(r&&((m:Int) == 0)))):=by
  rw [← hp,← hq,← hr]
  refine u3p ?_
  unfold u1h
  generalize u0f x=u
  generalize x.isEmpty=v
  cases u <;> cases v <;> first | (simp; done) | (simp; omega)
 rw [key]
 have g1:decide (0≤n)=true∨(decide (0≤n)=false∧(n == -2147483648)=r):=by
  cases h:decide (0≤n)
  ·rw [h] at hr; exact .inr ⟨rfl,by simpa using hr⟩
  ·exact .inl rfl
 have g2:decide (0≤n)=true→r=true:=fun h=>by rw [← hr,h]; rfl
 rcases g1 with g1 | ⟨g1,g3⟩
 ·have:=g2 g1
  subst this
  clear g2
  cases p
  ·go_enter Tryz.func114,Tryz.ntmps114
   go_wp2_with fail
   go_quiet (fail)
   go_wp2
   go_ret
   first | exact ⟨rfl,seq (u0j w _) (u1b _ _)⟩ | (refine ⟨?_,seq (u0j w _) (u1b _ _)⟩; simp; done)
  cases q
  ·go_enter Tryz.func114,Tryz.ntmps114
   go_wp2_with fail
   go_quiet (fail)
   go_wp2
   go_ret
   first | exact ⟨rfl,seq (u0j w _) (u1b _ _)⟩ | (refine ⟨?_,seq (u0j w _) (u1b _ _)⟩; simp; done)
  go_enter Tryz.func114,Tryz.ntmps114
  go_wp2_with fail
  go_quiet (fail)
  go_wp2
  go_ret
  first | exact ⟨rfl,seq (u0j w _) (u1b _ _)⟩ | (refine ⟨?_,seq (u0j w _) (u1b _ _)⟩; simp; done)
 clear g2
 cases p
 ·go_enter Tryz.func114,Tryz.ntmps114
  go_wp2_with fail
  go_quiet (fail)
  go_wp2
  go_ret
  first | exact ⟨rfl,seq (u0j w _) (u1b _ _)⟩ | (refine ⟨?_,seq (u0j w _) (u1b _ _)⟩; simp; done)
 cases q
 ·go_enter Tryz.func114,Tryz.ntmps114
  go_wp2_with fail
  go_quiet (fail)
  go_wp2
  go_ret
  first | exact ⟨rfl,seq (u0j w _) (u1b _ _)⟩ | (refine ⟨?_,seq (u0j w _) (u1b _ _)⟩; simp; done)
 cases r
 ·go_enter Tryz.func114,Tryz.ntmps114
  go_wp2_with fail
  go_quiet (fail)
  go_wp2
  go_ret
  first | exact ⟨rfl,seq (u0j w _) (u1b _ _)⟩ | (refine ⟨?_,seq (u0j w _) (u1b _ _)⟩; simp; done)
 go_enter Tryz.func114,Tryz.ntmps114
 go_wp2_with fail
 go_quiet (fail)
 go_wp2
 go_ret
 first | exact ⟨rfl,seq (u0j w _) (u1b _ _)⟩ | (refine ⟨?_,seq (u0j w _) (u1b _ _)⟩; simp; done)
theorem shape_k1 (o n:Int) (x:List UInt8) (A:Option Addr) (m c:Nat) (hx:x.length≤maxLen) (hn:-2147483648≤n∧n≤2147483647) (w:World) :
  Calls Tryz.prog 114 #[.agg #[.int .i64 1,.int .i64 o,.int .i32 n,.string (bs x),.slice A m c]] w fun e w'=>e=.returned (.bool (u1h u0f 1 o n x m))∧Below w.heap.size w w':=by
 have h2:=u2v x
 obtain ⟨p,hp⟩:∃ p,(o == 0)=p:=⟨_,rfl⟩
 obtain ⟨q,hq⟩:∃ q,u0f x=q:=⟨_,rfl⟩
 obtain ⟨r,hr⟩:∃ r,(n == 0)=r:=⟨_,rfl⟩
 have key:u1h u0f 1 o n x m=(p&&(q&&(r&&((m:Int) == 0)))):=by
  rw [← hp,← hq,← hr]
  refine u3p ?_
  unfold u1h
  generalize u0f x=u
  generalize x.isEmpty=v
  cases u <;> cases v <;> first | (simp; done) | (simp; omega)
 rw [key]
 have HN:=hid (fun w'=>u5l x hx w')
 rw [hq] at HN
 cases p
 ·go_enter Tryz.func114,Tryz.ntmps114
  go_wp2_with fail
  go_quiet (fail)
  go_wp2_with fail
  refine (HN.out _).mono ?_
  rintro e w1 ⟨rfl,hb1⟩
  obtain ⟨_,_,_,l1⟩:=u0a (q:=w.heap.size) (u0d hb1 (some (w.heap.size+10))) (u3o (u0c _ _)) (by omega)
  have HB:=hid (seq (seq (u0j w _) (u1b _ _)) hb1)
  clear hb1
  go_wp2
  go_ret
  first | exact ⟨rfl,HB.out⟩ | (refine ⟨?_,HB.out⟩; simp; done)
 cases q
 ·go_enter Tryz.func114,Tryz.ntmps114
  go_wp2_with fail
  go_quiet (fail)
  go_wp2_with fail
  refine (HN.out _).mono ?_
  rintro e w1 ⟨rfl,hb1⟩
  obtain ⟨_,_,_,l1⟩:=u0a (q:=w.heap.size) (u0d hb1 (some (w.heap.size+10))) (u3o (u0c _ _)) (by omega)
  have HB:=hid (seq (seq (u0j w _) (u1b _ _)) hb1)
  clear hb1
  go_wp2
  go_ret
  first | exact ⟨rfl,HB.out⟩ | (refine ⟨?_,HB.out⟩; simp; done)
 cases r
 ·go_enter Tryz.func114,Tryz.ntmps114
  go_wp2_with fail
  go_quiet (fail)
  go_wp2_with fail
  refine (HN.out _).mono ?_
  rintro e w1 ⟨rfl,hb1⟩
  obtain ⟨_,_,_,l1⟩:=u0a (q:=w.heap.size) (u0d hb1 (some (w.heap.size+10))) (u3o (u0c _ _)) (by omega)
  have HB:=hid (seq (seq (u0j w _) (u1b _ _)) hb1)
  clear hb1
  go_wp2
  go_ret
  first | exact ⟨rfl,HB.out⟩ | (refine ⟨?_,HB.out⟩; simp; done)
 go_enter Tryz.func114,Tryz.ntmps114
 go_wp2_with fail
 go_quiet (fail)
 go_wp2_with fail
 refine (HN.out _).mono ?_
 rintro e w1 ⟨rfl,hb1⟩
 obtain ⟨_,_,_,l1⟩:=u0a (q:=w.heap.size) (u0d hb1 (some (w.heap.size+10))) (u3o (u0c _ _)) (by omega)
 have HB:=hid (seq (seq (u0j w _) (u1b _ _)) hb1)
 clear hb1
 go_wp2
 go_ret
 first | exact ⟨rfl,HB.out⟩ | (refine ⟨?_,HB.out⟩; simp; done)
theorem shape_k2 (o n:Int) (x:List UInt8) (A:Option Addr) (m c:Nat) (hx:x.length≤maxLen) (hn:-2147483648≤n∧n≤2147483647) (w:World) :
  Calls Tryz.prog 114 #[.agg #[.int .i64 2,.int .i64 o,.int .i32 n,.string (bs x),.slice A m c]] w fun e w'=>e=.returned (.bool (u1h u0f 2 o n x m))∧Below w.heap.size w w':=by
 have h2:=u2v x
 obtain ⟨p,hp⟩:∃ p,decide (0≤o∧o<4)=p:=⟨_,rfl⟩
 obtain ⟨q,hq⟩:∃ q,x.isEmpty=q:=⟨_,rfl⟩
 obtain ⟨r,hr⟩:∃ r,(n == 0)=r:=⟨_,rfl⟩
 have key:u1h u0f 2 o n x m=(p&&(q&&(r&&((m:Int) == 0)))):=by
  rw [← hp,← hq,← hr]
  refine u3p ?_
  unfold u1h
  generalize u0f x=u
  generalize x.isEmpty=v
  cases u <;> cases v <;> first | (simp; done) | (simp; omega)
 rw [key]
 have g1:(decide (0≤o)=true∧decide (o<4)=p)∨(decide (0≤o)=false∧p=false):=by
  rw [← hp]
  by_cases h:0≤o <;> simp [h]
 rcases g1 with ⟨g1,g3⟩ | ⟨g1,g3⟩
 rotate_left 1
 ·subst g3
  go_enter Tryz.func114,Tryz.ntmps114
  go_wp2_with fail
  go_quiet (fail)
  go_wp2
  go_ret
  first | exact ⟨rfl,seq (u0j w _) (u1b _ _)⟩ | (refine ⟨?_,seq (u0j w _) (u1b _ _)⟩; simp; done)
 cases p
 ·go_enter Tryz.func114,Tryz.ntmps114
  go_wp2_with fail
  go_quiet (fail)
  go_wp2
  go_ret
  first | exact ⟨rfl,seq (u0j w _) (u1b _ _)⟩ | (refine ⟨?_,seq (u0j w _) (u1b _ _)⟩; simp; done)
 cases q
 ·go_enter Tryz.func114,Tryz.ntmps114
  go_wp2_with fail
  go_quiet (fail)
  go_wp2
  go_ret
  first | exact ⟨rfl,seq (u0j w _) (u1b _ _)⟩ | (refine ⟨?_,seq (u0j w _) (u1b _ _)⟩; simp; done)
 cases r
 ·go_enter Tryz.func114,Tryz.ntmps114
  go_wp2_with fail
  go_quiet (fail)
  go_wp2
  go_ret
  first | exact ⟨rfl,seq (u0j w _) (u1b _ _)⟩ | (refine ⟨?_,seq (u0j w _) (u1b _ _)⟩; simp; done)
 go_enter Tryz.func114,Tryz.ntmps114
 go_wp2_with fail
 go_quiet (fail)
 go_wp2
 go_ret
 first | exact ⟨rfl,seq (u0j w _) (u1b _ _)⟩ | (refine ⟨?_,seq (u0j w _) (u1b _ _)⟩; simp; done)
theorem shape_k3 (o n:Int) (x:List UInt8) (A:Option Addr) (m c:Nat) (hx:x.length≤maxLen) (hn:-2147483648≤n∧n≤2147483647) (w:World) :
  Calls Tryz.prog 114 #[.agg #[.int .i64 3,.int .i64 o,.int .i32 n,.string (bs x),.slice A m c]] w fun e w'=>e=.returned (.bool (u1h u0f 3 o n x m))∧Below w.heap.size w w':=by
 have h2:=u2v x
 obtain ⟨p,hp⟩:∃ p,decide (0≤o∧o<3)=p:=⟨_,rfl⟩
 obtain ⟨q,hq⟩:∃ q,x.isEmpty=q:=⟨_,rfl⟩
 obtain ⟨r,hr⟩:∃ r,(n == 0)=r:=⟨_,rfl⟩
 have key:u1h u0f 3 o n x m=(p&&(q&&(r&&((m:Int) == 1)))):=by
  rw [← hp,← hq,← hr]
  refine u3p ?_
  unfold u1h
  generalize u0f x=u
  generalize x.isEmpty=v
  cases u <;> cases v <;> first | (simp; done) | (simp; omega)
 rw [key]
 have HU:=hid (fun w'=>ref_un o w')
 rw [hp] at HU
 cases p
 ·go_enter Tryz.func114,Tryz.ntmps114
  go_wp2_with fail
  go_quiet (fail)
  go_wp2_with fail
  refine (HU.out _).mono ?_
  rintro e w1 ⟨rfl,rfl⟩
  go_wp2
  go_ret
  first | exact ⟨rfl,seq (u0j w _) (u1b _ _)⟩ | (refine ⟨?_,seq (u0j w _) (u1b _ _)⟩; simp; done)
 cases q
 ·go_enter Tryz.func114,Tryz.ntmps114
  go_wp2_with fail
  go_quiet (fail)
  go_wp2_with fail
  refine (HU.out _).mono ?_
  rintro e w1 ⟨rfl,rfl⟩
  go_wp2
  go_ret
  first | exact ⟨rfl,seq (u0j w _) (u1b _ _)⟩ | (refine ⟨?_,seq (u0j w _) (u1b _ _)⟩; simp; done)
 cases r
 ·go_enter Tryz.func114,Tryz.ntmps114
  go_wp2_with fail
  go_quiet (fail)
  go_wp2_with fail
  refine (HU.out _).mono ?_
  rintro e w1 ⟨rfl,rfl⟩
  go_wp2
  go_ret
  first | exact ⟨rfl,seq (u0j w _) (u1b _ _)⟩ | (refine ⟨?_,seq (u0j w _) (u1b _ _)⟩; simp; done)
 go_enter Tryz.func114,Tryz.ntmps114
 go_wp2_with fail
 go_quiet (fail)
 go_wp2_with fail
 refine (HU.out _).mono ?_
 rintro e w1 ⟨rfl,rfl⟩
 go_wp2
 go_ret
 first | exact ⟨rfl,seq (u0j w _) (u1b _ _)⟩ | (refine ⟨?_,seq (u0j w _) (u1b _ _)⟩; simp; done)
theorem shape_k4 (o n:Int) (x:List UInt8) (A:Option Addr) (m c:Nat) (hx:x.length≤maxLen) (hn:-2147483648≤n∧n≤2147483647) (w:World) :
  Calls Tryz.prog 114 #[.agg #[.int .i64 4,.int .i64 o,.int .i32 n,.string (bs x),.slice A m c]] w fun e w'=>e=.returned (.bool (u1h u0f 4 o n x m))∧Below w.heap.size w w':=by
 have h2:=u2v x
 obtain ⟨p,hp⟩:∃ p,decide (0≤o∧o<20)=p:=⟨_,rfl⟩
 obtain ⟨q,hq⟩:∃ q,x.isEmpty=q:=⟨_,rfl⟩
 obtain ⟨r,hr⟩:∃ r,(n == 0)=r:=⟨_,rfl⟩
 have key:u1h u0f 4 o n x m=(p&&(q&&(r&&((m:Int) == 2)))):=by
  rw [← hp,← hq,← hr]
  refine u3p ?_
  unfold u1h
  generalize u0f x=u
  generalize x.isEmpty=v
  cases u <;> cases v <;> first | (simp; done) | (simp; omega)
 rw [key]
 have HU:=hid (fun w'=>ref_bin o w')
 rw [hp] at HU
 cases p
 ·go_enter Tryz.func114,Tryz.ntmps114
  go_wp2_with fail
  go_quiet (fail)
  go_wp2_with fail
  refine (HU.out _).mono ?_
  rintro e w1 ⟨rfl,rfl⟩
  go_wp2
  go_ret
  first | exact ⟨rfl,seq (u0j w _) (u1b _ _)⟩ | (refine ⟨?_,seq (u0j w _) (u1b _ _)⟩; simp; done)
 cases q
 ·go_enter Tryz.func114,Tryz.ntmps114
  go_wp2_with fail
  go_quiet (fail)
  go_wp2_with fail
  refine (HU.out _).mono ?_
  rintro e w1 ⟨rfl,rfl⟩
  go_wp2
  go_ret
  first | exact ⟨rfl,seq (u0j w _) (u1b _ _)⟩ | (refine ⟨?_,seq (u0j w _) (u1b _ _)⟩; simp; done)
 cases r
 ·go_enter Tryz.func114,Tryz.ntmps114
  go_wp2_with fail
  go_quiet (fail)
  go_wp2_with fail
  refine (HU.out _).mono ?_
  rintro e w1 ⟨rfl,rfl⟩
  go_wp2
  go_ret
  first | exact ⟨rfl,seq (u0j w _) (u1b _ _)⟩ | (refine ⟨?_,seq (u0j w _) (u1b _ _)⟩; simp; done)
 go_enter Tryz.func114,Tryz.ntmps114
 go_wp2_with fail
 go_quiet (fail)
 go_wp2_with fail
 refine (HU.out _).mono ?_
 rintro e w1 ⟨rfl,rfl⟩
 go_wp2
 go_ret
 first | exact ⟨rfl,seq (u0j w _) (u1b _ _)⟩ | (refine ⟨?_,seq (u0j w _) (u1b _ _)⟩; simp; done)
theorem shape_k5 (o n:Int) (x:List UInt8) (A:Option Addr) (m c:Nat) (hx:x.length≤maxLen) (hn:-2147483648≤n∧n≤2147483647) (w:World) :
  Calls Tryz.prog 114 #[.agg #[.int .i64 5,.int .i64 o,.int .i32 n,.string (bs x),.slice A m c]] w fun e w'=>e=.returned (.bool (u1h u0f 5 o n x m))∧Below w.heap.size w w':=by
 have h2:=u2v x
 obtain ⟨p,hp⟩:∃ p,(o == 0)=p:=⟨_,rfl⟩
 obtain ⟨q,hq⟩:∃ q,u0f x=q:=⟨_,rfl⟩
 obtain ⟨r,hr⟩:∃ r,(n == 0)=r:=⟨_,rfl⟩
 have key:u1h u0f 5 o n x m=(p&&(q&&(r&&((m:Int) == 1)))):=by
  rw [← hp,← hq,← hr]
  refine u3p ?_
  unfold u1h
  generalize u0f x=u
  generalize x.isEmpty=v
  cases u <;> cases v <;> first | (simp; done) | (simp; omega)
 rw [key]
 have HN:=hid (fun w'=>u5l x hx w')
 rw [hq] at HN
 cases p
 ·go_enter Tryz.func114,Tryz.ntmps114
  go_wp2_with fail
  go_quiet (fail)
  go_wp2_with fail
  refine (HN.out _).mono ?_
  rintro e w1 ⟨rfl,hb1⟩
  obtain ⟨_,_,_,l1⟩:=u0a (q:=w.heap.size) (u0d hb1 (some (w.heap.size+10))) (u3o (u0c _ _)) (by omega)
  have HB:=hid (seq (seq (u0j w _) (u1b _ _)) hb1)
  clear hb1
  go_wp2
  go_ret
  first | exact ⟨rfl,HB.out⟩ | (refine ⟨?_,HB.out⟩; simp; done)
 cases q
 ·go_enter Tryz.func114,Tryz.ntmps114
  go_wp2_with fail
  go_quiet (fail)
  go_wp2_with fail
  refine (HN.out _).mono ?_
  rintro e w1 ⟨rfl,hb1⟩
  obtain ⟨_,_,_,l1⟩:=u0a (q:=w.heap.size) (u0d hb1 (some (w.heap.size+10))) (u3o (u0c _ _)) (by omega)
  have HB:=hid (seq (seq (u0j w _) (u1b _ _)) hb1)
  clear hb1
  go_wp2
  go_ret
  first | exact ⟨rfl,HB.out⟩ | (refine ⟨?_,HB.out⟩; simp; done)
 cases r
 ·go_enter Tryz.func114,Tryz.ntmps114
  go_wp2_with fail
  go_quiet (fail)
  go_wp2_with fail
  refine (HN.out _).mono ?_
  rintro e w1 ⟨rfl,hb1⟩
  obtain ⟨_,_,_,l1⟩:=u0a (q:=w.heap.size) (u0d hb1 (some (w.heap.size+10))) (u3o (u0c _ _)) (by omega)
  have HB:=hid (seq (seq (u0j w _) (u1b _ _)) hb1)
  clear hb1
  go_wp2
  go_ret
  first | exact ⟨rfl,HB.out⟩ | (refine ⟨?_,HB.out⟩; simp; done)
 go_enter Tryz.func114,Tryz.ntmps114
 go_wp2_with fail
 go_quiet (fail)
 go_wp2_with fail
 refine (HN.out _).mono ?_
 rintro e w1 ⟨rfl,hb1⟩
 obtain ⟨_,_,_,l1⟩:=u0a (q:=w.heap.size) (u0d hb1 (some (w.heap.size+10))) (u3o (u0c _ _)) (by omega)
 have HB:=hid (seq (seq (u0j w _) (u1b _ _)) hb1)
 clear hb1
 go_wp2
 go_ret
 first | exact ⟨rfl,HB.out⟩ | (refine ⟨?_,HB.out⟩; simp; done)
theorem shape_k6 (o n:Int) (x:List UInt8) (A:Option Addr) (m c:Nat) (hx:x.length≤maxLen) (hm:m≤1125899906842624) (w:World) :
  Calls Tryz.prog 114 #[.agg #[.int .i64 6,.int .i64 o,.int .i32 n,.string (bs x),.slice A m c]] w fun e w'=>e=.returned (.bool (u1h u0f 6 o n x m))∧Below w.heap.size w w':=by
 have h2:=u2v x
 obtain ⟨p,hp⟩:∃ p,(o == 0)=p:=⟨_,rfl⟩
 obtain ⟨q,hq⟩:∃ q,u0f x=q:=⟨_,rfl⟩
 obtain ⟨r,hr⟩:∃ r,(n == 0)=r:=⟨_,rfl⟩
 obtain ⟨s,hs⟩:∃ s,((m:Int) == min (m:Int) 6)=s:=⟨_,rfl⟩
 have key:u1h u0f 6 o n x m=(p&&(q&&(r&&s))):=by
  rw [← hp,← hq,← hr,← hs]
  refine u3p ?_
  unfold u1h
  generalize u0f x=u
  generalize x.isEmpty=v
  cases u <;> cases v <;> first | (simp; done) | (simp; omega)
 rw [key]
 have HN:=hid (fun w'=>u5l x hx w')
 rw [hq] at HN
 go_enter Tryz.func114,Tryz.ntmps114
 go_wp2_with fail
 go_quiet (fail)
 go_wp2_with fail
 go_region_held3 (fun w'=>w'.cell? ⟨w.heap.size,3,none⟩=some (.string (bs x))∧w'.cell? ⟨w.heap.size,4,none⟩=some (.slice A m c)) (first | exact ⟨by simp,by simp⟩ | exact ⟨(qc 3).trans rfl,(qc 4).trans rfl⟩) ((first | (go_at_call 37; refine (HN.out _).mono ?_; rintro e w1 ⟨rfl,hb1⟩; obtain ⟨qc,_,_,l1⟩:=u0a (q:=w.heap.size) (u0d hb1 (some (w.heap.size+10))) (by first | exact u3o (u0c _ _) | exact u3o (u3o (u0c _ _)) | exact u2d (u3o (u0c _ _))) (by omega))))
 all_goals
  have hB0:Below w.heap.size w w1:=seq (seq (u0j w _) (u1b _ _)) hb1
  have HB:=hid hB0
  clear hB0
  clear hb1
  have z0:=qc 4
  clear HN qc
  cases p
  ·go_wp2
   go_ret
   exact ⟨rfl,HB.out⟩
  cases q
  ·go_wp2
   go_ret
   exact ⟨rfl,HB.out⟩
  cases r
  ·go_wp2
   go_ret
   exact ⟨rfl,HB.out⟩
  go_wp2
  go_ret
  first | exact ⟨rfl,HB.out⟩ | (refine ⟨?_,HB.out⟩; simp; done)
theorem shape_no (k o n:Int) (x:List UInt8) (A:Option Addr) (m c:Nat) (hk:k≠0∧k≠1∧k≠2∧k≠3∧k≠4∧k≠5∧k≠6) (w:World) :
  Calls Tryz.prog 114 #[.agg #[.int .i64 k,.int .i64 o,.int .i32 n,.string (bs x),.slice A m c]] w fun e w'=>e=.returned (.bool (u1h u0f k o n x m))∧Below w.heap.size w w':=by
 obtain ⟨a0,a1,a2,a3,a4,a5,a6⟩:=hk
 have key:u1h u0f k o n x m=false:=by
  unfold u1h
  rw [if_neg a0,if_neg a1,if_neg a2,if_neg a3,if_neg a4,if_neg a5,if_neg a6]
 rw [key]
 have h2:=u2v x
 have e0:(k == 0)=false:=by simpa using a0
 have e1:(k == 1)=false:=by simpa using a1
 have e2:(k == 2)=false:=by simpa using a2
 have e3:(k == 3)=false:=by simpa using a3
 have e4:(k == 4)=false:=by simpa using a4
 have e5:(k == 5)=false:=by simpa using a5
 have e6:(k == 6)=false:=by simpa using a6
 go_enter Tryz.func114,Tryz.ntmps114
 go_wp2_with fail
 go_quiet (fail)
 go_wp2
 go_ret
 exact ⟨rfl,seq (u0j w _) (u1b _ _)⟩
theorem shape_114 (k o n:Int) (x:List UInt8) (A:Option Addr) (m c:Nat) (hx:x.length≤maxLen) (hn:-2147483648≤n∧n≤2147483647) (hm:m≤1125899906842624) (w:World) :
  Calls Tryz.prog 114 #[.agg #[.int .i64 k,.int .i64 o,.int .i32 n,.string (bs x),.slice A m c]] w fun e w'=>e=.returned (.bool (u1h u0f k o n x m))∧Below w.heap.size w w':=by
 by_cases h:k≠0∧k≠1∧k≠2∧k≠3∧k≠4∧k≠5∧k≠6
 ·exact shape_no k o n x A m c h w
 ·have h:k=0∨k=1∨k=2∨k=3∨k=4∨k=5∨k=6:=by omega
  rcases h with rfl | rfl | rfl | rfl | rfl | rfl | rfl
  ·exact shape_k0 o n x A m c hx hn w
  ·exact shape_k1 o n x A m c hx hn w
  ·exact shape_k2 o n x A m c hx hn w
  ·exact shape_k3 o n x A m c hx hn w
  ·exact shape_k4 o n x A m c hx hn w
  ·exact shape_k5 o n x A m c hx hn w
  ·exact shape_k6 o n x A m c hx hm w
theorem hkeep {W w1:World} {b q:Nat} {o:Obj} (hg:W.grownBy w1 (some b)) (hq:W.heap[q]? = some o) (hne:q≠b):w1.heap[q]? = some o :=
 (hg.block q (Array.getElem?_eq_some_iff.1 hq).1 (by simpa using hne)).trans hq
theorem u0i {w:World} {q:Nat} {cs:Array Value} {T:TypeId} (hq:w.heap[q]? = some (.cells cs T (0,0))):(∀ j,w.cell? ⟨q,j,none⟩=cs[j]?)∧(∀ j,w.frozen? ⟨q,j,none⟩=false)∧q<w.heap.size :=
 ⟨fun j=>cell_of_row _ _ j _ _ _ hq,fun j=>by simp [World.frozen?,hq],(Array.getElem?_eq_some_iff.1 hq).1⟩
theorem ref_neutral (k:Int) (w:World):Calls Tryz.prog 204 #[.int .i64 k] w fun e w'=>(∃ n:Int,e=.returned (.tuple #[.int .i32 n,.bool (u7a k)]))∧w'=w:=by
 by_cases h:k=0∨k=6∨k=7∨k=18∨k=19∨k=5
 ·have e:u7a k=true:=by rcases h with rfl | rfl | rfl | rfl | rfl | rfl <;> rfl
  rw [e]
  rcases h with rfl | rfl | rfl | rfl | rfl | rfl
  all_goals
   go_enter Tryz.func204,Tryz.ntmps204
   go_wp2
   go_ret2
   exact ⟨⟨_,rfl⟩,rfl⟩
 ·simp only [not_or] at h
  obtain ⟨a0,a1,a2,a3,a4,a5⟩:=h
  have e:u7a k=false:=by simp [u7a,a0,a1,a2,a3,a4,a5]
  rw [e]
  have e0:(k == 0)=false:=by simpa using a0
  have e1:(k == 6)=false:=by simpa using a1
  have e2:(k == 7)=false:=by simpa using a2
  have e3:(k == 18)=false:=by simpa using a3
  have e4:(k == 19)=false:=by simpa using a4
  have e5:(k == 5)=false:=by simpa using a5
  go_enter Tryz.func204,Tryz.ntmps204
  go_wp2
  go_ret2
  exact ⟨⟨_,rfl⟩,rfl⟩
theorem ref_folds (k:Int) (w:World):Calls Tryz.prog 189 #[.int .i64 k] w fun e w'=>e=.returned (.bool (u7a k))∧w'=w:=by
 go_enter Tryz.func189,Tryz.ntmps189
 go_wp2_with fail
 refine (ref_neutral k _).mono ?_
 rintro e w1 ⟨⟨n,rfl⟩,rfl⟩
 go_wp2
 go_ret
 exact ⟨rfl,rfl⟩
def SS (k o:Int) (x:List UInt8) (A:Option Addr) (m c:Nat) (B:Option Addr) (mb cb:Nat) (C:Option Addr) (mc cc:Nat) (w:World) (b:Bool):Prop :=
 Calls Tryz.prog 164 #[.agg #[.int .i64 k,.int .i64 o,.string (bs x),.slice A m c,.slice B mb cb,.slice C mc cc]] w fun e w'=>e=.returned (.bool b)∧Below w.heap.size w w'
theorem ss_0 (o:Int) (x:List UInt8) (A:Option Addr) (m c:Nat) (B:Option Addr) (mb cb:Nat) (C:Option Addr) (mc cc:Nat) (hx:x.length≤maxLen) (w:World) (nb ne:Bool) (hb:mb=0↔nb=true) (he:mc=0↔ne=true) :
  SS 0 o x A m c B mb cb C mc cc w (u0u u0f 0 o x m nb ne):=by
 have h2:=u2v x
 obtain ⟨p,hp⟩:∃ p,(o == 0)=p:=⟨_,rfl⟩
 obtain ⟨q,hq⟩:∃ q,u0f x=q:=⟨_,rfl⟩
 have key:u0u u0f 0 o x m nb ne=(p&&(q&&(((m:Int) == 1)&&(nb&&ne)))):=by
  rw [← hp,← hq]
  refine u3p ?_
  unfold u0u
  generalize u0f x=u
  cases u <;> cases nb <;> cases ne <;> first | (simp; done) | (simp; omega)
 rw [key]
 clear key
 have HN:=hid (fun w'=>u5l x hx w')
 rw [hq] at HN
 clear hq
 unfold SS
 (cases ne; rotate_left 1; cases nb; rotate_left 1; cases p; rotate_left 1; cases q)
 all_goals
  (try simp only [reduceCtorEq,iff_true,iff_false] at hb)
  (try simp only [reduceCtorEq,iff_true,iff_false] at he)
  try subst hb
  try subst he
  go_enter Tryz.func164,Tryz.ntmps164
  go_wp2_with fail
  go_quiet (fail)
  go_wp2_with fail
  refine (HN.out _).mono ?_
  rintro e w1 ⟨rfl,hb1⟩
  obtain ⟨_,_,_,l1⟩:=u0a (q:=w.heap.size) (u0d hb1 (some (w.heap.size+10))) (u3o (u0c _ _)) (by omega)
  have HB:=hid (seq (seq (u0j w _) (u1b _ _)) hb1)
  clear hb1
  go_wp2
  go_ret
  first | exact ⟨rfl,HB.out⟩ | (refine ⟨?_,HB.out⟩; simp; done)
theorem ss_1 (o:Int) (x:List UInt8) (A:Option Addr) (m c:Nat) (B:Option Addr) (mb cb:Nat) (C:Option Addr) (mc cc:Nat) (hx:x.length≤maxLen) (w:World) (nb ne:Bool) (hb:mb=0↔nb=true) (he:mc=0↔ne=true) :
  SS 1 o x A m c B mb cb C mc cc w (u0u u0f 1 o x m nb ne):=by
 have h2:=u2v x
 obtain ⟨p,hp⟩:∃ p,(o == 0)=p:=⟨_,rfl⟩
 obtain ⟨q,hq⟩:∃ q,u0f x=q:=⟨_,rfl⟩
 have key:u0u u0f 1 o x m nb ne=(p&&(q&&(((m:Int) == 1)&&(nb&&ne)))):=by
  rw [← hp,← hq]
  refine u3p ?_
  unfold u0u
  generalize u0f x=u
  cases u <;> cases nb <;> cases ne <;> first | (simp; done) | (simp; omega)
 rw [key]
 clear key
 have HN:=hid (fun w'=>u5l x hx w')
 rw [hq] at HN
 clear hq
 unfold SS
 (cases ne; rotate_left 1; cases nb; rotate_left 1; cases p; rotate_left 1; cases q)
 all_goals
  (try simp only [reduceCtorEq,iff_true,iff_false] at hb)
  (try simp only [reduceCtorEq,iff_true,iff_false] at he)
  try subst hb
  try subst he
  go_enter Tryz.func164,Tryz.ntmps164
  go_wp2_with fail
  go_quiet (fail)
  go_wp2_with fail
  refine (HN.out _).mono ?_
  rintro e w1 ⟨rfl,hb1⟩
  obtain ⟨_,_,_,l1⟩:=u0a (q:=w.heap.size) (u0d hb1 (some (w.heap.size+10))) (u3o (u0c _ _)) (by omega)
  have HB:=hid (seq (seq (u0j w _) (u1b _ _)) hb1)
  clear hb1
  go_wp2
  go_ret
  first | exact ⟨rfl,HB.out⟩ | (refine ⟨?_,HB.out⟩; simp; done)
theorem ss_2 (o:Int) (x:List UInt8) (A:Option Addr) (m c:Nat) (B:Option Addr) (mb cb:Nat) (C:Option Addr) (mc cc:Nat) (hx:x.length≤maxLen) (w:World) (nb ne:Bool) (hb:mb=0↔nb=true) (he:mc=0↔ne=true) :
  SS 2 o x A m c B mb cb C mc cc w (u0u u0f 2 o x m nb ne):=by
 have h2:=u2v x
 obtain ⟨p,hp⟩:∃ p,(o == 0)=p:=⟨_,rfl⟩
 obtain ⟨q,hq⟩:∃ q,u0f x=q:=⟨_,rfl⟩
 have key:u0u u0f 2 o x m nb ne=(p&&(q&&(((m:Int) == 2)&&(nb&&ne)))):=by
  rw [← hp,← hq]
  refine u3p ?_
  unfold u0u
  generalize u0f x=u
  cases u <;> cases nb <;> cases ne <;> first | (simp; done) | (simp; omega)
 rw [key]
 clear key
 have HN:=hid (fun w'=>u5l x hx w')
 rw [hq] at HN
 clear hq
 unfold SS
 (cases ne; rotate_left 1; cases nb; rotate_left 1; cases p; rotate_left 1; cases q)
 all_goals
  (try simp only [reduceCtorEq,iff_true,iff_false] at hb)
  (try simp only [reduceCtorEq,iff_true,iff_false] at he)
  try subst hb
  try subst he
  go_enter Tryz.func164,Tryz.ntmps164
  go_wp2_with fail
  go_quiet (fail)
  go_wp2_with fail
  refine (HN.out _).mono ?_
  rintro e w1 ⟨rfl,hb1⟩
  obtain ⟨_,_,_,l1⟩:=u0a (q:=w.heap.size) (u0d hb1 (some (w.heap.size+10))) (u3o (u0c _ _)) (by omega)
  have HB:=hid (seq (seq (u0j w _) (u1b _ _)) hb1)
  clear hb1
  go_wp2
  go_ret
  first | exact ⟨rfl,HB.out⟩ | (refine ⟨?_,HB.out⟩; simp; done)
end Go.Proofs.YtbkhnilbgocpnaaGreatDoor.SynC
