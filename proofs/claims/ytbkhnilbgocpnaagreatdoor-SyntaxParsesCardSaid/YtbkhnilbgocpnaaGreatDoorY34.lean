import Derived.StillTailTactics
import Derived.Deep.QuietTactic
import Derived.BigQuiet
import Derived.Deep.RegionHeld3
import Derived.BigRegion
import Derived.Laws.BitsLemmas
import Derived.Test.YtbkhnilbgocpnaaGreatDoorY26
set_option linter.unusedVariables false
set_option linter.unusedSimpArgs false
set_option maxRecDepth 100000
set_option maxHeartbeats 2000000
open Go.Lib (hid)
namespace Go.Proofs.YtbkhnilbgocpnaaGreatDoor.LexC
open Go.ChangeShapes Go.WideShapes Go.ChangeAt Go.RowKit
theorem mid_eq (s:ByteArray) (i:Nat) (g:List UInt8) (m:Nat) (hm:g.length=m) (h:i+m≤s.size) (b:Bool) (hb:g.isPrefixOf (s.data.toList.drop i)=b):((s.extract i (i+m)).toList == (bs g).toList)=b:=by
 subst hm; subst hb
 rw [prefix_eq _ _ (by rw [List.length_drop,u0n]; omega),ByteArray.toList_eq,ByteArray.toList_eq,u4b,u3g]
 rw [show i+g.length - i=g.length by omega]
 rw [Bool.eq_iff_iff]; simp
theorem slice_eq (s:ByteArray) (i m:Nat) (h:i+m≤s.size) (W:World):(Instr.slice 9 (.string s) (some (.int .i64 (i:Nat))) (some (.int .i64 ((i:Int)+(m:Int)))) none).run Tryz.prog W=.ok (.string (s.extract i (i+m))) W:=by
 have h1:=run_slice_string (P:=Tryz.prog) W 9 s .i64 .i64 (i:Nat) ((i:Int)+(m:Int)) Tryz.underlying9 (by omega) (by omega) (by omega)
 rw [h1,show ((i:Nat):Int).toNat=i by omega,show ((i:Int)+(m:Int)).toNat=i+m by omega]
theorem starts_any (s:ByteArray) (hs:s.size≤100000) (i:Nat) (hi:i≤s.size) (g:List UInt8) (hg:g.length≤3) (b:Bool) (hb:g.isPrefixOf (s.data.toList.drop i)=b) (w:World) :
  Calls Tryz.prog 136 #[.string s,.int .i64 (i:Nat),.string (bs g)] w fun e w'=>e=.returned (.bool b)∧w=w':=by
 obtain ⟨m,hm⟩:∃ m,g.length=m:=⟨_,rfl⟩
 have hsz:(bs g).size=m:=(u3t g).trans hm
 rw [hm] at hg
 by_cases hle:i+m≤s.size
 ·have hq:=mid_eq s i g m hm hle b hb
  have hsl:=slice_eq s i m hle
  have HM:=hid hm
  have HB:=hid hb
  clear hm hb
  go_enter Tryz.func136,Tryz.ntmps136
  go_wp2
  go_ret
  exact ⟨rfl,rfl⟩
 ·have hp:=prefix_short g (s.data.toList.drop i) (by rw [List.length_drop,u0n,hm]; omega)
  have HB:b=false:=hb.symm.trans hp
  subst HB
  clear hm hb hp
  go_enter Tryz.func136,Tryz.ntmps136
  go_wp2
  go_ret
  exact ⟨rfl,rfl⟩
def OnePost (o:Option Tok) (i:Nat) (e:Ending):Prop :=
 match o with
 | some t=>e=.returned (.tuple #[.agg #[.int .i64 t.kind,.int .i64 (i:Nat),.string (bs t.text),.int .i32 t.num],.bool true])
 | none=>∃ k p x n,e=.returned (.tuple #[.agg #[.int .i64 k,.int .i64 p,.string x,.int .i32 n],.bool false])
theorem end_n (digits:Bool) (p:UInt8→Bool) (hp:p=if digits then digB else innB) (s:ByteArray) (hs:s.size≤maxLen) (i:Nat) (hi:i≤s.size) (j:Nat) (hj:i+cnt p (s.data.toList.drop i)=j) (w:World) :
  Calls Tryz.prog 132 #[.string s,.int .i64 (i:Nat),.bool digits] w fun e w'=>e=.returned (.int .i64 (j:Nat))∧w=w':=by
 subst hj; exact end_any digits p hp s hs i hi _ rfl w
theorem mid_list (s:ByteArray) (p:UInt8→Bool) (i j:Nat) (hi:i≤s.size) (hj:i+cnt p (s.data.toList.drop i)=j):j≤s.size∧(s.extract i j).data.toList=(s.data.toList.drop i).takeWhile p:=by
 have h:=cnt_le p (s.data.toList.drop i)
 rw [List.length_drop,u0n] at h
 refine ⟨by omega,?_⟩
 rw [u4b,show j - i=cnt p (s.data.toList.drop i) by omega,take_cnt]
theorem drop_form (s:ByteArray) (i:Nat) (h:i<s.size):s.data.toList.drop i=s[i] :: s.data.toList.drop (i+1):=u5w s i h
set_option maxHeartbeats 4000000 in
theorem one_word (s:ByteArray) (hs:s.size≤100000) (i:Nat) (hi:i<s.size) (hl:letN (s[i].toNat:Int)=true) (w:World) :
  Calls Tryz.prog 79 #[.string s,.int .i64 (i:Nat)] w fun e w'=>OnePost (u2j (s.data.toList.drop i)) i e∧Below w.heap.size w w':=by
 have hT:u2j (s.data.toList.drop i)=u4y (s.data.toList.drop i):=by
  rw [drop_form s i hi,u3e,if_pos (by unfold letB; rw [hl])]
 rw [hT]
 clear hT
 obtain ⟨j,hj⟩:∃ j,i+cnt innB (s.data.toList.drop i)=j:=⟨_,rfl⟩
 obtain ⟨hjs,hX0⟩:=mid_list s innB i j (by omega) hj
 have hij:i≤j:=by omega
 have hsz:(s.extract i j).size=j - i:=by
  rw [← u0n,hX0]; show cnt innB _=_; omega
 have hlen:((s.data.toList.drop i).takeWhile innB).length=j - i:=by show cnt innB _=_; omega
 have hX:=hid hX0
 have HJ:=hid hj
 have HL:=hid hl
 clear hX0 hj hl
 cases hw:u5r ((s.data.toList.drop i).takeWhile innB)
 ·have HW:=hid hw
  have HX2:Hid (inL u6j (s.extract i j).data.toList=false):=hid (by rw [hX.out]; exact hw)
  by_cases h16:j - i≤16
  ·have HT:=hid (wordTok_name hw (by omega))
   have h16':(j:Int) - (i:Int)≤16:=by omega
   have hd:decide (((j - i:Nat):Int)≤16)=true:=by simp; omega
   clear hw hlen
   go_enter Tryz.func79,Tryz.ntmps79
   go_wp2_with (first | (go_at_call 118; refine (u6o _ _ HL.out _).mono ?_; rintro e w' ⟨rfl,rfl⟩) | (go_at_call 132; refine (end_n false innB rfl s (by unfold maxLen; omega) i (by omega) j HJ.out _).mono ?_; rintro e w' ⟨rfl,rfl⟩) | (go_at_call 69; refine (u8x _).mono ?_; rintro e w1 ⟨rfl,hr0,hb⟩; have hr:=hid (show Rs w1 (w.heap.size+1) u6j from (by simpa using hr0)); clear hr0; obtain ⟨hc,hf⟩:=bcell hb; have hz:w.heap.size<w1.heap.size:=(by have:=hb.size; simp at this; omega)) | (go_at_call 68; (with_reducible refine (in_n (s.extract i j) u6j 25 (w.heap.size+1) rfl (by omega) _ hr.out _ HX2.out).mono ?_); rintro e w' ⟨rfl,rfl⟩))
   exact bodyPost_ret (v:=.tuple #[.agg #[.int .i64 0,.int .i64 (i:Nat),.string (s.extract i j),.int .i32 0],.bool true]) (by simp [results,Tryz.results79,go_sem,hz,hc]) rfl ⟨by rw [HT.out]; unfold OnePost; rw [eq_bs hX.out],by
    repeat (first | exact (((Below.refl _ _).alloc (Nat.le_refl _) _).trans (hb.mono (by simp))) | refine Below.setCell ?_ (by simp) _ | refine Below.alloc ?_ (by simp; omega) _)⟩
  ·have HT:=hid (wordTok_long hw (by omega))
   have hd:decide (((j - i:Nat):Int)≤16)=false:=by simp; omega
   clear hw hlen
   go_enter Tryz.func79,Tryz.ntmps79
   go_wp2_with (first | (go_at_call 118; refine (u6o _ _ HL.out _).mono ?_; rintro e w' ⟨rfl,rfl⟩) | (go_at_call 132; refine (end_n false innB rfl s (by unfold maxLen; omega) i (by omega) j HJ.out _).mono ?_; rintro e w' ⟨rfl,rfl⟩) | (go_at_call 69; refine (u8x _).mono ?_; rintro e w1 ⟨rfl,hr0,hb⟩; have hr:=hid (show Rs w1 (w.heap.size+1) u6j from (by simpa using hr0)); clear hr0; obtain ⟨hc,hf⟩:=bcell hb; have hz:w.heap.size<w1.heap.size:=(by have:=hb.size; simp at this; omega)) | (go_at_call 68; (with_reducible refine (in_n (s.extract i j) u6j 25 (w.heap.size+1) rfl (by omega) _ hr.out _ HX2.out).mono ?_); rintro e w' ⟨rfl,rfl⟩))
   exact bodyPost_ret (v:=.tuple #[.agg #[.int .i64 0,.int .i64 (i:Nat),.string (s.extract i j),.int .i32 0],.bool false]) (by simp [results,Tryz.results79,go_sem,hz,hc]) rfl ⟨by rw [HT.out]; exact ⟨_,_,_,_,rfl⟩,by
    repeat (first | exact (((Below.refl _ _).alloc (Nat.le_refl _) _).trans (hb.mono (by simp))) | refine Below.setCell ?_ (by simp) _ | refine Below.alloc ?_ (by simp; omega) _)⟩
 ·have HT:=hid (wordTok_word hw)
  have HX2:Hid (inL u6j (s.extract i j).data.toList=true):=hid (by rw [hX.out]; exact hw)
  clear hw hlen
  go_enter Tryz.func79,Tryz.ntmps79
  go_wp2_with (first | (go_at_call 118; refine (u6o _ _ HL.out _).mono ?_; rintro e w' ⟨rfl,rfl⟩) | (go_at_call 132; refine (end_n false innB rfl s (by unfold maxLen; omega) i (by omega) j HJ.out _).mono ?_; rintro e w' ⟨rfl,rfl⟩) | (go_at_call 69; refine (u8x _).mono ?_; rintro e w1 ⟨rfl,hr0,hb⟩; have hr:=hid (show Rs w1 (w.heap.size+1) u6j from (by simpa using hr0)); clear hr0; obtain ⟨hc,hf⟩:=bcell hb; have hz:w.heap.size<w1.heap.size:=(by have:=hb.size; simp at this; omega)) | (go_at_call 68; (with_reducible refine (in_n (s.extract i j) u6j 25 (w.heap.size+1) rfl (by omega) _ hr.out _ HX2.out).mono ?_); rintro e w' ⟨rfl,rfl⟩))
  exact bodyPost_ret (v:=.tuple #[.agg #[.int .i64 2,.int .i64 (i:Nat),.string (s.extract i j),.int .i32 0],.bool true]) (by simp [results,Tryz.results79,go_sem,hz,hc]) rfl ⟨by rw [HT.out]; unfold OnePost; rw [eq_bs hX.out],by
    repeat (first | exact (((Below.refl _ _).alloc (Nat.le_refl _) _).trans (hb.mono (by simp))) | refine Below.setCell ?_ (by simp) _ | refine Below.alloc ?_ (by simp; omega) _)⟩
theorem refValue_n (s:ByteArray) (hs:s.size≤maxLen) (hd:AllDig s.data.toList) (r:Int) (b:Bool) (hr:valJ (u3v 0 s.data.toList)=r) (hb:(u3v 0 s.data.toList).isSome=b) (w:World) :
  Calls Tryz.prog 134 #[.string s] w fun e w'=>e=.returned (.tuple #[.int .i64 r,.bool b])∧w=w':=by
 subst hr; subst hb; exact refValue_any s hs hd w
theorem wrapk (v:Int) (h0:0≤v) (h1:v≤2147483648):IntKind.i32.wrap v=wrap32 v:=by
 rw [IntKind.wrap_i32]; unfold wrap32; split <;> omega
set_option maxHeartbeats 8000000 in
theorem one_int_mid (s:ByteArray) (hs:s.size≤100000) (i j:Nat) (v:Int) (hjs:j<s.size) (h0:0≤v) (h1:v≤2147483648) (hv:Hid (u3v 0 (s.extract i j).data.toList=some v)) (b:Bool) (hn:Hid (innN (s[j]'hjs).toNat=b)) (hij:i<j) (his:i<s.size) (hl:Hid (letN s[i].toNat=false)) (hd:Hid (digN s[i].toNat=true))
  (hj:Hid (i+cnt digB (s.data.toList.drop i)=j)) (hA:Hid (AllDig (s.extract i j).data.toList)) (hx:(s.extract i j).size≤maxLen) (w:World) :
  Calls Tryz.prog 79 #[.string s,.int .i64 (i:Nat)] w fun e w'=>e=.returned (.tuple #[.agg #[.int .i64 1,.int .i64 (i:Nat),.string (s.extract i j),.int .i32 (wrap32 v)],.bool (!b)])∧Below w.heap.size w w':=by
 have hjn:((j:Int) == (s.size:Int))=false:=by simp; omega
 have hjs2:j≤s.size:=by omega
 have hij2:i≤j:=by omega
 go_enter Tryz.func79,Tryz.ntmps79
 go_wp2_with (first | (go_at_call 118; refine (u6o _ _ hl.out _).mono ?_; rintro e w' ⟨rfl,rfl⟩) | (go_at_call 133; refine (u8f _ _ hd.out _).mono ?_; rintro e w' ⟨rfl,rfl⟩) | (go_at_call 132; refine (end_n true digB rfl s (by unfold maxLen; omega) i (by omega) j hj.out _).mono ?_; rintro e w' ⟨rfl,rfl⟩) | (go_at_call 134; refine (refValue_n (s.extract i j) hx hA.out v true (by rw [hv.out]; rfl) (by rw [hv.out]; rfl) _).mono ?_; rintro e w' ⟨rfl,rfl⟩))
 go_region_held3 (fun _=>True) (exact trivial) ((first | (go_at_call 119; refine (inner_n _ _ hn.out _).mono ?_; rintro e w' ⟨rfl,rfl⟩)))
 all_goals
  go_wp2
  refine bodyPost_ret (v:=.tuple #[.agg #[.int .i64 1,.int .i64 (i:Nat),.string (s.extract i j),.int .i32 (IntKind.i32.wrap v)],.bool (!b)]) (by simp [results,Tryz.results79,go_sem]) rfl ⟨by rw [wrapk v h0 h1],?_⟩
  repeat (first | exact Below.refl _ _ | refine Below.setCell ?_ (by simp) _ | refine Below.alloc ?_ (by simp) _ | refine Below.drew ?_)
set_option maxHeartbeats 8000000 in
theorem one_int_end (s:ByteArray) (hs:s.size≤100000) (i j:Nat) (v:Int) (hje:Hid (j=s.size)) (hjs2:j≤s.size) (h0:0≤v) (h1:v≤2147483648) (hv:Hid (u3v 0 (s.extract i j).data.toList=some v)) (hij:i<j) (his:i<s.size) (hl:Hid (letN s[i].toNat=false)) (hd:Hid (digN s[i].toNat=true))
  (hj:Hid (i+cnt digB (s.data.toList.drop i)=j)) (hA:Hid (AllDig (s.extract i j).data.toList)) (hx:(s.extract i j).size≤maxLen) (w:World) :
  Calls Tryz.prog 79 #[.string s,.int .i64 (i:Nat)] w fun e w'=>e=.returned (.tuple #[.agg #[.int .i64 1,.int .i64 (i:Nat),.string (s.extract i j),.int .i32 (wrap32 v)],.bool true])∧Below w.heap.size w w':=by
 have hjn:((j:Int) == (s.size:Int))=true:=by have:=hje.out; simp; omega
 have hij2:i≤j:=by omega
 go_enter Tryz.func79,Tryz.ntmps79
 go_wp2_with (first | (go_at_call 118; refine (u6o _ _ hl.out _).mono ?_; rintro e w' ⟨rfl,rfl⟩) | (go_at_call 133; refine (u8f _ _ hd.out _).mono ?_; rintro e w' ⟨rfl,rfl⟩) | (go_at_call 132; refine (end_n true digB rfl s (by unfold maxLen; omega) i (by omega) j hj.out _).mono ?_; rintro e w' ⟨rfl,rfl⟩) | (go_at_call 134; refine (refValue_n (s.extract i j) hx hA.out v true (by rw [hv.out]; rfl) (by rw [hv.out]; rfl) _).mono ?_; rintro e w' ⟨rfl,rfl⟩))
 go_region
 all_goals
  go_wp2
  refine bodyPost_ret (v:=.tuple #[.agg #[.int .i64 1,.int .i64 (i:Nat),.string (s.extract i j),.int .i32 (RowKit.wrap32 v)],.bool true]) (by simp [results,Tryz.results79,go_sem]) rfl ⟨by rw [wrap_val v h0 h1],?_⟩
  repeat (first | exact Below.refl _ _ | refine Below.setCell ?_ (by simp) _ | refine Below.alloc ?_ (by simp) _ | refine Below.drew ?_)
set_option maxHeartbeats 8000000 in
theorem one_int_great (s:ByteArray) (hs:s.size≤100000) (i j:Nat) (hjs:j≤s.size) (hv:Hid (u3v 0 (s.extract i j).data.toList=none)) (hij:i<j) (his:i<s.size) (hl:Hid (letN s[i].toNat=false)) (hd:Hid (digN s[i].toNat=true))
  (hj:Hid (i+cnt digB (s.data.toList.drop i)=j)) (hA:Hid (AllDig (s.extract i j).data.toList)) (hx:(s.extract i j).size≤maxLen) (w:World) :
  Calls Tryz.prog 79 #[.string s,.int .i64 (i:Nat)] w fun e w'=>e=.returned (.tuple #[.agg #[.int .i64 1,.int .i64 (i:Nat),.string (s.extract i j),.int .i32 0],.bool false])∧Below w.heap.size w w':=by
 have hij2:i≤j:=by omega
 go_enter Tryz.func79,Tryz.ntmps79
 go_wp2_with (first | (go_at_call 118; refine (u6o _ _ hl.out _).mono ?_; rintro e w' ⟨rfl,rfl⟩) | (go_at_call 133; refine (u8f _ _ hd.out _).mono ?_; rintro e w' ⟨rfl,rfl⟩) | (go_at_call 132; refine (end_n true digB rfl s (by unfold maxLen; omega) i (by omega) j hj.out _).mono ?_; rintro e w' ⟨rfl,rfl⟩) | (go_at_call 134; refine (refValue_n (s.extract i j) hx hA.out 0 false (by rw [hv.out]; rfl) (by rw [hv.out]; rfl) _).mono ?_; rintro e w' ⟨rfl,rfl⟩))
 go_region
 all_goals
  go_wp2
  refine bodyPost_ret (v:=.tuple #[.agg #[.int .i64 1,.int .i64 (i:Nat),.string (s.extract i j),.int .i32 0],.bool false]) (by simp [results,Tryz.results79,go_sem]) rfl ⟨rfl,?_⟩
  repeat (first | exact Below.refl _ _ | refine Below.setCell ?_ (by simp) _ | refine Below.alloc ?_ (by simp) _ | refine Below.drew ?_)
theorem intTok_at {l:List UInt8} {n:Nat} (h:cnt digB l=n):u8s l=if u9d (l.drop n) then none else (u3v 0 (l.takeWhile digB)).map fun v=>⟨1,0,l.takeWhile digB,wrap32 v⟩:=by
 unfold u8s
 rw [show (l.takeWhile digB).length=n from h]
theorem u9r:∀ (l:List UInt8) (a v:Int),AllDig l→0≤a→a≤2147483648→u3v a l=some v→0≤v∧v≤2147483648
 | [],a,v,_,h0,h1,h=>by
  have:a=v:=Option.some.inj h
  omega
 | c :: r,a,v,hd,h0,h1,h=>by
  have hc:=hd c (by simp)
  unfold digB digN at hc
  simp at hc
  unfold u3v at h
  split at h
  ·cases h
  ·exact u9r r _ v (fun x hx=>hd x (by simp [hx])) (by omega) (by omega) h
theorem one_int (s:ByteArray) (hs:s.size≤100000) (i:Nat) (hi:i<s.size) (hl:letN (s[i].toNat:Int)=false) (hd:digN (s[i].toNat:Int)=true) (w:World) :
  Calls Tryz.prog 79 #[.string s,.int .i64 (i:Nat)] w fun e w'=>OnePost (u2j (s.data.toList.drop i)) i e∧Below w.heap.size w w':=by
 have hT:u2j (s.data.toList.drop i)=u8s (s.data.toList.drop i):=by
  rw [drop_form s i hi,u3e,if_neg (by unfold letB; rw [hl]; decide),if_pos (by unfold digB; rw [hd])]
 obtain ⟨n,hn⟩:∃ n,cnt digB (s.data.toList.drop i)=n:=⟨_,rfl⟩
 obtain ⟨j,hj⟩:∃ j,i+n=j:=⟨_,rfl⟩
 have hj':i+cnt digB (s.data.toList.drop i)=j:=by rw [hn,hj]
 obtain ⟨hjs,hX⟩:=mid_list s digB i j (by omega) hj'
 have hn1:1≤n:=by rw [← hn,drop_form s i hi,u7r (by exact hd)]; omega
 have hA:AllDig (s.extract i j).data.toList:=by rw [hX]; exact u4t
 have hx:(s.extract i j).size≤maxLen:=by
  rw [← u0n,hX]; have:=cnt_le digB (s.data.toList.drop i); unfold cnt at this; rw [List.length_drop,u0n] at this; unfold maxLen; omega
 have hI:=intTok_at hn
 rw [List.drop_drop,hj] at hI
 rw [hT,hI]
 by_cases hjl:j<s.size
 ·rw [headInn_at hjl]
  cases hv:u3v 0 (s.extract i j).data.toList with
  | none =>
   refine (one_int_great s hs i j hjs (hid hv) (by omega) hi (hid hl) (hid hd) (hid hj') (hid hA) hx w).mono fun e w' ⟨he,hb⟩=>⟨?_,hb⟩
   rw [hX] at hv
   rw [hv]
   split
   ·exact ⟨_,_,_,_,he⟩
   ·exact ⟨_,_,_,_,he⟩
  | some v =>
   obtain ⟨v0,v1⟩:=u9r _ 0 v hA (by omega) (by omega) hv
   refine (one_int_mid s hs i j v hjl v0 v1 (hid hv) _ (hid rfl) (by omega) hi (hid hl) (hid hd) (hid hj') (hid hA) hx w).mono fun e w' ⟨he,hb⟩=>⟨?_,hb⟩
   rw [hX] at hv
   rw [hv]
   cases hb2:innN (s[j].toNat:Int)
   ·rw [hb2] at he
    rw [if_neg (by decide)]
    show e=_
    rw [he,eq_bs hX]; rfl
   ·rw [hb2] at he
    rw [if_pos rfl]
    exact ⟨_,_,_,_,he⟩
 ·rw [headInn_end (s:=s) (by omega),if_neg (by decide)]
  cases hv:u3v 0 (s.extract i j).data.toList with
  | none =>
   refine (one_int_great s hs i j hjs (hid hv) (by omega) hi (hid hl) (hid hd) (hid hj') (hid hA) hx w).mono fun e w' ⟨he,hb⟩=>⟨?_,hb⟩
   rw [hX] at hv
   rw [hv]
   exact ⟨_,_,_,_,he⟩
  | some v =>
   obtain ⟨v0,v1⟩:=u9r _ 0 v hA (by omega) (by omega) hv
   refine (one_int_end s hs i j v (hid (by omega)) hjs v0 v1 (hid hv) (by omega) hi (hid hl) (hid hd) (hid hj') (hid hA) hx w).mono fun e w' ⟨he,hb⟩=>⟨?_,hb⟩
   rw [hX] at hv
   rw [hv]
   show e=_
   rw [he,eq_bs hX]
set_option maxHeartbeats 4000000 in
theorem one_sign (s:ByteArray) (hs:s.size≤100000) (i:Nat) (hi:i<s.size) (hl:letN (s[i].toNat:Int)=false) (hd:digN (s[i].toNat:Int)=false) (w:World) :
  Calls Tryz.prog 79 #[.string s,.int .i64 (i:Nat)] w fun e w'=>OnePost (u2j (s.data.toList.drop i)) i e∧Below w.heap.size w w':=by
 have hT:u2j (s.data.toList.drop i)=u8n (s.data.toList.drop i):=by
  rw [drop_form s i hi,u3e,if_neg (by unfold letB; rw [hl]; decide),if_neg (by unfold digB; rw [hd]; decide)]
 rw [hT]
 clear hT
 have HL:=hid hl
 have HD:=hid hd
 clear hl hd
 go_enter Tryz.func79,Tryz.ntmps79
 go_wp2_with (first | (go_at_call 118; refine (u6o _ _ HL.out _).mono ?_; rintro e w' ⟨rfl,rfl⟩) | (go_at_call 133; refine (u8f _ _ HD.out _).mono ?_; rintro e w' ⟨rfl,rfl⟩) | (go_at_call 135; refine (refSigns_any _).mono ?_; rintro e w1 ⟨rfl,hr0,hb⟩; have hr:=hid (show Rs w1 (w.heap.size+1) u4h from (by simpa using hr0)); clear hr0; obtain ⟨hc,hf⟩:=bcell hb; have hz:w.heap.size<w1.heap.size:=(by have:=hb.size; simp at this; omega)))
 go_loop [12] (fun v=>∃ k:Nat,k≤31∧v=.int .i64 k∧NoSign (s.data.toList.drop i) k) (fun v=>31 - (intOf v).toNat)
 case atStart=>exact ⟨0,Nat.zero_le _,rfl,by unfold NoSign; simp⟩
 case round =>
  obtain ⟨k,hk,rfl,hno⟩:=hrel
  have HN:=hid hno
  clear hno
  by_cases hlt:k<31
  ·obtain ⟨g,hg⟩:∃ g,sgn k=g:=⟨_,rfl⟩
   have hln:=sgn_len k hlt
   have hcell:=hr.out k hlt
   rw [show u4h.getD k []=g from hg] at hcell
   rw [hg] at hln
   have hlen3:g.length≤3:=hln.2
   clear hln
   have HG:=hid hg
   clear hg
   cases hp:g.isPrefixOf (s.data.toList.drop i)
   ·have HP:=hid hp
    clear hp
    go_wp2_with (first | (go_at_call 136; (with_reducible refine (starts_any s hs i (by omega) g hlen3 _ HP.out _).mono ?_); rintro e w' ⟨rfl,rfl⟩))
    go_round
    case rel=>exact ⟨k+1,by omega,by go_num,HN.out.next hlt (by rw [HG.out,HP.out])⟩
    case measure=>simp [intOf]; omega
   ·have HP:=hid hp
    clear hp
    go_wp2_with (first | (go_at_call 136; (with_reducible refine (starts_any s hs i (by omega) g hlen3 _ HP.out _).mono ?_); rintro e w' ⟨rfl,rfl⟩))
    exact bodyPost_ret (v:=.tuple #[.agg #[.int .i64 2,.int .i64 (i:Nat),.string (bs g),.int .i32 0],.bool true]) (by simp [results,Tryz.results79,go_sem,hz,hc]) rfl ⟨by rw [HN.out.hit hlt (by rw [HG.out,HP.out]),HG.out]; rfl,by
     repeat (first | exact (((Below.refl _ _).alloc (Nat.le_refl _) _).trans (hb.mono (by simp))) | refine Below.setCell ?_ (by simp) _ | refine Below.alloc ?_ (by simp; omega) _)⟩
  ·go_wp2
   exact bodyPost_ret (v:=.tuple #[.agg #[.int .i64 0,.int .i64 0,.string ⟨#[]⟩,.int .i32 0],.bool false]) (by simp [results,Tryz.results79,go_sem,hz,hc]) rfl ⟨by rw [HN.out.last (by omega)]; exact ⟨_,_,_,_,rfl⟩,by
    repeat (first | exact (((Below.refl _ _).alloc (Nat.le_refl _) _).trans (hb.mono (by simp))) | refine Below.setCell ?_ (by simp) _ | refine Below.alloc ?_ (by simp; omega) _)⟩
def OneAny:Prop:=∀ (s:ByteArray) (hs:s.size≤100000) (i:Nat) (hi:i<s.size) (w:World),
  Calls Tryz.prog 79 #[.string s,.int .i64 (i:Nat)] w fun e w'=>OnePost (u2j (s.data.toList.drop i)) i e∧Below w.heap.size w w'
theorem one_bad (H:OneAny) (s:ByteArray) (hs:s.size≤100000) (i:Nat) (hi:i<s.size) (h:u2j (s.data.toList.drop i)=none) (w:World) :
  Calls Tryz.prog 79 #[.string s,.int .i64 (i:Nat)] w fun e w'=>(∃ k p x n,e=.returned (.tuple #[.agg #[.int .i64 k,.int .i64 p,.string x,.int .i32 n],.bool false]))∧Below w.heap.size w w':=by
 have:=H s hs i hi w
 rw [h] at this
 exact this
theorem one_good (H:OneAny) (s:ByteArray) (hs:s.size≤100000) (i:Nat) (hi:i<s.size) (t:Tok) (h:u2j (s.data.toList.drop i)=some t) (w:World) :
  Calls Tryz.prog 79 #[.string s,.int .i64 (i:Nat)] w fun e w'=>e=.returned (.tuple #[.agg #[.int .i64 t.kind,.int .i64 (i:Nat),.string (bs t.text),.int .i32 t.num],.bool true])∧Below w.heap.size w w':=by
 have:=H s hs i hi w
 rw [h] at this
 exact this
theorem rtokens_long (s:ByteArray) (hs:s.size≤maxLen) (h:4000<s.size) (w:World) :
  Calls Tryz.prog 41 #[.string s] w fun e w'=>e=.returned (.tuple #[.slice none 0 0,.int .i64 0,.int .i64 5])∧Below w.heap.size w w':=by
 unfold maxLen at hs
 go_enter Tryz.func41,Tryz.ntmps41
 go_wp2
 go_ret3
 exact ⟨rfl,Below.refl _ _⟩
def RLoopRel (s:ByteArray) (w:World) (k:Nat) (L:List Tok) (v:Value) (wr:World):Prop :=
 OwnT wr w.heap.size v L∧Below w.heap.size w wr∧u7s s.data.toList L k∧L.length≤k
set_option maxRecDepth 100000 in
set_option maxHeartbeats 4000000 in
theorem rtokens_short (H:OneAny) (s:ByteArray) (h4:s.size≤4000) (w:World) :
  Calls Tryz.prog 41 #[.string s] w fun e w'=>TokPost w.heap.size s.data.toList e w'∧Below w.heap.size w w':=by
 have HH:=hid H
 clear H
 have hd13:decide ((4000:Int)<s.size)=false:=by simp; omega
 go_enter Tryz.func41,Tryz.ntmps41
 go_wp2
 clear hd13
 go_loopw [5,6] (fun v i wr=>∃ (k:Nat) (L:List Tok),k≤s.size∧i=.int .i64 k∧RLoopRel s w k L v wr) (fun _ i _=>s.size - (intOf i).toNat)
 case atStart=>exact ⟨0,[],Nat.zero_le _,rfl,OwnT.nil _ _,Below.refl _ _,u7s.zero _,by simp⟩
 case round =>
  obtain ⟨k,L,hk,rfl,hr⟩:=hrel
  have HR:=hid hr
  have hwr:=hr.2.1.size
  have hLk:=hr.2.2.2
  clear hr
  by_cases hks:k<s.size
  ·by_cases h35:(s[k].toNat:Int)=35
   ·have H35:=hid h35
    have hne:((s[k].toNat:Int) == 35)=true:=by rw [h35]; rfl
    clear h35
    obtain ⟨c,hc⟩:∃ c,cnt noE (s.data.toList.drop k)=c:=⟨_,rfl⟩
    have hcl:c≤s.size - k:=by rw [← hc]; have:=cnt_le noE (s.data.toList.drop k); rw [List.length_drop,u0n] at this; exact this
    have hc1:1≤c:=by
     rw [← hc,u5w s k hks,u7r (by unfold noE noEN; rw [H35.out]; decide)]; omega
    have HC:=hid hc
    clear hc
    go_wp2
    go_loop [6] (fun i=>∃ j:Nat,k+j≤s.size∧i=.int .i64 ((k+j:Nat):Int)∧AllUp noE (s.data.toList.drop k) j) (fun i=>s.size - (intOf i).toNat)
    case atStart=>exact ⟨0,by omega,rfl,u8l _ _⟩
    case round =>
     obtain ⟨j,hj,rfl,hall⟩:=hrel
     obtain ⟨p,hp⟩:∃ p,k+j=p:=⟨_,rfl⟩
     rw [hp] at hj ⊢
     have HP:=hid hp
     have HA:=hid hall
     clear hp hall
     by_cases hps:p<s.size
     ·have hg:Hid ((s.data.toList.drop k)[j]? = some s[p]):=hid (by rw [List.getElem?_drop,HP.out]; exact u7h s p hps)
      by_cases h10:(s[p].toNat:Int)=10
      ·have H10:=hid h10
       have hne10:((s[p].toNat:Int) != 10)=false:=by rw [h10]; rfl
       clear h10
       have hcp:Hid (k+c=p):=hid (by rw [← HC.out,HA.out.stop hg.out (by unfold noE noEN; rw [H10.out]; decide),HP.out])
       go_wp2
       go_roundw
       case rel=>exact ⟨p,L,by omega,rfl,HR.out.1,HR.out.2.1,by
        have:=HR.out.2.2.1.hash hks H35.out; rwa [HC.out,hcp.out] at this,by have:=hcp.out; omega⟩
       case measure=>simp [intOf]; have:=hcp.out; omega
      ·have hne10:((s[p].toNat:Int) != 10)=true:=by simpa using h10
       have H10:=hid h10
       clear h10
       go_wp2
       go_round
       case rel=>exact ⟨j+1,by rw [← Nat.add_assoc,HP.out]; omega,by rw [← Nat.add_assoc,HP.out]; go_num,HA.out.step hg.out (by unfold noE noEN; simpa using H10.out)⟩
       case measure=>simp [intOf]; omega
     ·have hcp:Hid (k+c=p):=hid (by rw [← HC.out,HA.out.last (by rw [List.length_drop,u0n]; have:=HP.out; omega),HP.out])
      go_wp2
      go_roundw
      case rel=>exact ⟨p,L,by omega,rfl,HR.out.1,HR.out.2.1,by
       have:=HR.out.2.2.1.hash hks H35.out; rwa [HC.out,hcp.out] at this,by have:=hcp.out; omega⟩
      case measure=>simp [intOf]; have:=hcp.out; omega
   ·have H35:=hid h35
    have hne:((s[k].toNat:Int) == 35)=false:=by simpa using h35
    clear h35
    cases hbl:blkN (s[k].toNat:Int)
    ·have HBL:=hid hbl
     clear hbl
     cases ht:u2j (s.data.toList.drop k) with
     | none =>
      have HT:=hid ht
      clear ht
      go_wp2_with (first | (go_at_call 78; refine (rblank_n _ _ HBL.out _).mono ?_; rintro e w' ⟨rfl,rfl⟩) | (go_at_call 79; refine (one_bad HH.out s (by omega) k hks HT.out _).mono ?_; rintro e w2 ⟨⟨tk,tp,tx,tn,rfl⟩,hb2⟩))
      go_ret3
      exact ⟨.inr ⟨k,HR.out.2.2.1.bad hks HBL.out H35.out HT.out,rfl⟩,(HR.out.2.1.trans (hb2.mono hwr)).alloc (Nat.le_trans hwr hb2.size) _⟩
     | some t =>
      have hm1:=u5z ht
      have hm2:=tokenAt_le ht
      rw [List.length_drop,u0n] at hm2
      obtain ⟨m,hm⟩:∃ m,t.text.length=m:=⟨_,rfl⟩
      rw [hm] at hm1 hm2
      have hts:(bs t.text).size=m:=(u3t _).trans hm
      have HT:=hid ht
      have HM:=hid hm
      clear ht hm
      go_wp2_with (first | (go_at_call 78; refine (rblank_n _ _ HBL.out _).mono ?_; rintro e w' ⟨rfl,rfl⟩) | (go_at_call 79; refine (one_good HH.out s (by omega) k hks t HT.out _).mono ?_; rintro e w2 ⟨rfl,hb2⟩; have hz2:=hb2.size) | (refine u5k rfl _ _ rfl w.heap.size u5 L { t with pos:=(k:Int) } rfl ((HR.out.1.below hb2).below ((Below.refl _ _).alloc (Nat.le_refl _) _)) (w2.heap.size+1) (by simp) rfl (by omega) (by simp; omega) ?_; intro v' w4 hown4 hbel4 hblk hsz4; have hc4:=tok_cell hblk HR.out.1 hz2; have HO4:=hid hown4; have HB4:=hid hbel4; clear hown4 hbel4 hblk hsz4))
      go_roundw
      case rel=>exact ⟨k+m,L++[{ t with pos:=(k:Int) }],by omega,by go_num,HO4.out,(HR.out.2.1.trans (hb2.mono hwr)).trans (((Below.refl _ _).alloc (by omega) _).trans HB4.out),by
       have:=HR.out.2.2.1.tok hks HBL.out H35.out HT.out; rwa [HM.out] at this,by simp; omega⟩
      case measure=>simp [intOf]; omega
    ·have HBL:=hid hbl
     clear hbl
     go_wp2_with (go_at_call 78; refine (rblank_n _ _ HBL.out _).mono ?_; rintro e w' ⟨rfl,rfl⟩)
     go_roundw
     case rel=>exact ⟨k+1,L,by omega,by go_num,HR.out.1,HR.out.2.1,HR.out.2.2.1.blank hks HBL.out,by omega⟩
     case measure=>simp [intOf]; omega
  ·go_wp2
   go_ret3
   exact ⟨.inl ⟨u5,by
    have:=HR.out.2.2.1.last (by omega)
    rw [this],rfl,by
    have:=HR.out.2.2.1.last (by omega)
    rw [this]; exact HR.out.1⟩,HR.out.2.1⟩
end Go.Proofs.YtbkhnilbgocpnaaGreatDoor.LexC
