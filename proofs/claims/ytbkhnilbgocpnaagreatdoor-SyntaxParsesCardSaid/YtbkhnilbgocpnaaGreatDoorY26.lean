import Derived.Test.YtbkhnilbgocpnaaGreatDoorY3
set_option linter.unusedVariables false
set_option linter.unusedSimpArgs false
set_option maxRecDepth 100000
set_option maxHeartbeats 2000000
open Go.Lib (hid)
namespace Go.Proofs.YtbkhnilbgocpnaaGreatDoor.LexC
open Go.ChangeShapes Go.WideShapes Go.ChangeAt Go.RowKit
def Rs (w:World) (b:Nat) (L:List (List UInt8)):Prop:=∀ k,k<L.length→w.cell? ⟨b,k,none⟩=some (.string (bs (L.getD k [])))
theorem Rs.below {w w':World} {b:Nat} {L:List (List UInt8)} (h:Rs w b L) (hb:Below w.heap.size w w'):Rs w' b L:=fun k hk =>
 (hb.cell (World.block_lt_of_cell? w _ (h k hk))).trans (h k hk)
theorem Rs.belowN {w w':World} {b N:Nat} {L:List (List UInt8)} (h:Rs w b L) (hb:Below N w w') (hN:b<N):Rs w' b L:=fun k hk =>
 (hb.cell (p:=⟨b,k,none⟩) hN).trans (h k hk)
def strA (L:List (List UInt8)):Array Value:=(L.map fun g=>Value.string (bs g)).toArray
theorem Rs.new (w:World) (L:List (List UInt8)) (ty:TypeId):Rs (w.alloc (.cells (strA L) ty)) w.heap.size L:=fun k hk=>by
 rw [cell_of_row _ _ k (strA L) ty (0,0) (by show (w.heap.push _)[w.heap.size]? = _; simp)]
 simp [strA,List.getD,hk]
set_option maxRecDepth 100000 in
theorem u8x (w:World):Calls Tryz.prog 69 #[] w fun e w'=>e=.returned (.slice (some ⟨w.heap.size,0,none⟩) 25 25)∧Rs w' w.heap.size u6j∧Below w.heap.size w w':=by
 go_enter Tryz.func69,Tryz.ntmps69
 go_wp2
 go_ret
 exact ⟨rfl,Rs.new w u6j 9,(Below.refl _ _).alloc (Nat.le_refl _) _⟩
set_option maxRecDepth 100000 in
theorem refSigns_any (w:World):Calls Tryz.prog 135 #[] w fun e w'=>e=.returned (.slice (some ⟨w.heap.size,0,none⟩) 31 31)∧Rs w' w.heap.size u4h∧Below w.heap.size w w':=by
 go_enter Tryz.func135,Tryz.ntmps135
 go_wp2
 go_ret
 exact ⟨rfl,Rs.new w u4h 9,(Below.refl _ _).alloc (Nat.le_refl _) _⟩
theorem str_eq (g:List UInt8) (s:ByteArray):((bs g).toList == s.toList)=(g == s.data.toList):=by
 rw [ByteArray.toList_eq,ByteArray.toList_eq,u3g]
def inL (L:List (List UInt8)) (t:List UInt8):Bool:=L.contains t
theorem contains_step {L:List (List UInt8)} {k:Nat} {g:List UInt8} (h:k<L.length) (hg:L.getD k []=g) (t:List UInt8):inL (L.drop k) t=((g == t) || inL (L.drop (k+1)) t):=by
 unfold inL
 have e:L[k]=g:=by rw [← hg,List.getD_eq_getElem?_getD,List.getElem?_eq_getElem h]; rfl
 rw [List.drop_eq_getElem_cons h,List.contains_cons,e]
 congr 1
 rw [Bool.eq_iff_iff,beq_iff_eq,beq_iff_eq]; exact eq_comm
theorem in_any (s:ByteArray) (L:List (List UInt8)) (n b:Nat) (hn:L.length=n) (hn4:n≤1000) (w:World) (hL:Rs w b L) :
  Calls Tryz.prog 68 #[.string s,.slice (some ⟨b,0,none⟩) n n] w fun e w'=>e=.returned (.bool (inL L s.data.toList))∧w=w':=by
 have HL:=hid hL
 have HN:=hid hn
 clear hL hn
 go_enter Tryz.func68,Tryz.ntmps68
 go_wp2
 go_loop [5] (fun i=>∃ k:Nat,k≤n∧i=.int .i64 k∧inL L s.data.toList=inL (L.drop k) s.data.toList) (fun i=>n - (intOf i).toNat)
 case atStart=>exact ⟨0,Nat.zero_le _,rfl,by simp⟩
 case round =>
  obtain ⟨k,hk,rfl,hc⟩:=hrel
  have HC:=hid hc
  clear hc
  by_cases hlt:k<n
  ·obtain ⟨g,hg⟩:∃ g,L.getD k []=g:=⟨_,rfl⟩
   have hcell:=HL.out k (by rw [HN.out]; exact hlt)
   rw [hg] at hcell
   have HS:=hid (contains_step (by rw [HN.out]; exact hlt) hg s.data.toList)
   have HG:=hid hg
   clear hg
   cases hq:g == s.data.toList
   ·have hq2:((bs g).toList == s.toList)=false:=(str_eq g s).trans hq
    have HQ:=hid hq
    clear hq
    go_wp2
    go_round
    case rel=>exact ⟨k+1,by omega,by go_num,by rw [HC.out,HS.out,HQ.out]; rfl⟩
    case measure=>simp [intOf]; omega
   ·have hq2:((bs g).toList == s.toList)=true:=(str_eq g s).trans hq
    have HQ:=hid hq
    clear hq
    go_wp2
    go_ret
    exact ⟨by rw [HC.out,HS.out,HQ.out]; rfl,rfl⟩
  ·go_wp2
   go_ret
   exact ⟨by rw [HC.out,List.drop_eq_nil_of_le (by rw [HN.out]; omega)]; rfl,rfl⟩
theorem inner_n (n:Int) (b:Bool) (h:innN n=b) (w:World):Calls Tryz.prog 119 #[.int .u8 n] w fun e w'=>e=.returned (.bool b)∧w=w':=by subst h; exact ref_inner n w
theorem u6o (n:Int) (b:Bool) (h:letN n=b) (w:World):Calls Tryz.prog 118 #[.int .u8 n] w fun e w'=>e=.returned (.bool b)∧w=w':=by subst h; exact ref_letter n w
theorem u8f (n:Int) (b:Bool) (h:digN n=b) (w:World):Calls Tryz.prog 133 #[.int .u8 n] w fun e w'=>e=.returned (.bool b)∧w=w':=by subst h; exact ref_digit n w
theorem rblank_n (n:Int) (b:Bool) (h:blkN n=b) (w:World):Calls Tryz.prog 78 #[.int .u8 n] w fun e w'=>e=.returned (.bool b)∧w=w':=by subst h; exact ref_blank n w
theorem end_any (digits:Bool) (p:UInt8→Bool) (hp:p=if digits then digB else innB) (s:ByteArray) (hs:s.size≤maxLen) (i:Nat) (hi:i≤s.size) (n:Nat) (hn:cnt p (s.data.toList.drop i)=n) (w:World) :
  Calls Tryz.prog 132 #[.string s,.int .i64 (i:Nat),.bool digits] w fun e w'=>e=.returned (.int .i64 ((i+n:Nat):Int))∧w=w':=by
 unfold maxLen at hs
 have HP:=hid hp
 have HN:=hid hn
 clear hp hn
 go_enter Tryz.func132,Tryz.ntmps132
 go_wp2
 go_loop [1] (fun v=>∃ k:Nat,i+k≤s.size∧v=.int .i64 ((i+k:Nat):Int)∧AllUp p (s.data.toList.drop i) k) (fun v=>s.size - (intOf v).toNat)
 case atStart=>exact ⟨0,by omega,rfl,u8l _ _⟩
 case round =>
  obtain ⟨k,hk,rfl,hall⟩:=hrel
  obtain ⟨j,hj⟩:∃ j,i+k=j:=⟨_,rfl⟩
  rw [hj] at hk ⊢
  have HA:=hid hall
  have HJ:=hid hj
  clear hall hj
  by_cases hlt:j<s.size
  ·have hg:Hid ((s.data.toList.drop i)[k]? = some s[j]):=hid (by rw [List.getElem?_drop,HJ.out]; exact u7h s j hlt)
   cases digits
   ·cases hd:digN (s[j].toNat:Int)
    ·cases hi:innN (s[j].toNat:Int)
     ·have HD:=hid hd
      have HI:=hid hi
      clear hd hi
      go_wp2_with (first | (go_at_call 133; refine (u8f _ _ HD.out _).mono ?_; rintro e w' ⟨rfl,rfl⟩) | (go_at_call 119; refine (inner_n _ _ HI.out _).mono ?_; rintro e w' ⟨rfl,rfl⟩))
      go_ret
      exact ⟨u9w (by rw [← HN.out,HA.out.stop hg.out (by rw [HP.out]; exact HI.out),HJ.out]),rfl⟩
     ·have HD:=hid hd
      have HI:=hid hi
      clear hd hi
      go_wp2_with (first | (go_at_call 133; refine (u8f _ _ HD.out _).mono ?_; rintro e w' ⟨rfl,rfl⟩) | (go_at_call 119; refine (inner_n _ _ HI.out _).mono ?_; rintro e w' ⟨rfl,rfl⟩))
      go_round
      case rel=>exact ⟨k+1,by rw [← Nat.add_assoc,HJ.out]; omega,by rw [← Nat.add_assoc,HJ.out]; go_num,HA.out.step hg.out (by rw [HP.out]; exact HI.out)⟩
      case measure=>simp [intOf]; omega
    ·have HD:=hid hd
     clear hd
     go_wp2_with (first | (go_at_call 133; refine (u8f _ _ HD.out _).mono ?_; rintro e w' ⟨rfl,rfl⟩))
     go_round
     case rel=>exact ⟨k+1,by rw [← Nat.add_assoc,HJ.out]; omega,by rw [← Nat.add_assoc,HJ.out]; go_num,HA.out.step hg.out (by rw [HP.out]; exact inn_of_dig HD.out)⟩
     case measure=>simp [intOf]; omega
   ·cases hd:digN (s[j].toNat:Int)
    ·have HD:=hid hd
     clear hd
     go_wp2_with (first | (go_at_call 133; refine (u8f _ _ HD.out _).mono ?_; rintro e w' ⟨rfl,rfl⟩))
     go_ret
     exact ⟨u9w (by rw [← HN.out,HA.out.stop hg.out (by rw [HP.out]; exact HD.out),HJ.out]),rfl⟩
    ·have HD:=hid hd
     clear hd
     go_wp2_with (first | (go_at_call 133; refine (u8f _ _ HD.out _).mono ?_; rintro e w' ⟨rfl,rfl⟩))
     go_round
     case rel=>exact ⟨k+1,by rw [← Nat.add_assoc,HJ.out]; omega,by rw [← Nat.add_assoc,HJ.out]; go_num,HA.out.step hg.out (by rw [HP.out]; exact HD.out)⟩
     case measure=>simp [intOf]; omega
  ·go_wp2
   go_ret
   exact ⟨u9w (by rw [← HN.out,HA.out.last (by rw [List.length_drop,u0n]; have:=HJ.out; omega)]; have:=HJ.out; omega),rfl⟩
def shapedL:List UInt8→Bool
 | []=>false
 | c :: r=>letB c&&(c :: r).all innB
theorem allUp_all {p:UInt8→Bool} {l:List UInt8} {k:Nat} (h:AllUp p l k) (hk:l.length≤k):l.all p=true:=by
 have:=h.last hk
 have h2:=h.1
 exact (all_of_len (show (l.takeWhile p).length=l.length by unfold cnt at this; omega)).2
theorem allUp_not {p:UInt8→Bool} {l:List UInt8} {k:Nat} {c:UInt8} (h:AllUp p l k) (hc:l[k]? = some c) (hp:p c=false):l.all p=false:=by
 have:=h.stop hc hp
 have h2:=(List.getElem?_eq_some_iff.1 hc).1
 exact not_all (show (l.takeWhile p).length≠l.length by unfold cnt at this; omega)
theorem shaped_empty (w:World):Calls Tryz.prog 67 #[.string ⟨#[]⟩] w fun e w'=>e=.returned (.bool false)∧w=w':=by
 have h1:((⟨#[]⟩:ByteArray).toList == (⟨#[]⟩:ByteArray).toList)=true:=by simp
 go_enter Tryz.func67,Tryz.ntmps67
 go_wp2
 go_ret
 exact ⟨rfl,rfl⟩
theorem shaped_some (s:ByteArray) (h1:0<s.size) (hs:s.size≤maxLen) (w:World) :
  Calls Tryz.prog 67 #[.string s] w fun e w'=>e=.returned (.bool (shapedL s.data.toList))∧w=w':=by
 have hne1:s.toList.isEmpty=false:=by rw [ByteArray.toList_eq,u4m s h1]; rfl
 have hne2:(s.toList == [])=false:=by rw [ByteArray.toList_eq,u4m s h1]; rfl
 have hne:(s.toList == (⟨#[]⟩:ByteArray).toList)=false:=by rw [ByteArray.toList_eq,ByteArray.toList_eq,u4m s h1]; rfl
 unfold maxLen at hs
 cases hl:letN (s[0].toNat:Int)
 ·have HF:Hid (shapedL s.data.toList=false):=hid (by rw [u4m s h1]; show (letB s[0]&&_)=_; rw [show letB s[0]=false from hl]; rfl)
  have HL:=hid hl
  clear hl
  go_enter Tryz.func67,Tryz.ntmps67
  go_wp2_with (first | (go_at_call 118; refine (u6o _ _ HL.out _).mono ?_; rintro e w' ⟨rfl,rfl⟩))
  go_ret
  exact ⟨by rw [HF.out]; rfl,rfl⟩
 ·have HF:Hid (shapedL s.data.toList=s.data.toList.all innB):=hid (by
   rw [u4m s h1]; show (letB s[0]&&(s[0] :: s.data.toList.drop 1).all innB)=_; rw [show letB s[0]=true from hl,Bool.true_and])
  have HL:=hid hl
  clear hl
  rw [HF.out]
  obtain ⟨A,hA⟩:∃ A,s.data.toList.all innB=A:=⟨_,rfl⟩
  rw [hA]
  have HA:=hid hA
  clear hA
  go_enter Tryz.func67,Tryz.ntmps67
  go_wp2_with (first | (go_at_call 118; refine (u6o _ _ HL.out _).mono ?_; rintro e w' ⟨rfl,rfl⟩))
  go_loop [3] (fun i=>∃ k:Nat,k≤s.size∧i=.int .i64 k∧AllUp innB s.data.toList k) (fun i=>s.size - (intOf i).toNat)
  case atStart=>exact ⟨0,Nat.zero_le _,rfl,u8l _ _⟩
  case round =>
   obtain ⟨k,hk,rfl,hall⟩:=hrel
   have HU:=hid hall
   clear hall
   by_cases hlt:k<s.size
   ·have hg:=hid (u7h s k hlt)
    cases hp:innN (s[k].toNat:Int)
    ·have HP:=hid hp
     clear hp
     go_wp2_with (first | (go_at_call 119; refine (inner_n _ _ HP.out _).mono ?_; rintro e w' ⟨rfl,rfl⟩))
     go_ret
     exact ⟨by rw [← HA.out,allUp_not HU.out hg.out HP.out]; rfl,rfl⟩
    ·have HP:=hid hp
     clear hp
     go_wp2_with (first | (go_at_call 119; refine (inner_n _ _ HP.out _).mono ?_; rintro e w' ⟨rfl,rfl⟩))
     go_round
     case rel=>exact ⟨k+1,by omega,by go_num,HU.out.step hg.out HP.out⟩
     case measure=>simp [intOf]; omega
   ·go_wp2
    go_ret
    exact ⟨by rw [← HA.out,allUp_all HU.out (by rw [u0n]; omega)]; rfl,rfl⟩
theorem shaped_any (s:ByteArray) (hs:s.size≤maxLen) (w:World) :
  Calls Tryz.prog 67 #[.string s] w fun e w'=>e=.returned (.bool (shapedL s.data.toList))∧w=w':=by
 by_cases h:0<s.size
 ·exact shaped_some s h hs w
 ·have e:s=⟨#[]⟩:=by
   rw [← bs_self s]
   have:s.data.toList=[]:=List.eq_nil_of_length_eq_zero (by rw [u0n]; omega)
   rw [this]; rfl
  subst e
  exact shaped_empty w
theorem shaped_n (s:ByteArray) (hs:s.size≤maxLen) (b:Bool) (h:shapedL s.data.toList=b) (w:World) :
  Calls Tryz.prog 67 #[.string s] w fun e w'=>e=.returned (.bool b)∧w=w':=by subst h; exact shaped_any s hs w
theorem in_n (s:ByteArray) (L:List (List UInt8)) (n b:Nat) (hn:L.length=n) (hn4:n≤1000) (w:World) (hL:Rs w b L) (v:Bool) (hv:inL L s.data.toList=v) :
  Calls Tryz.prog 68 #[.string s,.slice (some ⟨b,0,none⟩) n n] w fun e w'=>e=.returned (.bool v)∧w=w':=by subst hv; exact in_any s L n b hn hn4 w hL
theorem isName_eq (l:List UInt8):u0f l=(shapedL l&&decide (l.length≤16)&&!u5r l):=by
 cases l with
 | nil=>rfl
 | cons c r=>rfl
set_option maxHeartbeats 1000000 in
theorem refName_any (s:ByteArray) (hs:s.size≤maxLen) (w:World) :
  Calls Tryz.prog 37 #[.string s] w fun e w'=>e=.returned (.bool (u0f s.data.toList))∧Below w.heap.size w w':=by
 have HN:=hid (isName_eq s.data.toList)
 cases hsh:shapedL s.data.toList
 ·have HS:=hid hsh
  clear hsh
  go_enter Tryz.func37,Tryz.ntmps37
  go_wp2_with (first | (go_at_call 67; refine (shaped_n s hs _ HS.out _).mono ?_; rintro e w' ⟨rfl,rfl⟩))
  go_ret
  exact ⟨by rw [HN.out,HS.out]; rfl,Below.refl _ _⟩
 ·have HS:=hid hsh
  clear hsh
  by_cases h16:s.size≤16
  ·cases hw:u5r s.data.toList
   all_goals
    have HW:=hid hw
    clear hw
    go_enter Tryz.func37,Tryz.ntmps37
    go_wp2_with (first | (go_at_call 67; refine (shaped_n s hs _ HS.out _).mono ?_; rintro e w' ⟨rfl,rfl⟩) | (go_at_call 69; refine (u8x _).mono ?_; rintro e w1 ⟨rfl,hr,hb⟩) | (go_at_call 68; refine (in_n s u6j 25 _ rfl (by omega) _ hr _ HW.out).mono ?_; rintro e w' ⟨rfl,rfl⟩))
    go_ret
    exact ⟨by rw [HN.out,HS.out,HW.out,decide_eq_true (by rw [u0n]; exact h16)]; rfl,hb⟩
  ·go_enter Tryz.func37,Tryz.ntmps37
   go_wp2_with (first | (go_at_call 67; refine (shaped_n s hs _ HS.out _).mono ?_; rintro e w' ⟨rfl,rfl⟩))
   go_ret
   exact ⟨by rw [HN.out,HS.out,decide_eq_false (by rw [u0n]; exact h16)]; rfl,Below.refl _ _⟩
end Go.Proofs.YtbkhnilbgocpnaaGreatDoor.LexC
