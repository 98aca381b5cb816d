import Derived.Test.YtbkhnilbgocpnaaGreatDoorRows
import Derived.WalkKit
import Derived.ProofKit
import Derived.Below
import Derived.LoopTactic
import Derived.Outline
import Derived.Lib.Hide
import Derived.OpenShut
import Derived.OwnWalk
import Derived.Laws.OwnMore
import Derived.Laws.IdiomStrings
import Derived.Laws.Rows
import Derived.Laws.Concat
import Derived.IntWalk
import Derived.Maps.OwnOps
import Derived.Maps.Views
import Derived.Laws.Strings
import Derived.Maps.AppendAt
import Derived.Test.YtbkhnilbgocpnaaGreatDoorK0
set_option linter.unusedVariables false
set_option linter.unusedSimpArgs false
set_option maxRecDepth 100000
set_option maxHeartbeats 2000000
open Go.Lib (hid)
namespace Go.Proofs.YtbkhnilbgocpnaaGreatDoor.LexC
open Go.ChangeShapes Go.WideShapes Go.ChangeAt Go.RowKit
theorem ret_bool {a b:Bool} (h:a=b):Ending.returned (.bool a)=.returned (.bool b):=by rw [h]
theorem ret_int {k:IntKind} {a b:Int} (h:a=b):Ending.returned (.int k a)=.returned (.int k b):=by rw [h]
def Bl (f:FuncId) (args:Array Value) (b:Bool):Prop:=∀ w:World,Calls Tryz.prog f args w fun e w'=>e=.returned (.bool b)∧w=w'
theorem lex_letter (n:Int):Bl 70 #[.int .u8 n] (letN n):=by
 intro w
 go_enter Tryz.func70,Tryz.ntmps70
 go_wp2
 all_goals
  go_ret
  exact ⟨ret_bool (by rw [Bool.eq_iff_iff]; unfold letN; simp; try omega),rfl⟩
theorem lex_digit (n:Int):Bl 115 #[.int .u8 n] (digN n):=by
 intro w
 go_enter Tryz.func115,Tryz.ntmps115
 go_wp2
 all_goals
  go_ret
  exact ⟨ret_bool (by rw [Bool.eq_iff_iff]; unfold digN; simp; try omega),rfl⟩
theorem lex_blank (n:Int):Bl 63 #[.int .u8 n] (blkN n):=by
 intro w
 go_enter Tryz.func63,Tryz.ntmps63
 go_wp2
 all_goals
  go_ret
  exact ⟨ret_bool (by rw [Bool.eq_iff_iff]; unfold blkN; simp; try omega),rfl⟩
theorem lex_inComment (n:Int):Bl 65 #[.int .u8 n] (noEN n):=by
 intro w
 go_enter Tryz.func65,Tryz.ntmps65
 go_wp2
 all_goals
  go_ret
  exact ⟨ret_bool (by rw [Bool.eq_iff_iff]; unfold noEN; simp; try omega),rfl⟩
theorem lex_inWord (n:Int):Bl 120 #[.int .u8 n] (innN n):=by
 intro w
 go_enter Tryz.func120,Tryz.ntmps120
 go_wp2_with (first | (go_at_call 70; refine (lex_letter _ _).mono ?_; rintro e w' ⟨rfl,rfl⟩) | (go_at_call 115; refine (lex_digit _ _).mono ?_; rintro e w' ⟨rfl,rfl⟩))
 all_goals
  go_ret
  exact ⟨ret_bool (by rw [Bool.eq_iff_iff]; unfold innN; simp [*]; try omega),rfl⟩
theorem count_word (s:ByteArray) (hs:s.size≤maxLen) (w:World) :
  Calls Tryz.prog 64 #[.string s,.func (.func 120) #[] #[]] w fun e w'=>e=.returned (.int .i64 (cnt innB s.data.toList:Nat))∧w=w':=by
 unfold maxLen at hs
 go_enter Tryz.func64,Tryz.ntmps64
 go_wp2
 go_loop [8] (fun i=>∃ k:Nat,k≤s.size∧i=.int .i64 k∧AllUp innB s.data.toList k) (fun i=>s.size - (intOf i).toNat)
 case atStart=>exact ⟨0,Nat.zero_le _,rfl,allUp_zero _ _⟩
 case round =>
  obtain ⟨k,hk,rfl,hall⟩:=hrel
  by_cases hlt:k<s.size
  ·have hg:=hid (get_toList s k hlt)
   cases hp:innN (s[k].toNat:Int)
   ·go_wp2_with fail
    refine (lex_inWord _ _).mono ?_
    rintro e w' ⟨rfl,rfl⟩
    go_wp2
    go_ret
    exact ⟨ret_int (by rw [hall.stop hg.out hp]),rfl⟩
   ·go_wp2_with fail
    refine (lex_inWord _ _).mono ?_
    rintro e w' ⟨rfl,rfl⟩
    go_wp2
    go_round
    case rel=>exact ⟨k+1,by omega,by go_num,hall.step hg.out hp⟩
    case measure=>simp [intOf]; omega
  ·go_wp2
   go_ret
   exact ⟨ret_int (by rw [hall.last (by rw [u0l]; omega)]; go_num),rfl⟩
theorem count_digit (s:ByteArray) (hs:s.size≤maxLen) (w:World) :
  Calls Tryz.prog 64 #[.string s,.func (.func 115) #[] #[]] w fun e w'=>e=.returned (.int .i64 (cnt digB s.data.toList:Nat))∧w=w':=by
 unfold maxLen at hs
 go_enter Tryz.func64,Tryz.ntmps64
 go_wp2
 go_loop [8] (fun i=>∃ k:Nat,k≤s.size∧i=.int .i64 k∧AllUp digB s.data.toList k) (fun i=>s.size - (intOf i).toNat)
 case atStart=>exact ⟨0,Nat.zero_le _,rfl,allUp_zero _ _⟩
 case round =>
  obtain ⟨k,hk,rfl,hall⟩:=hrel
  by_cases hlt:k<s.size
  ·have hg:=hid (get_toList s k hlt)
   cases hp:digN (s[k].toNat:Int)
   ·go_wp2_with fail
    refine (lex_digit _ _).mono ?_
    rintro e w' ⟨rfl,rfl⟩
    go_wp2
    go_ret
    exact ⟨ret_int (by rw [hall.stop hg.out hp]),rfl⟩
   ·go_wp2_with fail
    refine (lex_digit _ _).mono ?_
    rintro e w' ⟨rfl,rfl⟩
    go_wp2
    go_round
    case rel=>exact ⟨k+1,by omega,by go_num,hall.step hg.out hp⟩
    case measure=>simp [intOf]; omega
  ·go_wp2
   go_ret
   exact ⟨ret_int (by rw [hall.last (by rw [u0l]; omega)]; go_num),rfl⟩
theorem count_comment (s:ByteArray) (hs:s.size≤maxLen) (w:World) :
  Calls Tryz.prog 64 #[.string s,.func (.func 65) #[] #[]] w fun e w'=>e=.returned (.int .i64 (cnt noE s.data.toList:Nat))∧w=w':=by
 unfold maxLen at hs
 go_enter Tryz.func64,Tryz.ntmps64
 go_wp2
 go_loop [8] (fun i=>∃ k:Nat,k≤s.size∧i=.int .i64 k∧AllUp noE s.data.toList k) (fun i=>s.size - (intOf i).toNat)
 case atStart=>exact ⟨0,Nat.zero_le _,rfl,allUp_zero _ _⟩
 case round =>
  obtain ⟨k,hk,rfl,hall⟩:=hrel
  by_cases hlt:k<s.size
  ·have hg:=hid (get_toList s k hlt)
   cases hp:noEN (s[k].toNat:Int)
   ·go_wp2_with fail
    refine (lex_inComment _ _).mono ?_
    rintro e w' ⟨rfl,rfl⟩
    go_wp2
    go_ret
    exact ⟨ret_int (by rw [hall.stop hg.out hp]),rfl⟩
   ·go_wp2_with fail
    refine (lex_inComment _ _).mono ?_
    rintro e w' ⟨rfl,rfl⟩
    go_wp2
    go_round
    case rel=>exact ⟨k+1,by omega,by go_num,hall.step hg.out hp⟩
    case measure=>simp [intOf]; omega
  ·go_wp2
   go_ret
   exact ⟨ret_int (by rw [hall.last (by rw [u0l]; omega)]; go_num),rfl⟩
def byteV (c:UInt8):Value:=.int .u8 (c.toNat:Int)
def u1x (l:List UInt8):List Value:=l.map byteV
theorem byteCells_len (l:List UInt8):(u1x l).length=l.length:=by simp [u1x]
theorem byteCells_append (l m:List UInt8):u1x l++u1x m=u1x (l++m):=by simp [u1x]
theorem byteCells_one (l:List UInt8):∀ u∈u1x l,u.oneCell'=true:=by
 intro u hu
 obtain ⟨_,_,rfl⟩:=List.mem_map.1 hu
 rfl
def Rb (w:World) (X:Value) (l:List UInt8):Prop :=
 (X=.slice none 0 0∧l=[])∨∃ x c,X=.slice (some x) l.length c∧∀ j u,(u1x l)[j]? = some u→w.cell? (x.add j)=some u
theorem Rb.own {w:World} {base n:Nat} {v:Value} {l:List UInt8} (h:w.ownsRow base 5 1 v n (u1x l)):Rb w v l:=by
 have hl:l.length=n:=by have:=h.1; rw [byteCells_len] at this; omega
 rcases h.2 with ⟨hv,hn⟩ | ⟨g,cap,cur,hv,_,_⟩
 ·exact .inl ⟨hv,List.eq_nil_of_length_eq_zero (hl.trans hn)⟩
 ·refine .inr ⟨⟨g,0,none⟩,cap,by rw [hv,hl],fun j u hu=>h.cells (by rw [hv]; rfl) j u hu⟩
theorem Rb.back {w:World} {X:Value} {l:List UInt8} (h:Rb w X l):(convert 47 9 X).run Tryz.prog w=.ok (.string (bs l)) w:=by
 rcases h with ⟨hX,hl⟩ | ⟨x,c,hX,hc⟩
 ·subst hX; subst hl
  rw [run_convert_bytes_string w 47 9 5 none 0 0 Tryz.underlying47 Tryz.underlying5 Tryz.underlying9]
  simp [Conv.bytesToString]
  rfl
 ·subst hX
  exact run_convert_bytes_back w 47 9 5 x c l Tryz.underlying47 Tryz.underlying5 Tryz.underlying9 (fun j hj=>hc j _ (by simp [u1x,hj,byteV]))
theorem wpList_to_bytes {ops:Array Oper} {rest:List Oper} {o:Oper} {a:Act} {w:World} {Q:Exit→Act→World→Prop} (hgd:o.guard=none) (x:Operand) (ho:o.op=.convert 9 47 x) (s:ByteArray) (hx:a.eval x=.string s)
  (h:∀ X w',Rb w' X s.data.toList→Below w.heap.size w w'→wpList Tryz.prog ops Q rest (a.put o.dst X) w'):wpList Tryz.prog ops Q (o :: rest) a w:=by
 have hr:=run_bytes_of_string (P:=Tryz.prog) w 9 47 5 s Tryz.underlying9 Tryz.underlying47 Tryz.underlying5
 refine wpList_plain hgd fun _ hK=>?_
 unfold Oper.wp execOp
 simp only [ho,hx,Sem.run_bind,hr,Sem.run_pure,Result.andThen_ok]
 refine hK _ _ (h _ _ (.inr ⟨⟨w.heap.size,0,none⟩,_,by rw [u0l],fun j u hu=>?_⟩) ?_)
 ·obtain ⟨hj,hu'⟩:=List.getElem?_eq_some_iff.1 hu
  rw [byteCells_len] at hj
  have hj':j<s.size:=by rw [← u0l]; exact hj
  have hadd:(⟨w.heap.size,0,none⟩:Addr).add j=⟨w.heap.size,j,none⟩:=by unfold Addr.add; split <;> simp_all
  rw [hadd]
  have hw:(w.drew.alloc (.cells (bytesRow s (grownCap w s.size 0 5)) 5 ((bytesRow s (grownCap w s.size 0 5)).size,(bytesRow s (grownCap w s.size 0 5)).size+1))).heap[w.heap.size]? = some (.cells (bytesRow s (grownCap w s.size 0 5)) 5 ((bytesRow s (grownCap w s.size 0 5)).size,(bytesRow s (grownCap w s.size 0 5)).size+1)):=by
   show (w.heap.push _)[w.heap.size]? = _
   simp
  rw [cell_of_row _ _ j _ 5 _ hw]
  have hd:j<(s.data.map (fun b=>Value.int .u8 b.toNat)).size:=by rw [Array.size_map]; exact hj'
  simp only [bytesRow]
  rw [Array.getElem?_append_left hd,Array.getElem?_eq_getElem hd]
  simp [u1x,byteV] at hu'
  simp [← hu']
 ·exact (Below.refl _ _).drew.alloc (Nat.le_refl _) _
theorem wpList_of_bytes {ops:Array Oper} {rest:List Oper} {o:Oper} {a:Act} {w:World} {Q:Exit→Act→World→Prop} (hgd:o.guard=none) (x:Operand) (ho:o.op=.convert 47 9 x) (X:Value) (l:List UInt8) (hx:a.eval x=X) (hR:Rb w X l)
  (h:wpList Tryz.prog ops Q rest (a.put o.dst (.string (bs l))) w):wpList Tryz.prog ops Q (o :: rest) a w:=by
 refine wpList_plain hgd fun _ hK=>?_
 unfold Oper.wp execOp
 simp only [ho,hx,Sem.run_bind,hR.back,Sem.run_pure,Result.andThen_ok]
 exact hK _ _ h
theorem bcell {W w1:World} (hb:Below W.heap.size W w1):(∀ b o,b<W.heap.size→w1.cell? ⟨b,o,none⟩=W.cell? ⟨b,o,none⟩)∧(∀ b o,b<W.heap.size→w1.frozen? ⟨b,o,none⟩=W.frozen? ⟨b,o,none⟩) :=
 ⟨fun b o h=>hb.cell (p:=⟨b,o,none⟩) h,fun b o h=>hb.frozen (p:=⟨b,o,none⟩) h⟩
theorem u5w (k:Int) (s:ByteArray) (hs:s.size≤maxLen) (w:World) :
  Calls Tryz.prog 121 #[.int .i64 k,.string s] w fun e w'=>e=.returned (.agg #[.int .i64 k,.int .i64 0,.string s,.int .i32 0])∧Below w.heap.size w w':=by
 go_enter Tryz.func121,Tryz.ntmps121
 go_wp2_with (first | (refine wpList_to_bytes rfl _ rfl s rfl ?_; intro X w1 hX hb; obtain ⟨hc,hf⟩:=bcell hb; have hz:=hb.size) | (refine wpList_of_bytes rfl _ rfl _ _ rfl hX ?_; rw [u7j]))
 exact bodyPost_ret (v:=.agg #[.int .i64 k,.int .i64 0,.string s,.int .i32 0]) (by simp [results,Tryz.results121,go_sem,hc,hf]) rfl ⟨rfl,by
  repeat (first | exact ((Below.refl _ _).alloc (Nat.le_refl _) _).trans (hb.mono (by simp)) | refine Below.setCell ?_ (by simp) _)⟩
def AllDig (l:List UInt8):Prop:=∀ c∈l,digB c=true
theorem AllDig.at_ {s:ByteArray} (h:AllDig s.data.toList) (k:Nat) (hk:k<s.size):(48:Int)≤s[k].toNat∧(s[k].toNat:Int)≤57:=by
 have h1:=h s[k] (List.mem_of_getElem? (get_toList s k hk))
 unfold digB digN at h1
 simpa using h1
theorem val_step {s:ByteArray} {k:Nat} (hk:k<s.size) (a:Int) :
  u2y a (s.data.toList.drop k)=if 2147483648<a * 10+((s[k].toNat:Int) - 48) then none else u2y (a * 10+((s[k].toNat:Int) - 48)) (s.data.toList.drop (k+1)):=by
 rw [u6b s k hk]; rfl
theorem val_end {s:ByteArray} {k:Nat} (hk:s.size≤k) (a:Int):u2y a (s.data.toList.drop k)=some a:=by
 rw [drop_nil s k hk]; rfl
def ValRel (s:ByteArray) (k:Nat) (a:Int):Prop:=0≤a∧a≤2147483648∧u2y 0 s.data.toList=u2y a (s.data.toList.drop k)
def valI (o:Option Int):Int:=match o with | some v=>wrap32 v | none=>0
theorem wrap_val (a:Int) (h0:0≤a) (h1:a≤2147483648):RowKit.wrap32 a=wrap32 a:=by
 unfold RowKit.wrap32 wrap32; split <;> omega
theorem value_any (s:ByteArray) (hs:s.size≤maxLen) (hd:AllDig s.data.toList) (w:World) :
  Calls Tryz.prog 170 #[.string s] w fun e w'=>e=.returned (.tuple #[.int .i32 (valI (u2y 0 s.data.toList)),.bool (u2y 0 s.data.toList).isSome])∧w=w':=by
 unfold maxLen at hs
 have HD:=hid hd
 clear hd
 go_enter Tryz.func170,Tryz.ntmps170
 go_wp2
 go_loop [4,8] (fun v i=>∃ (k:Nat) (a:Int),k≤s.size∧i=.int .i64 k∧v=.int .i64 a∧ValRel s k a) (fun _ i=>s.size - (intOf i).toNat)
 case atStart=>exact ⟨0,0,Nat.zero_le _,rfl,rfl,by omega,by omega,by simp⟩
 case round =>
  obtain ⟨k,a,hk,rfl,rfl,h0,h1,hv⟩:=hrel
  have HV:=hid hv
  clear hv
  by_cases hlt:k<s.size
  ·obtain ⟨d0,d1⟩:=HD.out.at_ k hlt
   have hst:=hid (val_step hlt a)
   by_cases hbig:2147483648<a * 10+((s[k].toNat:Int) - 48)
   ·go_wp2
    go_ret2
    exact ⟨by rw [HV.out,hst.out,if_pos hbig]; rfl,rfl⟩
   ·go_wp2
    go_round
    case rel=>exact ⟨k+1,a * 10+((s[k].toNat:Int) - 48),by omega,by go_num,rfl,by omega,by omega,by rw [HV.out,hst.out,if_neg hbig]⟩
    case measure=>simp [intOf]; omega
  ·have he:=hid (val_end (s:=s) (k:=k) (by omega) a)
   go_wp2
   go_ret2
   exact ⟨by rw [HV.out,he.out,wrap_val a h0 h1]; rfl,rfl⟩
end Go.Proofs.YtbkhnilbgocpnaaGreatDoor.LexC
namespace Go.Proofs.YtbkhnilbgocpnaaGreatDoor.LexC
open Go.ChangeShapes Go.WideShapes Go.ChangeAt Go.RowKit
open Go.WideMaps (keyOf_string_mk)
def u2v (w:World) (b n:Nat) (L:List (List UInt8)):Prop :=
 ∃ D:DataW Unit,w.ownsMap Tryz.prog 9 (plainElem Tryz.prog 4) b n D∧Maps.IsMap D∧∀ k,D.atKey (.string k) (.lit (.bool false))=.lit (.bool (L.contains k))
theorem u2v.made (w:World):u2v (w.alloc (.map #[] 0)) w.heap.size 0 [] :=
 ⟨.map [],World.ownsMap_made _ _ _ _,Maps.isMap_empty,fun _=>rfl⟩
theorem u2v.below {w w':World} {b n:Nat} {L:List (List UInt8)} (h:u2v w b n L) (hb:Below w.heap.size w w'):u2v w' b n L:=by
 obtain ⟨D,h1,h2,h3⟩:=h
 exact ⟨D,h1.kept (row:=none) ⟨hb.os,hb.tape,hb.output,hb.size,fun i hi _=>hb.block i hi⟩ (by simp),h2,h3⟩
theorem u2v.lt {w:World} {b n:Nat} {L:List (List UInt8)} (h:u2v w b n L):b<w.heap.size:=by
 obtain ⟨D,h1,_⟩:=h
 exact h1.lt
theorem wpList_insert_word {ops:Array Oper} {rest:List Oper} {o:Oper} {a:Act} {w:World} {Q:Exit→Act→World→Prop} (hg:o.guard=none) (m:Operand) (k:ByteArray)
  (hop:o.op=Op.insert 108 m (.const (.string k)) (.const (.bool true))) (b n:Nat) (L:List (List UInt8)) (hm:a.eval m=.map (some b)) (hown:u2v w b n L) (hn:n<maxLen) (hk:k.size≤maxLen)
  (hK:∀ w',u2v w' b (n+1) (k.data.toList :: L)→w.grownBy w' (some b)→wpList Tryz.prog ops Q rest (a.put o.dst undef) w') :
  wpList Tryz.prog ops Q (o :: rest) a w:=by
 obtain ⟨D,h1,h2,h3⟩:=hown
 refine wpList_plain hg fun K' hK'=>?_
 obtain ⟨w',hrun,r1,r2⟩:=h1.update (Maps.string_keyed Tryz.underlying9) Tryz.underlying108 hn (keyOf_string_mk (s:=k) Tryz.underlying9 hk) (plainElem_bool Tryz.underlying4 true)
 unfold Oper.wp
 have e1:a.eval (.const (.string k))=.string k:=rfl
 have e2:a.eval (.const (.bool true))=.bool true:=rfl
 simp [execOp,hop,hm,e1,e2,hrun,Result.andThen]
 refine hK' _ _ (hK w' ⟨_,r1,h2.put _ _,fun q=>?_⟩ r2)
 by_cases hq:q=k.data.toList
 ·subst hq
  rw [Maps.atKey_put_same h2 (by trivial)]
  simp
 ·rw [Maps.atKey_put_other (by intro e; cases e; exact hq rfl),h3]
  simp [hq]
set_option maxRecDepth 100000 in
theorem wpList_lookup_word {ops:Array Oper} {rest:List Oper} {o:Oper} {a:Act} {w:World} {Q:Exit→Act→World→Prop} (hg:o.guard=none) (m x:Operand)
  (hop:o.op=Op.lookup 108 m x false) (b n:Nat) (L:List (List UInt8)) (hm:a.eval m=.map (some b)) (hown:u2v w b n L) (s:ByteArray) (hx:a.eval x=.string s) (hs:s.size≤maxLen)
  (hK:wpList Tryz.prog ops Q rest (a.put o.dst (.bool (L.contains s.data.toList))) w) :
  wpList Tryz.prog ops Q (o :: rest) a w:=by
 obtain ⟨D,h1,h2,h3⟩:=hown
 refine wpList_plain hg fun K' hK'=>?_
 obtain ⟨v,ps,hrun,hv⟩:=h1.lookup (Maps.string_keyed Tryz.underlying9) Tryz.underlying108 (z:=.bool false) (by kernel_rfl) (plainElem_bool Tryz.underlying4 false) (keyOf_string_mk (s:=s) Tryz.underlying9 hs)
 have e:v=.bool (L.contains s.data.toList):=by
  rw [h3] at hv
  unfold plainElem at hv
  rw [Tryz.underlying4] at hv
  cases v <;> simp at hv
  rw [hv.1]
  simp
 unfold Oper.wp
 simp [execOp,hop,hm,hx,hrun,Result.andThen]
 exact hK' _ _ (e ▸ hK)
end Go.Proofs.YtbkhnilbgocpnaaGreatDoor.LexC
namespace Go.Proofs.YtbkhnilbgocpnaaGreatDoor.LexC
open Go.ChangeShapes Go.WideShapes Go.ChangeAt Go.RowKit
def tokR:Option Tok→Value
 | some t=>.tuple #[.agg #[.int .i64 t.kind,.int .i64 t.pos,.string (bs t.text),.int .i32 t.num],.bool true]
 | none=>.tuple #[.agg #[.int .i64 0,.int .i64 0,.string ⟨#[]⟩,.int .i32 0],.bool false]
theorem u4y (s:ByteArray) (hs:s.size≤maxLen) (n:Nat) (h:cnt digB s.data.toList=n) (w:World) :
  Calls Tryz.prog 64 #[.string s,.func (.func 115) #[] #[]] w fun e w'=>e=.returned (.int .i64 (n:Nat))∧w=w':=by
 subst h; exact count_digit s hs w
theorem value_n (s:ByteArray) (hs:s.size≤maxLen) (hd:AllDig s.data.toList) (r:Int) (b:Bool) (hr:valI (u2y 0 s.data.toList)=r) (hb:(u2y 0 s.data.toList).isSome=b) (w:World) :
  Calls Tryz.prog 170 #[.string s] w fun e w'=>e=.returned (.tuple #[.int .i32 r,.bool b])∧w=w':=by
 subst hr; subst hb; exact value_any s hs hd w
theorem headInn_at {s:ByteArray} {n:Nat} (h:n<s.size):u7i (s.data.toList.drop n)=innN (s[n].toNat:Int):=by
 rw [u6b s n h]; rfl
theorem headInn_end {s:ByteArray} {n:Nat} (h:s.size≤n):u7i (s.data.toList.drop n)=false:=by
 rw [drop_nil s n h]; rfl
theorem inWord_n (n:Int) (b:Bool) (h:innN n=b) (w:World):Calls Tryz.prog 120 #[.int .u8 n] w fun e w'=>e=.returned (.bool b)∧w=w':=by subst h; exact lex_inWord n w
theorem digits_front (s:ByteArray) (n:Nat) (h:cnt digB s.data.toList=n):n≤s.size∧(s.extract 0 n).data.toList=s.data.toList.takeWhile digB∧AllDig (s.extract 0 n).data.toList:=by
 have e:(s.extract 0 n).data.toList=s.data.toList.takeWhile digB:=by rw [u5r]; simp; rw [← h,take_cnt]
 refine ⟨by rw [← h,← u0l]; exact cnt_le _ _,e,?_⟩
 rw [e]; exact u4e
theorem intTok_head {l:List UInt8} {n:Nat} (h:cnt digB l=n) (hh:u7i (l.drop n)=true):u7c l=none:=by
 unfold u7c
 rw [show (l.takeWhile digB).length=n from h,if_pos hh]
theorem intTok_val {l:List UInt8} {n:Nat} (h:cnt digB l=n) (hh:u7i (l.drop n)=false):u7c l=(u2y 0 (l.takeWhile digB)).map fun v=>⟨1,0,l.takeWhile digB,wrap32 v⟩:=by
 unfold u7c
 rw [show (l.takeWhile digB).length=n from h,if_neg (by rw [hh]; decide)]
set_option maxHeartbeats 2000000 in
theorem readInteger_any (s:ByteArray) (hs:s.size≤maxLen) (w:World) :
  Calls Tryz.prog 116 #[.string s] w fun e w'=>e=.returned (tokR (u7c s.data.toList))∧Below w.heap.size w w':=by
 obtain ⟨n,hn⟩:∃ n,cnt digB s.data.toList=n:=⟨_,rfl⟩
 obtain ⟨hle,hX0,hA0⟩:=digits_front s n hn
 have hx:(s.extract 0 n).size≤maxLen:=by
  rw [← u0l,hX0]; have:=cnt_le digB s.data.toList; unfold cnt at this; rw [u0l] at this; omega
 have hX:=hid hX0
 have hA:=hid hA0
 clear hX0 hA0
 unfold maxLen at hs
 by_cases hlt:n<s.size
 ·cases hi:innN (s[n].toNat:Int)
  ·have hT:=hid (intTok_val hn ((headInn_at hlt).trans hi))
   have HN:=hid hn
   have HI:=hid hi
   clear hn hi
   cases hv:u2y 0 (s.data.toList.takeWhile digB) with
   | none =>
    have HV:=hid hv
    clear hv
    go_enter Tryz.func116,Tryz.ntmps116
    go_wp2_with (first | (go_at_call 64; refine (u4y s (by unfold maxLen; omega) n HN.out _).mono ?_; rintro e w' ⟨rfl,rfl⟩) | (go_at_call 120; refine (inWord_n _ false HI.out _).mono ?_; rintro e w' ⟨rfl,rfl⟩) | (go_at_call 170; refine (value_n (s.extract 0 n) hx hA.out 0 false (by rw [hX.out,HV.out]; rfl) (by rw [hX.out,HV.out]; rfl) _).mono ?_; rintro e w' ⟨rfl,rfl⟩))
    exact bodyPost_ret (v:=tokR none) (by simp [tokR,results,Tryz.results116,go_sem]) rfl ⟨by rw [hT.out,HV.out]; rfl,by
     repeat (first | exact (Below.refl _ _) | refine Below.setCell ?_ (by simp) _ | refine Below.alloc ?_ (by simp) _)⟩
   | some v =>
    have HV:=hid hv
    clear hv
    go_enter Tryz.func116,Tryz.ntmps116
    go_wp2_with (first | (go_at_call 64; refine (u4y s (by unfold maxLen; omega) n HN.out _).mono ?_; rintro e w' ⟨rfl,rfl⟩) | (go_at_call 120; refine (inWord_n _ false HI.out _).mono ?_; rintro e w' ⟨rfl,rfl⟩) | (go_at_call 170; refine (value_n (s.extract 0 n) hx hA.out (wrap32 v) true (by rw [hX.out,HV.out]; rfl) (by rw [hX.out,HV.out]; rfl) _).mono ?_; rintro e w' ⟨rfl,rfl⟩) | (go_at_call 121; refine (u5w 1 (s.extract 0 n) hx _).mono ?_; rintro e w1 ⟨rfl,hb⟩; obtain ⟨hc,hf⟩:=bcell hb; have hz:w.heap.size<w1.heap.size:=(by have:=hb.size; simp at this; omega)))
    exact bodyPost_ret (v:=.tuple #[.agg #[.int .i64 1,.int .i64 0,.string (s.extract 0 n),.int .i32 (wrap32 v)],.bool true]) (by simp [results,Tryz.results116,go_sem,hz,hc]) rfl ⟨by rw [hT.out,HV.out]; rw [eq_bs hX.out]; rfl,by
     repeat (first | exact (((Below.refl _ _).alloc (Nat.le_refl _) _).trans (hb.mono (by simp))) | refine Below.setCell ?_ (by simp) _ | refine Below.alloc ?_ (by simp; omega) _)⟩
  ·have hT:=hid (intTok_head hn ((headInn_at hlt).trans hi))
   have HN:=hid hn
   have HI:=hid hi
   clear hn hi
   go_enter Tryz.func116,Tryz.ntmps116
   go_wp2_with (first | (go_at_call 64; refine (u4y s (by unfold maxLen; omega) n HN.out _).mono ?_; rintro e w' ⟨rfl,rfl⟩) | (go_at_call 120; refine (inWord_n _ true HI.out _).mono ?_; rintro e w' ⟨rfl,rfl⟩))
   exact bodyPost_ret (v:=tokR none) (by simp [tokR,results,Tryz.results116,go_sem]) rfl ⟨by rw [hT.out],by
    repeat (first | exact (Below.refl _ _) | refine Below.setCell ?_ (by simp) _ | refine Below.alloc ?_ (by simp) _)⟩
 ·have hT:=hid (intTok_val hn (headInn_end (s:=s) (by omega)))
  have HN:=hid hn
  clear hn
  cases hv:u2y 0 (s.data.toList.takeWhile digB) with
  | none =>
   have HV:=hid hv
   clear hv
   go_enter Tryz.func116,Tryz.ntmps116
   go_wp2_with (first | (go_at_call 64; refine (u4y s (by unfold maxLen; omega) n HN.out _).mono ?_; rintro e w' ⟨rfl,rfl⟩) | (go_at_call 170; refine (value_n (s.extract 0 n) hx hA.out 0 false (by rw [hX.out,HV.out]; rfl) (by rw [hX.out,HV.out]; rfl) _).mono ?_; rintro e w' ⟨rfl,rfl⟩))
   exact bodyPost_ret (v:=tokR none) (by simp [tokR,results,Tryz.results116,go_sem]) rfl ⟨by rw [hT.out,HV.out]; rfl,by
    repeat (first | exact (Below.refl _ _) | refine Below.setCell ?_ (by simp) _ | refine Below.alloc ?_ (by simp) _)⟩
  | some v =>
   have HV:=hid hv
   clear hv
   go_enter Tryz.func116,Tryz.ntmps116
   go_wp2_with (first | (go_at_call 64; refine (u4y s (by unfold maxLen; omega) n HN.out _).mono ?_; rintro e w' ⟨rfl,rfl⟩) | (go_at_call 170; refine (value_n (s.extract 0 n) hx hA.out (wrap32 v) true (by rw [hX.out,HV.out]; rfl) (by rw [hX.out,HV.out]; rfl) _).mono ?_; rintro e w' ⟨rfl,rfl⟩) | (go_at_call 121; refine (u5w 1 (s.extract 0 n) hx _).mono ?_; rintro e w1 ⟨rfl,hb⟩; obtain ⟨hc,hf⟩:=bcell hb; have hz:w.heap.size<w1.heap.size:=(by have:=hb.size; simp at this; omega)))
   exact bodyPost_ret (v:=.tuple #[.agg #[.int .i64 1,.int .i64 0,.string (s.extract 0 n),.int .i32 (wrap32 v)],.bool true]) (by simp [results,Tryz.results116,go_sem,hz,hc]) rfl ⟨by rw [hT.out,HV.out]; rw [eq_bs hX.out]; rfl,by
    repeat (first | exact (((Below.refl _ _).alloc (Nat.le_refl _) _).trans (hb.mono (by simp))) | refine Below.setCell ?_ (by simp) _ | refine Below.alloc ?_ (by simp; omega) _)⟩
theorem wpList_insert_next {ops:Array Oper} {rest:List Oper} {o:Oper} {a:Act} {w:World} {Q:Exit→Act→World→Prop} (hg:o.guard=none) (m:Operand) (k:ByteArray)
  (hop:o.op=Op.insert 108 m (.const (.string k)) (.const (.bool true))) (B n:Nat) (L:List (List UInt8)) (w0:World) (hm:a.eval m=.map (some B)) (hown:u2v w B n L∧Below B w0 w) (hn:n<1000) (hk:k.size<1000)
  (hK:∀ w',u2v w' B (n+1) (k.data.toList :: L)∧Below B w0 w'→wpList Tryz.prog ops Q rest (a.put o.dst undef) w') :
  wpList Tryz.prog ops Q (o :: rest) a w :=
 wpList_insert_word hg m k hop B n L hm hown.1 (by unfold maxLen; omega) (by unfold maxLen; omega) fun w' h1 h2=>hK w' ⟨h1,hown.2.grown h2 (Nat.le_of_lt hown.1.lt) (fun j hj=>by cases hj; exact Nat.le_refl _)⟩
def Words (w:World) (b:Nat):Prop:=u2v w b 25 wordsL.reverse
theorem Words.below {w w':World} {b:Nat} (h:Words w b) (hb:Below w.heap.size w w'):Words w' b:=u2v.below h hb
theorem Words.lt {w:World} {b:Nat} (h:Words w b):b<w.heap.size:=u2v.lt h
set_option maxHeartbeats 1000000 in
theorem u3a (w:World):Calls Tryz.prog 62 #[] w fun e w'=>e=.returned (.map (some w.heap.size))∧Words w' w.heap.size∧Below w.heap.size w w':=by
 have hmm:=@run_makeMap Tryz.prog
 have hown:u2v (w.alloc (.map #[] 0)) w.heap.size 0 []∧Below w.heap.size w (w.alloc (.map #[] 0)):=⟨u2v.made w,(Below.refl _ _).alloc (Nat.le_refl _) _⟩
 go_enter Tryz.func62,Tryz.ntmps62
 go_wp2_with (refine wpList_insert_next rfl _ _ rfl w.heap.size _ _ w rfl hown (by omega) (by decide) ?_; clear hown; intro w1 hown)
 go_ret
 exact ⟨rfl,hown.1,hown.2⟩
theorem isWord_rev (t:List UInt8):wordsL.reverse.contains t=u4x t:=by
 unfold u4x; simp
theorem wpList_lookup_word' {ops:Array Oper} {rest:List Oper} {o:Oper} {a:Act} {w:World} {Q:Exit→Act→World→Prop} (hg:o.guard=none) (m x:Operand)
  (hop:o.op=Op.lookup 108 m x false) (b:Nat) (hm:a.eval m=.map (some b)) (hown:Words w b) (s:ByteArray) (hx:a.eval x=.string s) (hs:s.size≤maxLen) (v:Bool) (hv:u4x s.data.toList=v)
  (hK:wpList Tryz.prog ops Q rest (a.put o.dst (.bool v)) w) :
  wpList Tryz.prog ops Q (o :: rest) a w :=
 wpList_lookup_word hg m x hop b _ _ hm hown s hx hs (by rw [isWord_rev,hv]; exact hK)
theorem count_word_n (s:ByteArray) (hs:s.size≤maxLen) (n:Nat) (h:cnt innB s.data.toList=n) (w:World) :
  Calls Tryz.prog 64 #[.string s,.func (.func 120) #[] #[]] w fun e w'=>e=.returned (.int .i64 (n:Nat))∧w=w':=by
 subst h; exact count_word s hs w
theorem word_front (s:ByteArray) (n:Nat) (h:cnt innB s.data.toList=n):n≤s.size∧(s.extract 0 n).data.toList=s.data.toList.takeWhile innB∧(s.data.toList.takeWhile innB).length=n:=by
 refine ⟨by rw [← h,← u0l]; exact cnt_le _ _,?_,h⟩
 rw [u5r]; simp; rw [← h,take_cnt]
theorem wordTok_word {l:List UInt8} (h:u4x (l.takeWhile innB)=true):u3n l=some ⟨2,0,l.takeWhile innB,0⟩:=by
 unfold u3n; rw [if_pos h]
theorem wordTok_long {l:List UInt8} (h:u4x (l.takeWhile innB)=false) (h2:16<(l.takeWhile innB).length):u3n l=none:=by
 unfold u3n; rw [if_neg (by rw [h]; decide),if_pos h2]
theorem wordTok_name {l:List UInt8} (h:u4x (l.takeWhile innB)=false) (h2:¬ 16<(l.takeWhile innB).length):u3n l=some ⟨0,0,l.takeWhile innB,0⟩:=by
 unfold u3n; rw [if_neg (by rw [h]; decide),if_neg h2]
set_option maxHeartbeats 2000000 in
theorem u5v (s:ByteArray) (hs:s.size≤maxLen) (b:Nat) (w:World) (hW:Words w b) :
  Calls Tryz.prog 71 #[.string s,.map (some b)] w fun e w'=>e=.returned (tokR (u3n s.data.toList))∧Below w.heap.size w w':=by
 obtain ⟨n,hn⟩:∃ n,cnt innB s.data.toList=n:=⟨_,rfl⟩
 obtain ⟨hle,hX0,hlen⟩:=word_front s n hn
 have hsz:(s.extract 0 n).size=n:=by rw [← u0l,hX0,hlen]
 have hx:(s.extract 0 n).size≤maxLen:=by omega
 have hX:=hid hX0
 have HN:=hid hn
 clear hX0 hn
 unfold maxLen at hs
 cases hv:u4x (s.data.toList.takeWhile innB)
 ·by_cases h16:16<n
  ·have hT:=hid (wordTok_long hv (by rw [hlen]; exact h16))
   have HV:=hid hv
   clear hv hlen
   go_enter Tryz.func71,Tryz.ntmps71
   go_wp2_with (first | (go_at_call 64; refine (count_word_n s (by unfold maxLen; omega) n HN.out _).mono ?_; rintro e w' ⟨rfl,rfl⟩) | (refine wpList_lookup_word' rfl _ _ rfl b rfl (hW.below ((Below.refl _ _).alloc (Nat.le_refl _) _)) (s.extract 0 n) rfl hx false (by rw [hX.out,HV.out]) ?_))
   exact bodyPost_ret (v:=tokR none) (by simp [tokR,results,Tryz.results71,go_sem]) rfl ⟨by rw [hT.out],by
   repeat (first | exact (Below.refl _ _) | refine Below.setCell ?_ (by simp) _ | refine Below.alloc ?_ (by simp) _)⟩
  ·have hT:=hid (wordTok_name hv (by rw [hlen]; exact h16))
   have HV:=hid hv
   clear hv hlen
   go_enter Tryz.func71,Tryz.ntmps71
   go_wp2_with (first | (go_at_call 64; refine (count_word_n s (by unfold maxLen; omega) n HN.out _).mono ?_; rintro e w' ⟨rfl,rfl⟩) | (refine wpList_lookup_word' rfl _ _ rfl b rfl (hW.below ((Below.refl _ _).alloc (Nat.le_refl _) _)) (s.extract 0 n) rfl hx false (by rw [hX.out,HV.out]) ?_) | (go_at_call 121; refine (u5w 0 (s.extract 0 n) hx _).mono ?_; rintro e w1 ⟨rfl,hb⟩; obtain ⟨hc,hf⟩:=bcell hb; have hz:w.heap.size<w1.heap.size:=(by have:=hb.size; simp at this; omega)))
   exact bodyPost_ret (v:=.tuple #[.agg #[.int .i64 0,.int .i64 0,.string (s.extract 0 n),.int .i32 0],.bool true]) (by simp [results,Tryz.results71,go_sem,hz,hc]) rfl ⟨by rw [hT.out,eq_bs hX.out]; rfl,by
    repeat (first | exact (((Below.refl _ _).alloc (Nat.le_refl _) _).trans (hb.mono (by simp))) | refine Below.setCell ?_ (by simp) _ | refine Below.alloc ?_ (by simp; omega) _)⟩
 ·have hT:=hid (wordTok_word hv)
  have HV:=hid hv
  clear hv hlen hsz
  go_enter Tryz.func71,Tryz.ntmps71
  go_wp2_with (first | (go_at_call 64; refine (count_word_n s (by unfold maxLen; omega) n HN.out _).mono ?_; rintro e w' ⟨rfl,rfl⟩) | (refine wpList_lookup_word' rfl _ _ rfl b rfl (hW.below ((Below.refl _ _).alloc (Nat.le_refl _) _)) (s.extract 0 n) rfl hx true (by rw [hX.out,HV.out]) ?_) | (go_at_call 121; refine (u5w 2 (s.extract 0 n) hx _).mono ?_; rintro e w1 ⟨rfl,hb⟩; obtain ⟨hc,hf⟩:=bcell hb; have hz:w.heap.size<w1.heap.size:=(by have:=hb.size; simp at this; omega)))
  exact bodyPost_ret (v:=.tuple #[.agg #[.int .i64 2,.int .i64 0,.string (s.extract 0 n),.int .i32 0],.bool true]) (by simp [results,Tryz.results71,go_sem,hz,hc]) rfl ⟨by rw [hT.out,eq_bs hX.out]; rfl,by
   repeat (first | exact (((Below.refl _ _).alloc (Nat.le_refl _) _).trans (hb.mono (by simp))) | refine Below.setCell ?_ (by simp) _ | refine Below.alloc ?_ (by simp; omega) _)⟩
theorem u3m {p:Nat→Prop} {n:Nat} (h:∀ i,i<n→p i) (hn:p n):∀ i,i<n+1→p i:=by
 intro i hi
 by_cases e:i=n
 ·subst e; exact hn
 ·exact h i (by omega)
theorem u3l {p:Nat→Prop}:∀ i,i<0→p i:=fun i h=>absurd h (Nat.not_lt_zero i)
def sgn (k:Nat):List UInt8:=u3h.getD k []
def signsA:Array Value:=(u3h.map fun g=>Value.string (bs g)).toArray
def Sg (w:World):Prop:=∃ ty fr,w.heap[2]? = some (.cells signsA ty fr)
theorem Sg.lt {w:World} (h:Sg w):2<w.heap.size:=by
 obtain ⟨ty,fr,h⟩:=h
 exact (Array.getElem?_eq_some_iff.1 h).1
theorem Sg.below {w w':World} (h:Sg w) (hb:Below w.heap.size w w'):Sg w':=by
 have:=h.lt
 obtain ⟨ty,fr,h⟩:=h
 exact ⟨ty,fr,(hb.block 2 this).trans h⟩
theorem run_index_sign (w:World):∀ k,k<31→(Instr.index 199 (.agg signsA) (.int .i64 (k:Nat))).run Tryz.prog w=.ok (.string (bs (sgn k))) w:=by
 repeat (first | exact u3l | refine u3m ?_ (by as_aux_lemma=>kernel_rfl))
theorem u5f {ops:Array Oper} {rest:List Oper} {o:Oper} {a:Act} {w:World} {Q:Exit→Act→World→Prop} (hg:o.guard=none) (x y:Operand)
  (hop:o.op=Op.index 199 x y) (hx:a.eval x=.agg signsA) (k:Nat) (hy:a.eval y=.int .i64 (k:Nat)) (hk:k<31) (g:List UInt8) (hgk:sgn k=g)
  (hK:wpList Tryz.prog ops Q rest (a.put o.dst (.string (bs g))) w):wpList Tryz.prog ops Q (o :: rest) a w:=by
 subst hgk
 refine wpList_plain hg fun K' hK'=>?_
 unfold Oper.wp execOp
 simp only [hop,hx,hy,Sem.run_bind,run_index_sign w k hk,Sem.run_pure,Result.andThen_ok]
 exact hK' _ _ hK
def NoSign (l:List UInt8) (k:Nat):Prop:=u3h.find? (fun g=>g.isPrefixOf l)=(u3h.drop k).find? (fun g=>g.isPrefixOf l)
theorem sgn_drop (k:Nat) (h:k<31):u3h.drop k=sgn k :: u3h.drop (k+1):=by
 rw [List.drop_eq_getElem_cons (by simpa [u3h] using h)]
 unfold sgn
 rw [List.getD_eq_getElem?_getD,List.getElem?_eq_getElem (by simpa [u3h] using h)]; rfl
theorem NoSign.hit {l:List UInt8} {k:Nat} (h:NoSign l k) (hk:k<31) (hp:(sgn k).isPrefixOf l=true):u7h l=some ⟨2,0,sgn k,0⟩:=by
 unfold u7h
 rw [h,sgn_drop k hk,List.find?_cons_of_pos (by exact hp)]; rfl
theorem NoSign.next {l:List UInt8} {k:Nat} (h:NoSign l k) (hk:k<31) (hp:(sgn k).isPrefixOf l=false):NoSign l (k+1):=by
 unfold NoSign
 rw [h,sgn_drop k hk,List.find?_cons_of_neg (by rw [hp]; decide)]
theorem NoSign.last {l:List UInt8} {k:Nat} (h:NoSign l k) (hk:31≤k):u7h l=none:=by
 unfold u7h
 rw [h,List.drop_eq_nil_of_le (by simpa [u3h] using hk)]; rfl
theorem sgn_len:∀ k,k<31→1≤(sgn k).length∧(sgn k).length≤3:=by
 repeat (first | exact u3l | refine u3m ?_ (by decide))
theorem prefix_eq (g l:List UInt8) (h:g.length≤l.length):g.isPrefixOf l=decide (l.take g.length=g):=by
 rw [Bool.eq_iff_iff,List.isPrefixOf_iff_prefix,List.prefix_iff_eq_take]
 simp [eq_comm]
theorem prefix_short (g l:List UInt8) (h:l.length<g.length):g.isPrefixOf l=false:=by
 cases hp:g.isPrefixOf l
 ·rfl
 ·have:=(List.isPrefixOf_iff_prefix.1 hp).length_le
  omega
theorem front_eq (s:ByteArray) (g:List UInt8) (m:Nat) (hm:g.length=m) (h:m≤s.size) (b:Bool) (hb:g.isPrefixOf s.data.toList=b):((s.extract 0 m).toList == (bs g).toList)=b:=by
 subst hm; subst hb
 rw [prefix_eq _ _ (by rw [u0l]; exact h),ByteArray.toList_eq,ByteArray.toList_eq,u5r,u4d]
 simp
 rw [Bool.eq_iff_iff]; simp
set_option maxHeartbeats 1000000 in
theorem readSign_any (s:ByteArray) (hs:s.size≤maxLen) (w:World) (hS:Sg w) :
  Calls Tryz.prog 117 #[.string s] w fun e w'=>e=.returned (tokR (u7h s.data.toList))∧Below w.heap.size w w':=by
 unfold maxLen at hs
 have h0:=hS.lt
 obtain ⟨ty,fr,hS⟩:=hS
 have hS1:=hid hS
 clear hS
 go_enter Tryz.func117,Tryz.ntmps117
 go_wp2_with (refine wpList_load_row rfl 199 _ rfl 2 rfl ty signsA fr _ ((((Below.refl _ w).alloc (Nat.le_refl _) _).block 2 h0).trans hS1.out) Tryz.underlying199 rfl (by kernel_rfl) ?_)
 go_loop [7] (fun i=>∃ k:Nat,k≤31∧i=.int .i64 k∧NoSign s.data.toList k) (fun i=>31 - (intOf i).toNat)
 case atStart=>exact ⟨0,Nat.zero_le _,rfl,by unfold NoSign; simp⟩
 case round =>
  obtain ⟨k,hk,rfl,hno⟩:=hrel
  by_cases hlt:k<31
  ·obtain ⟨g,hg⟩:∃ g,sgn k=g:=⟨_,rfl⟩
   have hl:=sgn_len k hlt
   obtain ⟨m,hm⟩:∃ m,g.length=m:=⟨_,rfl⟩
   rw [hg,hm] at hl
   have hsz:(bs g).size=m:=(u4t g).trans hm
   have HN:=hid hno
   clear hno
   by_cases hle:m≤s.size
   ·cases hp:g.isPrefixOf s.data.toList
    ·have hq:=front_eq s g m hm hle _ hp
     have HG:=hid hg
     have HM:=hid hm
     have HP:=hid hp
     clear hg hm hp
     go_wp2_with (refine u5f rfl _ _ rfl rfl k rfl hlt g HG.out ?_)
     go_round
     case rel=>exact ⟨k+1,by omega,by go_num,HN.out.next hlt (by rw [HG.out,HP.out])⟩
     case measure=>simp [intOf]; omega
    ·have hq:=front_eq s g m hm hle _ hp
     have HG:=hid hg
     have HM:=hid hm
     have HP:=hid hp
     clear hg hm hp
     go_wp2_with (first | (refine u5f rfl _ _ rfl rfl k rfl hlt g HG.out ?_) | (go_at_call 121; refine (u5w 2 (bs g) (by rw [hsz]; unfold maxLen; omega) _).mono ?_; rintro e w1 ⟨rfl,hb⟩; obtain ⟨hc,hf⟩:=bcell hb; have hz:w.heap.size<w1.heap.size:=(by have:=hb.size; simp at this; omega)))
     exact bodyPost_ret (v:=.tuple #[.agg #[.int .i64 2,.int .i64 0,.string (bs g),.int .i32 0],.bool true]) (by simp [results,Tryz.results117,go_sem,hz,hc]) rfl ⟨by rw [HN.out.hit hlt (by rw [HG.out,HP.out]),HG.out]; rfl,by
      repeat (first | exact (((Below.refl _ _).alloc (Nat.le_refl _) _).trans (hb.mono (by simp))) | refine Below.setCell ?_ (by simp) _ | refine Below.alloc ?_ (by simp; omega) _)⟩
   ·have hp:=prefix_short g s.data.toList (by rw [u0l,hm]; omega)
    have HG:=hid hg
    have HM:=hid hm
    have HP:=hid hp
    clear hg hm hp
    go_wp2_with (refine u5f rfl _ _ rfl rfl k rfl hlt g HG.out ?_)
    go_round
    case rel=>exact ⟨k+1,by omega,by go_num,HN.out.next hlt (by rw [HG.out,HP.out])⟩
    case measure=>simp [intOf]; omega
  ·have HN:=hid hno
   clear hno
   go_wp2
   exact bodyPost_ret (v:=tokR none) (by simp [tokR,results,Tryz.results117,go_sem]) rfl ⟨by rw [HN.out.last (by omega)],by
    repeat (first | exact (Below.refl _ _) | refine Below.setCell ?_ (by simp) _ | refine Below.alloc ?_ (by simp) _)⟩
theorem tokR_form (o:Option Tok):∃ k p x n b,tokR o=.tuple #[.agg #[.int .i64 k,.int .i64 p,.string x,.int .i32 n],.bool b]:=by
 cases o with
 | none=>exact ⟨_,_,_,_,_,rfl⟩
 | some t=>exact ⟨_,_,_,_,_,rfl⟩
theorem u6g {f:FuncId} {args:Array Value} {w:World} {o:Option Tok} {v:Value} (h:Calls Tryz.prog f args w fun e w'=>e=.returned (tokR o)∧Below w.heap.size w w') (hv:tokR o=v) :
  Calls Tryz.prog f args w fun e w'=>e=.returned v∧Below w.heap.size w w':=by subst hv; exact h
theorem u7b (n:Int) (b:Bool) (h:letN n=b) (w:World):Calls Tryz.prog 70 #[.int .u8 n] w fun e w'=>e=.returned (.bool b)∧w=w':=by subst h; exact lex_letter n w
theorem digit_n (n:Int) (b:Bool) (h:digN n=b) (w:World):Calls Tryz.prog 115 #[.int .u8 n] w fun e w'=>e=.returned (.bool b)∧w=w':=by subst h; exact lex_digit n w
theorem u5y (s:ByteArray) (h:0<s.size):s.data.toList=s[0] :: s.data.toList.drop 1:=by
 have:=u6b s 0 h
 simpa using this
set_option maxHeartbeats 2000000 in
theorem read_any (s:ByteArray) (h1:0<s.size) (hs:s.size≤maxLen) (b:Nat) (w:World) (hW:Words w b) (hS:Sg w) :
  Calls Tryz.prog 66 #[.string s,.map (some b)] w fun e w'=>e=.returned (tokR (u2d s.data.toList))∧Below w.heap.size w w':=by
 unfold maxLen at hs
 obtain ⟨W1,hB1⟩:∃ W1,W1=w.alloc (.cells #[.int .i64 0,.int .i64 0,.string ⟨#[]⟩,.int .i32 0] 67):=⟨_,rfl⟩
 have hbel:Below w.heap.size w W1:=by rw [hB1]; exact (Below.refl _ _).alloc (Nat.le_refl _) _
 have hW1:=hid (hW.below hbel)
 have hS1:=hid (hS.below hbel)
 rw [hB1] at hW1 hS1
 clear hbel hB1 W1
 cases hl:letN (s[0].toNat:Int)
 ·cases hd:digN (s[0].toNat:Int)
  ·have hT:u2d s.data.toList=u7h s.data.toList:=by
    rw [u5y s h1,u2m,if_neg (by unfold letB; rw [hl]; decide),if_neg (by unfold digB; rw [hd]; decide)]
   rw [hT]
   clear hT
   obtain ⟨k,p,x,n,v,hv⟩:=tokR_form (u7h s.data.toList)
   rw [hv]
   have HV:=hid hv
   have HL:=hid hl
   have HD:=hid hd
   clear hv hl hd
   go_enter Tryz.func66,Tryz.ntmps66
   go_wp2_with (first | (go_at_call 70; refine (u7b _ _ HL.out _).mono ?_; rintro e w' ⟨rfl,rfl⟩) | (go_at_call 115; refine (digit_n _ _ HD.out _).mono ?_; rintro e w' ⟨rfl,rfl⟩) | (go_at_call 117; refine (u6g (readSign_any s (by unfold maxLen; omega) _ hS1.out) HV.out).mono ?_; rintro e w1 ⟨rfl,hb⟩; obtain ⟨hc,hf⟩:=bcell hb; have hz:w.heap.size<w1.heap.size:=(by have:=hb.size; simp at this; omega)))
   exact bodyPost_ret (v:=.tuple #[.agg #[.int .i64 k,.int .i64 p,.string x,.int .i32 n],.bool v]) (by simp [results,Tryz.results66,go_sem,hz,hc]) rfl ⟨rfl,by
    repeat (first | exact (((Below.refl _ _).alloc (Nat.le_refl _) _).trans (hb.mono (by simp))) | refine Below.setCell ?_ (by simp) _ | refine Below.alloc ?_ (by simp; omega) _)⟩
  ·have hT:u2d s.data.toList=u7c s.data.toList:=by
    rw [u5y s h1,u2m,if_neg (by unfold letB; rw [hl]; decide),if_pos (by unfold digB; rw [hd])]
   rw [hT]
   clear hT
   obtain ⟨k,p,x,n,v,hv⟩:=tokR_form (u7c s.data.toList)
   rw [hv]
   have HV:=hid hv
   have HL:=hid hl
   have HD:=hid hd
   clear hv hl hd
   go_enter Tryz.func66,Tryz.ntmps66
   go_wp2_with (first | (go_at_call 70; refine (u7b _ _ HL.out _).mono ?_; rintro e w' ⟨rfl,rfl⟩) | (go_at_call 115; refine (digit_n _ _ HD.out _).mono ?_; rintro e w' ⟨rfl,rfl⟩) | (go_at_call 116; refine (u6g (readInteger_any s (by unfold maxLen; omega) _) HV.out).mono ?_; rintro e w1 ⟨rfl,hb⟩; obtain ⟨hc,hf⟩:=bcell hb; have hz:w.heap.size<w1.heap.size:=(by have:=hb.size; simp at this; omega)))
   exact bodyPost_ret (v:=.tuple #[.agg #[.int .i64 k,.int .i64 p,.string x,.int .i32 n],.bool v]) (by simp [results,Tryz.results66,go_sem,hz,hc]) rfl ⟨rfl,by
    repeat (first | exact (((Below.refl _ _).alloc (Nat.le_refl _) _).trans (hb.mono (by simp))) | refine Below.setCell ?_ (by simp) _ | refine Below.alloc ?_ (by simp; omega) _)⟩
 ·have hT:u2d s.data.toList=u3n s.data.toList:=by
   rw [u5y s h1,u2m,if_pos (by unfold letB; rw [hl])]
  rw [hT]
  clear hT
  obtain ⟨k,p,x,n,v,hv⟩:=tokR_form (u3n s.data.toList)
  rw [hv]
  have HV:=hid hv
  have HL:=hid hl
  clear hv hl
  go_enter Tryz.func66,Tryz.ntmps66
  go_wp2_with (first | (go_at_call 70; refine (u7b _ _ HL.out _).mono ?_; rintro e w' ⟨rfl,rfl⟩) | (go_at_call 71; refine (u6g (u5v s (by unfold maxLen; omega) b _ hW1.out) HV.out).mono ?_; rintro e w1 ⟨rfl,hb⟩; obtain ⟨hc,hf⟩:=bcell hb; have hz:w.heap.size<w1.heap.size:=(by have:=hb.size; simp at this; omega)))
  exact bodyPost_ret (v:=.tuple #[.agg #[.int .i64 k,.int .i64 p,.string x,.int .i32 n],.bool v]) (by simp [results,Tryz.results66,go_sem,hz,hc]) rfl ⟨rfl,by
   repeat (first | exact (((Below.refl _ _).alloc (Nat.le_refl _) _).trans (hb.mono (by simp))) | refine Below.setCell ?_ (by simp) _ | refine Below.alloc ?_ (by simp; omega) _)⟩
def u3p (t:Tok):List Value:=[.int .i64 t.kind,.int .i64 t.pos,.string (bs t.text),.int .i32 t.num]
def u4m (L:List Tok):List Value:=L.flatMap u3p
theorem cellsT_append (L M:List Tok):u4m L++u4m M=u4m (L++M):=by simp [u4m]
theorem u5a {L:List Tok} {i:Nat} {t:Tok} (h:L[i]? = some t) (j:Nat) (hj:j<4):(u4m L)[i * 4+j]? = (u3p t)[j]?:=by
 induction L generalizing i with
 | nil=>simp at h
 | cons u r ih =>
  cases i with
  | zero =>
   simp at h
   subst h
   rw [u4m,List.flatMap_cons,List.getElem?_append_left (by simp [u3p]; omega)]
   simp
  | succ i =>
   simp at h
   rw [u4m,List.flatMap_cons,List.getElem?_append_right (by simp [u3p]; omega)]
   have e:(i+1) * 4+j - (u3p u).length=i * 4+j:=by simp [u3p]; omega
   rw [e]
   exact ih h
theorem tokCells_one (t:Tok):∀ u∈u3p t,u.oneCell'=true:=by
 intro u hu
 simp [u3p] at hu
 rcases hu with rfl | rfl | rfl | rfl <;> rfl
def Rt (w:World) (X:Value) (L:List Tok):Prop :=
 (X=.slice none 0 0∧L=[])∨∃ x c,X=.slice (some x) L.length c∧∀ j u,(u4m L)[j]? = some u→w.cell? (x.add j)=some u
theorem Rt.below {w w':World} {X:Value} {L:List Tok} (h:Rt w X L) (k:Below w.heap.size w w'):Rt w' X L:=by
 rcases h with h | ⟨x,c,hX,hc⟩
 ·exact .inl h
 ·refine .inr ⟨x,c,hX,fun j u hu=>?_⟩
  have e:=hc j u hu
  exact (k.cell (World.block_lt_of_cell? w _ e)).trans e
def OwnT (w:World) (base:Nat) (v:Value) (L:List Tok):Prop:=w.ownsRow base 67 4 v L.length (u4m L)
theorem OwnT.nil (w:World) (base:Nat):OwnT w base (.slice none 0 0) []:=⟨rfl,.inl ⟨rfl,rfl⟩⟩
theorem OwnT.rt {w:World} {base:Nat} {v:Value} {L:List Tok} (h:OwnT w base v L):Rt w v L:=by
 rcases h.2 with ⟨hv,hn⟩ | ⟨g,cap,cur,hv,_,_⟩
 ·exact .inl ⟨hv,List.eq_nil_of_length_eq_zero hn⟩
 ·refine .inr ⟨⟨g,0,none⟩,cap,hv,fun j u hu=>World.ownsRow.cells h (by rw [hv]; rfl) j u hu⟩
theorem OwnT.below {w w':World} {base:Nat} {v:Value} {L:List Tok} (h:OwnT w base v L) (hb:Below w.heap.size w w'):OwnT w' base v L:=by
 refine ⟨h.1,?_⟩
 rcases h.2 with hv | ⟨g,cap,cur,hv,h1,h2,h3⟩
 ·exact .inl hv
 ·exact .inr ⟨g,cap,cur,hv,h1,(hb.block g (Array.getElem?_eq_some_iff.1 h2).1).trans h2,h3⟩
theorem info30:(Tryz.prog.info? 67).map (fun i=>(i.zero,i.size,i.bytes))=some (some (.agg #[.int .i64 0,.int .i64 0,.string ⟨#[]⟩,.int .i32 0]),4,40):=by kernel_rfl
theorem u5h {ops:Array Oper} {rest:List Oper} {o:Oper} {a:Act} {W:World} {Q:Exit→Act→World→Prop} (hgd:o.guard=none) (s x:Operand)
  (ho:o.op=.call { callee:=.builtin .append,args:=#[s,x],argTypes:=#[63,63] }) (base:Nat) (v:Value) (L:List Tok) (t:Tok)
  (hs:a.eval s=v) (hown:OwnT W base v L) (g:Nat) (hg:g=W.heap.size) (hx:a.eval x=.slice (some ⟨g,0,none⟩) 1 1) (hl:L.length≤1000000) (hbase:base≤W.heap.size)
  (h:∀ v' w',OwnT w' base v' (L++[t])→Below base W w'→(∀ g,g<W.heap.size→v.ownBlock≠some g→w'.heap[g]? = W.heap[g]?)→W.heap.size≤w'.heap.size→wpList Tryz.prog ops Q rest (a.put o.dst v') w') :
  wpList Tryz.prog ops Q (o :: rest) a (W.alloc (.cells #[.int .i64 t.kind,.int .i64 t.pos,.string (bs t.text),.int .i32 t.num] 67)):=by
 subst hg
 obtain ⟨i,hi,hz,hs1,hb⟩:=info_parts info30
 have hown':(W.alloc (.cells #[.int .i64 t.kind,.int .i64 t.pos,.string (bs t.text),.int .i32 t.num] 67)).ownsRow base 67 4 v L.length (u4m L) :=
  hown.below ((Below.refl _ _).alloc (Nat.le_refl _) _)
 refine wpList_append_own _ hgd s x 63 ho base 67 i _ 4 40 Tryz.underlying63 hi hz hs1 hb rfl (by decide) v L.length (u4m L) hs hown' ⟨W.heap.size,0,none⟩ 1 1 (u3p t) hx rfl ?_ (tokCells_one t) (by unfold maxLen; omega) (by omega) (by simp; omega) ?_
 ·intro j u hu
  have hadd:(⟨W.heap.size,0,none⟩:Addr).add j=⟨W.heap.size,j,none⟩:=by unfold Addr.add; split <;> simp_all
  rw [hadd,cell_of_row _ _ j #[.int .i64 t.kind,.int .i64 t.pos,.string (bs t.text),.int .i32 t.num] 67 (0,0) (by show (W.heap.push _)[W.heap.size]? = _; simp)]
  rw [← hu]
  simp [u3p]
 ·intro v' w' h1 h2 _
  have e:u4m L++u3p t=u4m (L++[t]):=by rw [← cellsT_append]; simp [u4m]
  rw [e] at h1
  have hall:W.grownBy w' v.ownBlock:=(World.grownBy_alloc _ _ _).trans h2
  refine h v' w' ?_ ((Below.refl base W).grown hall hbase (fun k hk=>((World.ownsRow.lt hown) k hk).1)) (fun g hg hne=>hall.block g hg (fun e=>hne e.symm)) hall.size
  unfold OwnT
  rw [List.length_append]
  exact h1
def u6i (l:List UInt8) (L:List Tok) (p:Nat):Prop:=sc l 0=(L++(sc (l.drop p) p).1,(sc (l.drop p) p).2)
theorem u6i.zero (l:List UInt8):u6i l [] 0:=by unfold u6i; simp
theorem u6i.blank {s:ByteArray} {L:List Tok} {k:Nat} (h:u6i s.data.toList L k) (hk:k<s.size) (hb:blkN (s[k].toNat:Int)=true):u6i s.data.toList L (k+1):=by
 unfold u6i at h ⊢
 rw [h,u6b s k hk,sc_blank _ _ hb]
theorem u6i.hash {s:ByteArray} {L:List Tok} {k:Nat} (h:u6i s.data.toList L k) (hk:k<s.size) (hb:(s[k].toNat:Int)=35):u6i s.data.toList L (k+cnt noE (s.data.toList.drop k)):=by
 have hc:s[k]=35:=by
  apply UInt8.toNat_inj.1
  have:s[k].toNat=35:=by omega
  rw [this]; rfl
 unfold u6i at h ⊢
 have e:=u6b s k hk
 rw [hc] at e
 rw [h,← List.drop_drop,e,sc_hash]
theorem not_hash {c:UInt8} (h:¬ (c.toNat:Int)=35):c≠35:=by rintro rfl; exact h (by decide)
theorem u6i.bad {s:ByteArray} {L:List Tok} {k:Nat} (h:u6i s.data.toList L k) (hk:k<s.size) (hb:blkN (s[k].toNat:Int)=false) (h35:¬ (s[k].toNat:Int)=35) (ht:u2d (s.data.toList.drop k)=none):(sc s.data.toList 0).2=some k:=by
 unfold u6i at h
 have e:=u6b s k hk
 rw [h,e,sc_bad (not_hash h35) hb (by rw [← e]; exact ht)]
theorem u6i.tok {s:ByteArray} {L:List Tok} {k:Nat} {t:Tok} (h:u6i s.data.toList L k) (hk:k<s.size) (hb:blkN (s[k].toNat:Int)=false) (h35:¬ (s[k].toNat:Int)=35) (ht:u2d (s.data.toList.drop k)=some t) :
  u6i s.data.toList (L++[{ t with pos:=(k:Int) }]) (k+t.text.length):=by
 unfold u6i at h ⊢
 have e:=u6b s k hk
 have e2:(s.data.toList).drop (k+t.text.length)=(s[k] :: (s.data.toList).drop (k+1)).drop t.text.length:=by rw [← e,List.drop_drop]
 rw [h,e2,e,sc_tok (not_hash h35) hb (by rw [← e]; exact ht)]
 rw [List.append_assoc]; rfl
theorem u6i.last {s:ByteArray} {L:List Tok} {k:Nat} (h:u6i s.data.toList L k) (hk:s.size≤k):sc s.data.toList 0=(L,none):=by
 unfold u6i at h
 rw [h,drop_nil s k hk,sc_nil]; simp
theorem Words.belowN {w w':World} {b N:Nat} (h:Words w b) (hb:Below N w w') (hN:b<N):Words w' b:=by
 obtain ⟨D,⟨es,clock,h1,h2⟩,h3⟩:=h
 exact ⟨D,⟨es,clock,(hb.block b hN).trans h1,h2⟩,h3⟩
theorem Sg.belowN {w w':World} {N:Nat} (h:Sg w) (hb:Below N w w') (hN:2<N):Sg w':=by
 obtain ⟨ty,fr,h⟩:=h
 exact ⟨ty,fr,(hb.block 2 hN).trans h⟩
theorem blank_n (n:Int) (b:Bool) (h:blkN n=b) (w:World):Calls Tryz.prog 63 #[.int .u8 n] w fun e w'=>e=.returned (.bool b)∧w=w':=by subst h; exact lex_blank n w
theorem count_comment_n (s:ByteArray) (hs:s.size≤maxLen) (n:Nat) (h:cnt noE s.data.toList=n) (w:World) :
  Calls Tryz.prog 64 #[.string s,.func (.func 65) #[] #[]] w fun e w'=>e=.returned (.int .i64 (n:Nat))∧w=w':=by
 subst h; exact count_comment s hs w
theorem OwnT.mono {w:World} {b c:Nat} {v:Value} {L:List Tok} (h:OwnT w c v L) (hb:b≤c):OwnT w b v L:=by
 refine ⟨h.1,?_⟩
 rcases h.2 with h | ⟨g,cap,cur,h1,h2,h3⟩
 ·exact .inl h
 ·exact .inr ⟨g,cap,cur,h1,Nat.le_trans hb h2,h3⟩
def TokPost (B:Nat) (l:List UInt8) (e:Ending) (w':World):Prop :=
 (∃ v,(sc l 0).2=none∧e=.returned (.tuple #[v,.int .i64 0,.int .i64 0])∧OwnT w' B v (sc l 0).1) ∨
 ∃ i:Nat,(sc l 0).2=some i∧e=.returned (.tuple #[.slice none 0 0,.int .i64 i,.int .i64 2])
theorem tokens_long (s:ByteArray) (hs:s.size≤maxLen) (h:4000<s.size) (w:World) :
  Calls Tryz.prog 36 #[.string s] w fun e w'=>e=.returned (.tuple #[.slice none 0 0,.int .i64 0,.int .i64 5])∧Below w.heap.size w w':=by
 unfold maxLen at hs
 go_enter Tryz.func36,Tryz.ntmps36
 go_wp2
 go_ret3
 exact ⟨rfl,Below.refl _ _⟩
def LoopRel (s:ByteArray) (w1:World) (b:Nat) (k nx:Nat) (L:List Tok) (v:Value) (wr:World):Prop :=
 OwnT wr (b+1) v L∧Below (b+1) w1 wr∧u6i s.data.toList L (max k nx)∧L.length≤max k nx
theorem u7w (s:ByteArray) (k:Nat):(s.extract k s.size).data.toList=s.data.toList.drop k:=by
 rw [u5r,List.take_of_length_le (by rw [List.length_drop,u0l]; omega)]
theorem suffix_size (s:ByteArray) (k:Nat):(s.extract k s.size).size=s.size - k:=by
 rw [← u0l,u7w,List.length_drop,u0l]
theorem tok_cell {w2 w4 wr:World} {base:Nat} {v:Value} {L:List Tok} {cs:Array Value} (hblk:∀ g,g<(w2.alloc (.cells cs 67)).heap.size→v.ownBlock≠some g→w4.heap[g]? = (w2.alloc (.cells cs 67)).heap[g]?)
  (hown:OwnT wr base v L) (hz:wr.heap.size≤w2.heap.size):∀ j,w4.cell? ⟨w2.heap.size,j,none⟩=cs[j]?:=by
 intro j
 have hne:v.ownBlock≠some w2.heap.size:=by
  intro e
  have:=(World.ownsRow.lt hown) _ e
  omega
 have h:=hblk w2.heap.size (by simp) hne
 have h2:(w2.alloc (.cells cs 67)).heap[w2.heap.size]? = some (.cells cs 67 (0,0)):=by show (w2.heap.push _)[w2.heap.size]? = _; simp
 exact cell_of_row _ _ j cs 67 (0,0) (h.trans h2)
set_option maxRecDepth 100000 in
set_option maxHeartbeats 4000000 in
theorem u6y (s:ByteArray) (h4:s.size≤4000) (w:World) (hS:Sg w) :
  Calls Tryz.prog 36 #[.string s] w fun e w'=>TokPost w.heap.size s.data.toList e w'∧Below w.heap.size w w':=by
 have hd13:decide ((4000:Int)<s.size)=false:=by simp; omega
 go_enter Tryz.func36,Tryz.ntmps36
 go_wp2_with (go_at_call 62; refine (u3a _).mono ?_; rintro e w1 ⟨rfl,hw1,hb1⟩)
 obtain ⟨b,hB⟩:∃ b,w.heap.size=b:=⟨_,rfl⟩
 have hS0:=hS.below hb1
 have hS1:=hid hS0
 rw [hB] at hw1
 have hlt:=hw1.lt
 have HW1:=hid hw1
 have HB1:=hid (show Below b w w1 by rw [← hB]; exact hb1)
 have HB0:=hid (show 2<b∧w.heap.size=b from ⟨by rw [← hB]; exact hS.lt,hB⟩)
 clear hw1 hb1 hS hS0 hd13
 rw [hB]
 have HB:=hid hB
 clear hB
 go_loopw [5,7,17] (fun v nx i wr=>∃ (k n:Nat) (L:List Tok),k≤s.size∧n≤s.size∧i=.int .i64 k∧nx=.int .i64 n∧LoopRel s w1 b k n L v wr) (fun _ _ i _=>s.size - (intOf i).toNat)
 case atStart=>exact ⟨0,0,[],Nat.zero_le _,Nat.zero_le _,rfl,rfl,OwnT.nil _ _,Below.refl _ _,u6i.zero _,by simp⟩
 case round =>
  obtain ⟨k,n,L,hk,hn,rfl,rfl,hr⟩:=hrel
  have HR:=hid hr
  have hwr:=hr.2.1.size
  have hLk:=hr.2.2.2
  clear hr
  by_cases hks:k<s.size
  ·by_cases hkn:k<n
   ·clear hLk
    go_wp2
    go_roundw
    case rel=>exact ⟨k+1,n,L,by omega,hn,by go_num,rfl,HR.out.1,HR.out.2.1,by
     rw [show max (k+1) n=max k n by omega]; exact HR.out.2.2.1,by
     rw [show max (k+1) n=max k n by omega]; exact HR.out.2.2.2⟩
    case measure=>simp [intOf]; omega
   ·have hsc:Hid (u6i s.data.toList L k):=hid (by have:=HR.out.2.2.1; rwa [show max k n=k by omega] at this)
    have hLk2:L.length≤k:=by omega
    clear hLk
    cases hbl:blkN (s[k].toNat:Int)
    ·have HBL:=hid hbl
     clear hbl
     by_cases h35:(s[k].toNat:Int)=35
     ·obtain ⟨c,hc⟩:∃ c,cnt noE (s.data.toList.drop k)=c:=⟨_,rfl⟩
      have hcl:c≤s.size - k:=by rw [← hc]; have:=cnt_le noE (s.data.toList.drop k); rw [List.length_drop,u0l] at this; exact this
      have hc1:1≤c:=by
       rw [← hc,u6b s k hks,cnt_cons_pos (by unfold noE noEN; rw [h35]; decide)]; omega
      have HC:=hid (show cnt noE (s.extract k s.size).data.toList=c by rw [u7w]; exact hc)
      have hsz:=suffix_size s k
      have HC2:=hid hc
      have H35:=hid h35
      have hne:((s[k].toNat:Int) == 35)=true:=by rw [h35]; rfl
      clear hc h35
      go_wp2_with (first | (go_at_call 63; refine (blank_n _ _ HBL.out _).mono ?_; rintro e w' ⟨rfl,rfl⟩) | (go_at_call 64; refine (count_comment_n (s.extract k s.size) (by rw [hsz]; unfold maxLen; omega) c HC.out _).mono ?_; rintro e w' ⟨rfl,rfl⟩))
      go_roundw
      case rel=>exact ⟨k+1,k+c,L,by omega,by omega,by go_num,by go_num,HR.out.1,HR.out.2.1,by
       rw [show max (k+1) (k+c)=k+c by omega]; have:=hsc.out.hash hks H35.out; rwa [HC2.out] at this,by omega⟩
      case measure=>simp [intOf]; omega
     ·have H35:=hid h35
      have hne:((s[k].toNat:Int) == 35)=false:=by simpa using h35
      clear h35
      have hsz:=suffix_size s k
      have hxs:(s.extract k s.size).size≤maxLen:=by rw [hsz]; unfold maxLen; omega
      have hx0:0<(s.extract k s.size).size:=by rw [hsz]; omega
      have HWr:=hid (HW1.out.belowN HR.out.2.1 (by omega))
      have HSr:=hid (hS1.out.belowN HR.out.2.1 (by have:=HB0.out; omega))
      cases ht:u2d (s.data.toList.drop k) with
      | none =>
       have HT:=hid ht
       have HTV:=hid (show tokR (u2d (s.extract k s.size).data.toList)=.tuple #[.agg #[.int .i64 0,.int .i64 0,.string ⟨#[]⟩,.int .i32 0],.bool false] by rw [u7w,ht]; rfl)
       clear ht
       go_wp2_with (first | (go_at_call 63; refine (blank_n _ _ HBL.out _).mono ?_; rintro e w' ⟨rfl,rfl⟩) | (go_at_call 66; refine (u6g (read_any (s.extract k s.size) hx0 hxs b _ HWr.out HSr.out) HTV.out).mono ?_; rintro e w2 ⟨rfl,hb2⟩))
       go_ret3
       exact ⟨.inr ⟨k,hsc.out.bad hks HBL.out H35.out HT.out,rfl⟩,by
        rw [HB.out]
        have h1:=HB1.out.trans (HR.out.2.1.mono (Nat.le_succ b))
        exact (h1.trans (hb2.mono (by omega))).alloc (by have:=hb2.size; omega) _⟩
      | some t =>
       have hm1:=u5i ht
       have hm2:=tokenAt_le ht
       rw [List.length_drop,u0l] at hm2
       obtain ⟨m,hm⟩:∃ m,t.text.length=m:=⟨_,rfl⟩
       rw [hm] at hm1 hm2
       have hts:(bs t.text).size=m:=(u4t _).trans hm
       have HT:=hid ht
       have HM:=hid hm
       have HTV:=hid (show tokR (u2d (s.extract k s.size).data.toList)=.tuple #[.agg #[.int .i64 t.kind,.int .i64 t.pos,.string (bs t.text),.int .i32 t.num],.bool true] by rw [u7w,ht]; rfl)
       clear ht hm
       go_wp2_with (first | (go_at_call 63; refine (blank_n _ _ HBL.out _).mono ?_; rintro e w' ⟨rfl,rfl⟩) | (go_at_call 66; refine (u6g (read_any (s.extract k s.size) hx0 hxs b _ HWr.out HSr.out) HTV.out).mono ?_; rintro e w2 ⟨rfl,hb2⟩; have hz2:=hb2.size) | (refine u5h rfl _ _ rfl (b+1) u5 L { t with pos:=(k:Int) } rfl ((HR.out.1.below hb2).below ((Below.refl _ _).alloc (Nat.le_refl _) _)) (w2.heap.size+1) (by simp) rfl (by omega) (by simp; omega) ?_; intro v' w4 hown4 hbel4 hblk hsz4; have hc4:=tok_cell hblk HR.out.1 hz2; have HO4:=hid hown4; have HB4:=hid hbel4; clear hown4 hbel4 hblk hsz4))
       go_roundw
       case rel=>exact ⟨k+1,k+m,L++[{ t with pos:=(k:Int) }],by omega,by omega,by go_num,by go_num,HO4.out,(HR.out.2.1.trans (hb2.mono (by omega))).trans (((Below.refl _ _).alloc (by omega) _).trans HB4.out),by
        rw [show max (k+1) (k+m)=k+m by omega]; have:=hsc.out.tok hks HBL.out H35.out HT.out; rwa [HM.out] at this,by simp; omega⟩
       case measure=>simp [intOf]; omega
    ·have HBL:=hid hbl
     clear hbl
     go_wp2_with (go_at_call 63; refine (blank_n _ _ HBL.out _).mono ?_; rintro e w' ⟨rfl,rfl⟩)
     go_roundw
     case rel=>exact ⟨k+1,n,L,by omega,hn,by go_num,rfl,HR.out.1,HR.out.2.1,by
      rw [show max (k+1) n=k+1 by omega]; exact hsc.out.blank hks HBL.out,by omega⟩
     case measure=>simp [intOf]; omega
  ·go_wp2
   go_ret3
   exact ⟨.inl ⟨u5,by
    have:=HR.out.2.2.1.last (by omega)
    rw [this],rfl,by
    have:=HR.out.2.2.1.last (by omega)
    rw [this,HB0.out.2]; exact HR.out.1.mono (Nat.le_succ _)⟩,by rw [HB.out]; exact HB1.out.trans (HR.out.2.1.mono (Nat.le_succ b))⟩
def u0o:List UInt8→Bool
 | []=>false
 | c :: r=>letB c&&(c :: r).all innB&&decide ((c :: r).length≤16)&&!u4x (c :: r)
theorem all_of_len {p:UInt8→Bool} {l:List UInt8} (h:(l.takeWhile p).length=l.length):l.takeWhile p=l∧l.all p=true:=by
 have e:l.takeWhile p=l:=(List.takeWhile_prefix p).eq_of_length h
 refine ⟨e,?_⟩
 rw [List.all_eq_true]
 intro x hx
 rw [← e] at hx
 exact u4e x hx
theorem not_all {p:UInt8→Bool} {l:List UInt8} (h:(l.takeWhile p).length≠l.length):l.all p=false:=by
 cases ha:l.all p
 ·rfl
 ·exfalso
  apply h
  have:∀ x∈l,p x=true:=by simpa [List.all_eq_true] using ha
  have e:=u2e (p:=p) (t:=l) (w:=[]) this (by intro d r e; cases e)
  simp at e
  rw [e]
theorem isName_let {l:List UInt8} {c:UInt8} {r:List UInt8} (hl:l=c :: r) (h:letB c=true):u0o l=(l.all innB&&decide (l.length≤16)&&!u4x l):=by
 subst hl
 show (letB c&&(c :: r).all innB&&decide ((c :: r).length≤16)&&!u4x (c :: r))=_
 rw [h]; simp
theorem isName_notlet {l:List UInt8} {c:UInt8} {r:List UInt8} (hl:l=c :: r) (h:letB c=false):u0o l=false:=by
 subst hl
 show (letB c&&(c :: r).all innB&&decide ((c :: r).length≤16)&&!u4x (c :: r))=_
 rw [h]; simp
theorem name_empty (w:World):Calls Tryz.prog 38 #[.string ⟨#[]⟩] w fun e w'=>e=.returned (.bool false)∧Below w.heap.size w w':=by
 have h1:((⟨#[]⟩:ByteArray).toList == (⟨#[]⟩:ByteArray).toList)=true:=by simp
 go_enter Tryz.func38,Tryz.ntmps38
 go_wp2
 go_ret
 exact ⟨rfl,Below.refl _ _⟩
set_option maxHeartbeats 2000000 in
theorem name_some (s:ByteArray) (h1:0<s.size) (hs:s.size≤maxLen) (w:World) :
  Calls Tryz.prog 38 #[.string s] w fun e w'=>e=.returned (.bool (u0o s.data.toList))∧Below w.heap.size w w':=by
 have hne1:s.toList.isEmpty=false:=by rw [ByteArray.toList_eq,u5y s h1]; rfl
 have hne2:(s.toList == [])=false:=by rw [ByteArray.toList_eq,u5y s h1]; rfl
 have hne:(s.toList == (⟨#[]⟩:ByteArray).toList)=false:=by rw [ByteArray.toList_eq,ByteArray.toList_eq,u5y s h1]; rfl
 unfold maxLen at hs
 cases hl:letN (s[0].toNat:Int)
 ·have HN:=hid (isName_notlet (u5y s h1) hl)
  have HL:=hid hl
  clear hl
  go_enter Tryz.func38,Tryz.ntmps38
  go_wp2_with (first | (go_at_call 70; refine (u7b _ _ HL.out _).mono ?_; rintro e w' ⟨rfl,rfl⟩))
  go_ret
  exact ⟨by rw [HN.out]; rfl,Below.refl _ _⟩
 ·have HN:=hid (isName_let (u5y s h1) hl)
  obtain ⟨n,hn⟩:∃ n,(s.data.toList.takeWhile innB).length=n:=⟨_,rfl⟩
  have hnl:n≤s.size:=by rw [← hn,← u0l]; exact cnt_le innB _
  cases hw:u4x (s.data.toList.takeWhile innB)
  ·by_cases h16:16<n
   ·have HV:=hid (show tokR (u3n s.data.toList)=.tuple #[.agg #[.int .i64 0,.int .i64 0,.string ⟨#[]⟩,.int .i32 0],.bool false] by rw [wordTok_long hw (by omega)]; rfl)
    have HF:Hid (u0o s.data.toList=false):=hid (by
     rw [HN.out]
     have:¬ s.data.toList.length≤16:=by rw [u0l]; omega
     rw [decide_eq_false this,Bool.and_false,Bool.false_and])
    have HL:=hid hl
    clear hl hn hw
    go_enter Tryz.func38,Tryz.ntmps38
    go_wp2_with (first | (go_at_call 70; refine (u7b _ _ HL.out _).mono ?_; rintro e w' ⟨rfl,rfl⟩) | (go_at_call 62; refine (u3a _).mono ?_; rintro e w1 ⟨rfl,hw1,hb1⟩) | (go_at_call 71; refine (u6g (u5v s (by unfold maxLen; omega) _ _ hw1) HV.out).mono ?_; rintro e w2 ⟨rfl,hb2⟩))
    go_ret
    exact ⟨by rw [HF.out]; rfl,(hb1.trans (hb2.mono hb1.size)).alloc (Nat.le_trans hb1.size hb2.size) _⟩
   ·obtain ⟨T,hT⟩:∃ T,s.data.toList.takeWhile innB=T:=⟨_,rfl⟩
    have hts:(bs T).size=n:=by rw [u4t,← hT,hn]
    have HV:=hid (show tokR (u3n s.data.toList)=.tuple #[.agg #[.int .i64 0,.int .i64 0,.string (bs T),.int .i32 0],.bool true] by rw [wordTok_name hw (by omega),← hT]; rfl)
    by_cases hq:n=s.size
    ·have HF:Hid (u0o s.data.toList=true):=hid (by
      obtain ⟨e1,e2⟩:=all_of_len (hn.trans (hq.trans (u0l s).symm))
      rw [HN.out,e2,← e1,hw]
      rw [hn]; simp; omega)
     have HL:=hid hl
     clear hl hn hw hT
     subst hq
     go_enter Tryz.func38,Tryz.ntmps38
     go_wp2_with (first | (go_at_call 70; refine (u7b _ _ HL.out _).mono ?_; rintro e w' ⟨rfl,rfl⟩) | (go_at_call 62; refine (u3a _).mono ?_; rintro e w1 ⟨rfl,hw1,hb1⟩) | (go_at_call 71; refine (u6g (u5v s (by unfold maxLen; omega) _ _ hw1) HV.out).mono ?_; rintro e w2 ⟨rfl,hb2⟩))
     go_ret
     exact ⟨by rw [HF.out]; rfl,(hb1.trans (hb2.mono hb1.size)).alloc (Nat.le_trans hb1.size hb2.size) _⟩
    ·have HF:Hid (u0o s.data.toList=false):=hid (by
      rw [HN.out,not_all (by rw [hn,u0l]; exact hq)]; rfl)
     have hq2:((n:Int) == (s.size:Int))=false:=by simp; omega
     have HL:=hid hl
     have HQ:=hid hq
     clear hl hn hw hT hq
     go_enter Tryz.func38,Tryz.ntmps38
     go_wp2_with (first | (go_at_call 70; refine (u7b _ _ HL.out _).mono ?_; rintro e w' ⟨rfl,rfl⟩) | (go_at_call 62; refine (u3a _).mono ?_; rintro e w1 ⟨rfl,hw1,hb1⟩) | (go_at_call 71; refine (u6g (u5v s (by unfold maxLen; omega) _ _ hw1) HV.out).mono ?_; rintro e w2 ⟨rfl,hb2⟩))
     go_ret
     exact ⟨by rw [HF.out]; rfl,(hb1.trans (hb2.mono hb1.size)).alloc (Nat.le_trans hb1.size hb2.size) _⟩
  ·obtain ⟨T,hT⟩:∃ T,s.data.toList.takeWhile innB=T:=⟨_,rfl⟩
   have HV:=hid (show tokR (u3n s.data.toList)=.tuple #[.agg #[.int .i64 2,.int .i64 0,.string (bs T),.int .i32 0],.bool true] by rw [wordTok_word hw,← hT]; rfl)
   have HF:Hid (u0o s.data.toList=false):=hid (by
    rw [HN.out]
    by_cases hq:n=s.size
    ·obtain ⟨e1,e2⟩:=all_of_len (hn.trans (hq.trans (u0l s).symm))
     rw [e1] at hw
     rw [hw]; simp
    ·rw [not_all (by rw [hn,u0l]; exact hq)]; rfl)
   have HL:=hid hl
   clear hl hn hw hT
   go_enter Tryz.func38,Tryz.ntmps38
   go_wp2_with (first | (go_at_call 70; refine (u7b _ _ HL.out _).mono ?_; rintro e w' ⟨rfl,rfl⟩) | (go_at_call 62; refine (u3a _).mono ?_; rintro e w1 ⟨rfl,hw1,hb1⟩) | (go_at_call 71; refine (u6g (u5v s (by unfold maxLen; omega) _ _ hw1) HV.out).mono ?_; rintro e w2 ⟨rfl,hb2⟩))
   go_ret
   exact ⟨by rw [HF.out]; rfl,(hb1.trans (hb2.mono hb1.size)).alloc (Nat.le_trans hb1.size hb2.size) _⟩
theorem name_any (s:ByteArray) (hs:s.size≤maxLen) (w:World) :
  Calls Tryz.prog 38 #[.string s] w fun e w'=>e=.returned (.bool (u0o s.data.toList))∧Below w.heap.size w w':=by
 by_cases h:0<s.size
 ·exact name_some s h hs w
 ·have e:s=⟨#[]⟩:=by
   rw [← u7j s]
   have:s.data.toList=[]:=List.eq_nil_of_length_eq_zero (by rw [u0l]; omega)
   rw [this]; rfl
  subst e
  exact name_empty w
end Go.Proofs.YtbkhnilbgocpnaaGreatDoor.LexC
