import Derived.Lib.AppendStr
import Derived.Shelf.Strconv.Itoa1
import Derived.Shelf.LaysM
import Derived.Shelf.Strconv.Itoa2
import Derived.Shelf.Strconv.Itoa3
import Derived.Test.YtbkhnilbgocpnaaGreatDoorProg
import Derived.Test.YtbkhnilbgocpnaaGreatDoorK0
import Derived.Test.YtbkhnilbgocpnaaGreatDoorK3
import Derived.Test.YtbkhnilbgocpnaaGreatDoorK13
set_option linter.unusedVariables false
set_option linter.unusedSimpArgs false
set_option maxRecDepth 100000
set_option maxHeartbeats 2000000
open Go.Lib (hid)
namespace Go.Proofs.YtbkhnilbgocpnaaGreatDoor.LexC
open Go.ChangeShapes Go.WideShapes Go.ChangeAt Go.RowKit
def TokAt (w:World) (A:Option Addr) (i:Nat) (t:Tok):Prop :=
 ∃ b off,A=some ⟨b,off,none⟩∧w.cell? ⟨b,off+i * 4,none⟩=some (.int .i64 t.kind)∧w.cell? ⟨b,off+i * 4+1,none⟩=some (.int .i64 t.pos) ∧
  w.cell? ⟨b,off+i * 4+2,none⟩=some (.string (bs t.text))∧w.cell? ⟨b,off+i * 4+3,none⟩=some (.int .i32 t.num)
theorem Rt.open_ {w:World} {X:Value} {L:List Tok} (h:Rt w X L):∃ A c,X=.slice A L.length c∧∀ i t,L[i]? = some t→TokAt w A i t:=by
 rcases h with ⟨hX,hL⟩ | ⟨x,c,hX,hc⟩
 ·subst hL
  exact ⟨none,0,hX,fun i t h=>by simp at h⟩
 ·refine ⟨some x,c,hX,fun i t ht=>?_⟩
  have h0:=hc (i * 4+0) _ ((u5a ht 0 (by omega)).trans rfl)
  have h1:=hc (i * 4+1) _ ((u5a ht 1 (by omega)).trans rfl)
  have h2:=hc (i * 4+2) _ ((u5a ht 2 (by omega)).trans rfl)
  have h3:=hc (i * 4+3) _ ((u5a ht 3 (by omega)).trans rfl)
  obtain ⟨b,off,sp⟩:=x
  have hsp:sp=none:=by
   have hl:0<L.length:=by have:=(List.getElem?_eq_some_iff.1 ht).1; omega
   have h:=hc (0 * 4+0) _ ((u5a (List.getElem?_eq_getElem hl) 0 (by omega)).trans rfl)
   simpa [Addr.add] using World.cell?_spot h
  subst hsp
  have hadd:∀ j,(⟨b,off,none⟩:Addr).add j=⟨b,off+j,none⟩:=fun j=>by unfold Addr.add; split <;> simp_all
  rw [hadd] at h0 h1 h2 h3
  exact ⟨b,off,rfl,h0,h1,h2,h3⟩
def OwnB (w:World) (base:Nat) (v:Value) (l:List UInt8):Prop:=w.ownsRow base 5 1 v l.length (u1x l)
theorem OwnB.nil (w:World) (base:Nat):OwnB w base (.slice none 0 0) []:=⟨rfl,.inl ⟨rfl,rfl⟩⟩
theorem OwnB.below {w w':World} {base:Nat} {v:Value} {l:List UInt8} (h:OwnB w base v l) (hb:Below w.heap.size w w'):OwnB w' base v l:=by
 refine ⟨h.1,?_⟩
 rcases h.2 with hv | ⟨g,cap,cur,hv,h1,h2,h3⟩
 ·exact .inl hv
 ·exact .inr ⟨g,cap,cur,hv,h1,(hb.block g (Array.getElem?_eq_some_iff.1 h2).1).trans h2,h3⟩
theorem OwnB.rb {w:World} {base:Nat} {v:Value} {l:List UInt8} (h:OwnB w base v l):Rb w v l:=Rb.own h
theorem info5:(Tryz.prog.info? 5).map (fun i=>(i.zero,i.size,i.bytes))=some (some (.int .u8 0),1,1):=by kernel_rfl
theorem wpList_append_blank {ops:Array Oper} {rest:List Oper} {o:Oper} {a:Act} {W:World} {Q:Exit→Act→World→Prop} (hgd:o.guard=none) (s x:Operand)
  (ho:o.op=.call { callee:=.builtin .append,args:=#[s,x],argTypes:=#[47,47] }) (base:Nat) (v:Value) (l:List UInt8)
  (hs:a.eval s=v) (hown:OwnB W base v l) (g:Nat) (hg:g=W.heap.size) (hx:a.eval x=.slice (some ⟨g,0,none⟩) 1 1) (hl:l.length≤5000000) (hbase:base≤W.heap.size)
  (h:∀ v' w',OwnB w' base v' (l++[32])→Below base W w'→(∀ g,g<W.heap.size→v.ownBlock≠some g→w'.heap[g]? = W.heap[g]?)→W.heap.size≤w'.heap.size→wpList Tryz.prog ops Q rest (a.put o.dst v') w') :
  wpList Tryz.prog ops Q (o :: rest) a (W.alloc (.cells #[.int .u8 32] 5)):=by
 subst hg
 obtain ⟨i,hi,hz,hs1,hb⟩:=info_parts info5
 have hown':(W.alloc (.cells #[.int .u8 32] 5)).ownsRow base 5 1 v l.length (u1x l) :=
  hown.below ((Below.refl _ _).alloc (Nat.le_refl _) _)
 refine wpList_append_own _ hgd s x 47 ho base 5 i _ 1 1 Tryz.underlying47 hi hz hs1 hb rfl (by decide) v l.length (u1x l) hs hown' ⟨W.heap.size,0,none⟩ 1 1 [.int .u8 32] hx rfl ?_ (byteCells_one [32]) (by unfold maxLen; omega) (by omega) (by simp; omega) ?_
 ·intro j u hu
  have hadd:(⟨W.heap.size,0,none⟩:Addr).add j=⟨W.heap.size,j,none⟩:=by unfold Addr.add; split <;> simp_all
  rw [hadd,cell_of_row _ _ j #[.int .u8 32] 5 (0,0) (by show (W.heap.push _)[W.heap.size]? = _; simp)]
  rw [← hu]
  simp
 ·intro v' w' h1 h2 _
  have e:u1x l++[.int .u8 32]=u1x (l++[32]):=by rw [← byteCells_append]; rfl
  rw [e] at h1
  have hall:W.grownBy w' v.ownBlock:=(World.grownBy_alloc _ _ _).trans h2
  refine h v' w' ?_ ((Below.refl base W).grown hall hbase (fun k hk=>((World.ownsRow.lt hown) k hk).1)) (fun g hg hne=>hall.block g hg (fun e=>hne e.symm)) hall.size
  unfold OwnB
  rw [List.length_append]
  exact h1
theorem u6v {ops:Array Oper} {rest:List Oper} {o:Oper} {a:Act} {W:World} {Q:Exit→Act→World→Prop} (hgd:o.guard=none) (s x:Operand)
  (ho:o.op=.call { callee:=.builtin .append,args:=#[s,x],argTypes:=#[47,9] }) (base:Nat) (v:Value) (l m:List UInt8)
  (hs:a.eval s=v) (hown:OwnB W base v l) (hx:a.eval x=.string (bs m)) (hl:l.length+m.length≤10000000) (hbase:base≤W.heap.size)
  (h:∀ v' w',OwnB w' base v' (l++m)→Below base W w'→wpList Tryz.prog ops Q rest (a.put o.dst v') w') :
  wpList Tryz.prog ops Q (o :: rest) a W:=by
 obtain ⟨i,hi,hz,hs1,hb⟩:=info_parts info5
 refine Lib.wpList_append_own_string W hgd s x 47 9 ho base 5 i Tryz.underlying47 Tryz.underlying9 hi hz hs1 hb v l.length (u1x l) hs hown (bs m) hx (by rw [u4t]; unfold maxLen; omega) (by rw [u4t]; omega) hbase ?_
 intro v' w' h1 h2 _
 refine h v' w' ?_ ((Below.refl base W).grown h2 hbase (fun k hk=>((World.ownsRow.lt hown) k hk).1))
 have e:u1x l++Lib.strCells (bs m)=u1x (l++m):=by
  rw [← byteCells_append]; unfold Lib.strCells; rw [u4d]; rfl
 rw [e,u4t] at h1
 unfold OwnB
 rw [List.length_append]
 exact h1
def texts (L:List Tok):List (List UInt8):=L.map (·.text)
theorem texts_at {L:List Tok} {k:Nat} {t:Tok} (h:L[k]? = some t):(texts L)[k]? = some t.text:=by simp [texts,h]
theorem texts_len (L:List Tok):(texts L).length=L.length:=by simp [texts]
theorem blank_cell {w2 w4 wr:World} {base:Nat} {v:Value} {l:List UInt8} {cs:Array Value} {ty:TypeId} (hblk:∀ g,g<(w2.alloc (.cells cs ty)).heap.size→v.ownBlock≠some g→w4.heap[g]? = (w2.alloc (.cells cs ty)).heap[g]?)
  (hown:OwnB wr base v l) (hz:wr.heap.size≤w2.heap.size):∀ j,w4.cell? ⟨w2.heap.size,j,none⟩=cs[j]?:=by
 intro j
 have hne:v.ownBlock≠some w2.heap.size:=by
  intro e
  have:=(World.ownsRow.lt hown) _ e
  omega
 have h:=hblk w2.heap.size (by simp) hne
 have h2:(w2.alloc (.cells cs ty)).heap[w2.heap.size]? = some (.cells cs ty (0,0)):=by show (w2.heap.push _)[w2.heap.size]? = _; simp
 exact cell_of_row _ _ j cs ty (0,0) (h.trans h2)
def JoinRel (w:World) (T:List (List UInt8)) (k:Nat) (v:Value) (wr:World):Prop:=OwnB wr w.heap.size v (u4s (T.take k))∧Below w.heap.size w wr
set_option maxRecDepth 100000 in
set_option maxHeartbeats 4000000 in
theorem lexJoin_any (X:Value) (L:List Tok) (hn4:L.length≤400000) (hJ:(u4s (texts L)).length≤5000000) (w:World) (hX:Rt w X L) :
  Calls Tryz.prog 102 #[X] w fun e w'=>e=.returned (.string (bs (u4s (texts L))))∧Below w.heap.size w w':=by
 obtain ⟨n,hn⟩:∃ n,L.length=n:=⟨_,rfl⟩
 obtain ⟨A,c,rfl,hA⟩:=hX.open_
 rw [hn]
 rw [hn] at hn4
 have HJ:=hid hJ
 have HX:=hid hX
 have HN:=hid hn
 have HA0:=hid hA
 clear hJ hX hn hA
 go_enter Tryz.func102,Tryz.ntmps102
 go_wp2
 go_loopw [3,8] (fun v i wr=>∃ k:Nat,k≤n∧i=.int .i64 k∧JoinRel w (texts L) k v wr) (fun _ i _=>n - (intOf i).toNat)
 case atStart=>exact ⟨0,Nat.zero_le _,rfl,OwnB.nil _ _,Below.refl _ _⟩
 case round =>
  obtain ⟨k,hk,rfl,hr⟩:=hrel
  have hwr:=hr.2.size
  have HR:=hid hr
  clear hr
  by_cases hlt:k<n
  ·have hkL:k<L.length:=by have:=HN.out; omega
   obtain ⟨t,ht⟩:∃ t,L[k]? = some t:=⟨_,List.getElem?_eq_getElem hkL⟩
   obtain ⟨A',c',hv,hA⟩:=(HX.out.below HR.out.2).open_
   cases hv
   obtain ⟨b,off,rfl,a0,a1,a2,a3⟩:=hA k t ht
   have hb1:=joinL_take_le (texts L) (k+1)
   have hJ:=HJ.out
   by_cases hk0:k=0
   ·subst hk0
    have hj:=joinL_zero (texts_at ht)
    rw [hj] at hb1
    have HB:=hid (show t.text.length≤5000000 by omega)
    have HJ1:=hid hj
    have HO:Hid (OwnB wr w.heap.size u3 []):=hid (by have:=HR.out.1; rwa [List.take_zero] at this)
    simp only [Nat.zero_mul,Nat.add_zero] at a0 a1 a2 a3
    clear ht hA hj hb1 hJ
    go_wp2_with (refine u6v rfl _ _ rfl w.heap.size u3 [] t.text rfl (HO.out.below ((Below.refl _ _).alloc (Nat.le_refl _) _)) rfl (by have:=HB.out; simp; omega) (by simp; omega) ?_; intro v' w4 hown4 hbel4; have HO4:=hid hown4; have HB4:=hid hbel4; clear hown4 hbel4)
    go_roundw
    case rel=>exact ⟨1,by omega,by go_num,by
     show OwnB _ _ _ _
     rw [HJ1.out]; exact HO4.out,HR.out.2.trans (((Below.refl _ _).alloc hwr _).trans HB4.out)⟩
    case measure=>simp [intOf]; omega
   ·have hj:=joinL_step (texts_at ht) (by omega)
    obtain ⟨l0,hl0⟩:∃ l0,u4s ((texts L).take k)=l0:=⟨_,rfl⟩
    rw [hj,hl0] at hb1
    rw [hl0] at hj
    have HB:=hid (show l0.length+t.text.length≤5000000 by simp at hb1; omega)
    have HJ1:=hid hj
    have HO:Hid (OwnB wr w.heap.size u3 l0):=hid (by have:=HR.out.1; rwa [hl0] at this)
    have hk1:0<k:=by omega
    clear ht hA hj hb1 hJ hl0
    go_wp2_with (first | (refine u6v rfl _ _ rfl w.heap.size v2 (l0++[32]) t.text rfl HO2.out rfl (by have:=HB.out; simp; omega) (by omega) ?_; intro v' w4 hown4 hbel4; have HO4:=hid hown4; have HB4:=hid hbel4; clear hown4 hbel4) | (refine wpList_append_blank rfl _ _ rfl w.heap.size u3 l0 rfl (HO.out.below ((Below.refl _ _).alloc (Nat.le_refl _) _)) (wr.heap.size+1) (by simp) rfl (by have:=HB.out; omega) (by simp; omega) ?_; intro v2 w2 hown2 hbel2 hblk2 hsz2; have hc2:=blank_cell hblk2 HO.out (Nat.le_refl _); have hz2:w.heap.size≤w2.heap.size:=(by simp at hsz2; omega); have HO2:=hid hown2; have HB2:=hid hbel2; clear hown2 hbel2 hblk2 hsz2))
    go_roundw
    case rel=>exact ⟨k+1,by omega,by go_num,by
     show OwnB _ _ _ _
     rw [HJ1.out,show l0++32 :: t.text=l0++[32]++t.text by simp]; exact HO4.out,(HR.out.2.trans (((Below.refl _ _).alloc hwr _).trans HB2.out)).trans HB4.out⟩
    case measure=>simp [intOf]; omega
  ·have HK:Hid (u4s ((texts L).take k)=u4s (texts L)):=hid (by rw [List.take_of_length_le (by rw [texts_len]; have:=HN.out; omega)])
   go_wp2_with (refine wpList_of_bytes rfl _ rfl _ _ rfl HR.out.1.rb ?_)
   go_ret
   exact ⟨by rw [← HK.out]; rfl,HR.out.2⟩
end Go.Proofs.YtbkhnilbgocpnaaGreatDoor.LexC
namespace Go.Proofs.YtbkhnilbgocpnaaGreatDoor.SynC
open Go.Proofs.YtbkhnilbgocpnaaGreatDoor.LexC
open Go Go.ChangeShapes Go.WideShapes Go.ChangeAt Go.RowKit Go.Deep
theorem texts_tk (l:List (List UInt8)):texts (l.map tk)=l:=by
 unfold texts; rw [List.map_map]; conv=>rhs; rw [← List.map_id l]
 rfl
theorem texts_txs (l:List K):u4s (texts (([]:List Tok)++(txs l).map tk))=txt l:=by rw [List.nil_append,texts_tk]; rfl
theorem ws_new {w:World} {b:Nat} (hb:w.heap[b]? = some (.cells #[.slice none 0 0] 142 (0,0))) (base:Nat) (hG:Glob w) (hp:Gv w 7 powA) (h10:10≤base) (hl:base≤b):Ws b base w (.slice none 0 0) [] :=
 ⟨hb,OwnT.nil _ _,hG,h10,hl,by simp,hp⟩
theorem exprText_w {nm:List UInt8→Bool} (hF:FmtU) (a:Ex) (hok:okE nm a=true) (w:World) (hG:Glob w) (hp:Gv w 7 powA) (h10:10≤w.heap.size) (bk bo bn:Int) (bx:List UInt8) (bA:Option Addr) (bm bc:Nat) (hr:RE w (fun g=>g<w.heap.size) [.int .i64 bk,.int .i64 bo,.int .i32 bn,.string (bs bx),.slice bA bm bc] a)
  (hlen:(tE dgL a).length≤100000) (hj:(txt (tE dgL a)).length≤1000000) :
  Calls Tryz.prog 57 #[.agg #[.int .i64 bk,.int .i64 bo,.int .i32 bn,.string (bs bx),.slice bA bm bc]] w fun e w'=>e=.returned (.string (bs (txt (tE dgL a))))∧Below w.heap.size w w':=by
 have HE:=hid (we_all hF a hok)
 have HOK:=hid hok
 have HR:=hid hr
 have HJ:=hid hj
 have HG:=hid hG
 have HP:=hid hp
 clear hr hj hG hp hok
 go_enter Tryz.func57,Tryz.ntmps57
 go_wp2_with fail
 have hb0:Below w.heap.size w ((w.alloc (.cells #[.int .i64 bk,.int .i64 bo,.int .i32 bn,.string (bs bx),.slice bA bm bc] 34)).alloc (.cells #[.slice none 0 0] 142)):=((Below.refl _ _).alloc tSZ _).alloc tSZ _
 refine (HE.out.call (w.heap.size+1) w.heap.size _ (.slice none 0 0) [] _ _ _ _ _ _ _ (ws_new (u0h (by simp only [u0c])) _ (HG.out.below hb0 h10) ?_ h10 (by omega)) (u2c hb0 HR.out) HOK.out (by simp; omega)).mono ?_
 ·obtain ⟨ty,fr,h⟩:=HP.out
  exact ⟨ty,fr,(hb0.block 7 (by omega)).trans h⟩
 rintro e w1 ⟨rfl,v1,hw1,hf1⟩
 have hB1:=hid (hb0.trans (hf1.below (by omega) (fun g hg=>by simp [Value.ownBlock] at hg) tSZ))
 have hW1:=hid hw1
 have hc:=cell_of_row _ _ 0 _ _ _ hw1.hb
 clear hf1 hw1
 go_wp2_with fail
 refine (lexJoin_any v1 _ (by simp [txs]; omega) (by rw [texts_txs]; exact Nat.le_trans HJ.out (by omega)) _ hW1.out.own.rt).mono ?_
 rintro e w2 ⟨rfl,hb2⟩
 have hB2:=hid (hB1.out.trans (hb2.mono hB1.out.size))
 clear hb2
 go_wp2
 go_ret
 exact ⟨by rw [← texts_txs]; rfl,hB2.out⟩
theorem flat_step {α:Type} {f:α→List K} {l:List α} {k:Nat} {a:α} (h:l[k]? = some a):(l.take (k+1)).flatMap f=(l.take k).flatMap f++f a:=by
 obtain ⟨h1,h2⟩:=List.getElem?_eq_some_iff.1 h
 rw [List.take_succ_eq_append_getElem h1,List.flatMap_append,h2]; simp
theorem flat_room {α:Type} {f:α→List K} {l:List α} {k:Nat} {a:α} (h:l[k]? = some a):((l.take k).flatMap f).length+(f a).length≤(l.flatMap f).length:=by
 rw [← List.length_append,← flat_step h]
 conv=>rhs; rw [← List.take_append_drop (k+1) l,List.flatMap_append,List.length_append]
 omega
theorem flat_count {α:Type} {f:α→List K} (h:∀ a,0<(f a).length):∀ l:List α,l.length≤(l.flatMap f).length
 | []=>by simp
 | a :: l=>by
  have:=flat_count h l
  have:=h a
  rw [List.flatMap_cons,List.length_append,List.length_cons]
  omega
def fnT (f:Fn):List K:=tI dgL f.it
def krT (f:Kr):List K:=tI dgL f.it
theorem its_flat (p:Pg):p.its.flatMap (tI dgL)=p.fns.flatMap fnT++p.krs.flatMap krT:=by
 unfold Pg.its; rw [List.flatMap_append,List.flatMap_map,List.flatMap_map]; rfl
theorem fn_ok {nm:List UInt8→Bool} {p:Pg} (h:OkP nm p) {k:Nat} {f:Fn} (hf:p.fns[k]? = some f):f.params.length≤1000∧okSs nm f.body=true:=by
 have:=h f.it (List.mem_append.2 (.inl (List.mem_map_of_mem (List.mem_of_getElem? hf))))
 simp only [Fn.it,okI,Bool.and_eq_true,decide_eq_true_eq] at this
 exact ⟨by omega,this.2⟩
theorem kr_ok {nm:List UInt8→Bool} {p:Pg} (h:OkP nm p) {k:Nat} {f:Kr} (hf:p.krs[k]? = some f):f.params.length≤1000∧(∀ a∈f.shared,1≤a.2∧a.2≤64)∧okSs nm f.body=true:=by
 have:=h f.it (List.mem_append.2 (.inr (List.mem_map_of_mem (List.mem_of_getElem? hf))))
 simp only [Kr.it,okI,Bool.and_eq_true,decide_eq_true_eq,List.all_eq_true] at this
 exact ⟨by omega,fun a ha=>(this.1.1.2 a ha).2,this.2⟩
theorem programText_w {nm:List UInt8→Bool} (hF:FmtU) (hI:ItoS) (p:Pg) (hok:OkP nm p) (w:World) (hG:Glob w) (hp:Gv w 7 powA) (h10:10≤w.heap.size) (A:Option Addr) (m c:Nat) (B:Option Addr) (mb cb:Nat)
  (hf:SlR rdF 3 (fun g=>g<w.heap.size) w (.slice A m c) p.fns) (hk:SlR rdK 4 (fun g=>g<w.heap.size) w (.slice B mb cb) p.krs)
  (hlen:(p.its.flatMap (tI dgL)).length≤400000) (hj:(txt (p.its.flatMap (tI dgL))).length≤5000000) :
  Calls Tryz.prog 54 #[.agg #[.slice A m c,.slice B mb cb]] w fun e w'=>e=.returned (.string (bs (txt (p.its.flatMap (tI dgL)))))∧Below w.heap.size w w':=by
 obtain ⟨fns,krs⟩:=p
 rw [its_flat] at *
 have hm:=hf.len
 have hmb:=hk.len
 simp only at *
 subst hm
 subst hmb
 have HF:=hid hF
 have HI:=hid hI
 have HOK:=hid hok
 have HA:=hid hf
 have HB:=hid hk
 have HJ:=hid hj
 have HG:=hid hG
 have HP:=hid hp
 have HL:(fns.flatMap fnT).length+(krs.flatMap krT).length≤400000:=by simpa using hlen
 have hnf:=flat_count (f:=fnT) (fun a=>by simp [fnT,Fn.it,tI]) fns
 have hnk:=flat_count (f:=krT) (fun a=>by simp [krT,Kr.it,tI]) krs
 clear hf hk hj hG hp hok hlen hF hI
 go_enter Tryz.func54,Tryz.ntmps54
 go_wp2_with fail
 have hb0:=hid (show Below w.heap.size w ((w.alloc (.cells #[.slice A fns.length c,.slice B krs.length cb] 26)).alloc (.cells #[.slice none 0 0] 142)) from ((Below.refl _ _).alloc tSZ _).alloc tSZ _)
 go_loopw [11] (fun i wr=>∃ (k:Nat) (v':Value),k≤fns.length∧i=.int .i64 k∧Ws (w.heap.size+1) w.heap.size wr v' ([]++(txs ((fns.take k).flatMap fnT)).map tk)∧Below w.heap.size w wr∧wr.heap[w.heap.size]? = some (.cells #[.slice A fns.length c,.slice B krs.length cb] 26 (0,0))) (fun i _=>fns.length - (intOf i).toNat)
 case atStart =>
  refine ⟨0,.slice none 0 0,Nat.zero_le _,rfl,?_,hb0.out,u0e (by simp) (u0h rfl)⟩
  exact ws_new (u0h (by simp)) _ (HG.out.below hb0.out h10) (by obtain ⟨ty,fr,h⟩:=HP.out; exact ⟨ty,fr,(hb0.out.block 7 (by omega)).trans h⟩) h10 (by omega)
 case round =>
  obtain ⟨k,v',hkk,rfl,hs,hbr,hq⟩:=hrel
  have HSr:=hid hs
  have HBr:=hid hbr
  have HQr:=hid hq
  have hzr:=hbr.size
  have hblr:=hs.lt
  obtain ⟨_,_,_,_⟩:=u2f (Wf.refl (w.heap.size+1) v' wr) hq (by omega) (hs.ne hq (by decide))
  by_cases hlt:k<fns.length
  ·obtain ⟨a,ha⟩:∃ a,fns[k]? = some a:=⟨fns[k],List.getElem?_eq_getElem hlt⟩
   obtain ⟨g,o,rfl,_,hPg,hrows⟩:=u2i (by decide) (fun P w cs a h=>⟨.string (bs a.name),by obtain ⟨_,_,_,_,_,_,h,_⟩:=h; subst h; rfl⟩) (u1m u2l hbr HA.out) (by omega)
   obtain ⟨cs,hcs,fA,fm,fc,fB,fm',fc',rfl,hfp,hfb⟩:=hrows k a ha
   have c0:=hcs 0 _ rfl
   have c1:=hcs 1 _ rfl
   have c2:=hcs 2 _ rfl
   simp only [Nat.add_zero] at c0 c1 c2
   have hin:(0:Int)≤k∧(k:Int)<fns.length:=⟨by omega,by omega⟩
   have hroom:=hid (flat_room (f:=fnT) ha)
   have hfok:=hid (fn_ok HOK.out ha)
   have HFP:=hid hfp
   have HFB:=hid hfb
   have HA:=hid ha
   clear hs hrows ha hcs hbr hq hfp hfb
   go_wp2_with fail
   have hba:Below w.heap.size wr (wr.alloc (.cells #[.string (bs a.name),.slice fA fm fc,.slice fB fm' fc'] 71)):=(Below.refl _ _).alloc (by omega) _
   refine (function_w a (block_w a.body (rest_w a.body (ws_kids HF.out a.body hfok.out.2))) (w.heap.size+1) w.heap.size _ v' _ fA fm fc fB fm' fc' (HSr.out.alloc _) (u1m u4a hba HFP.out) (u1v hba HFB.out) hfok.out.1 (by have:=hroom.out; rw [show tI dgL a.it=fnT a from rfl]; simp only [txs,List.nil_append,List.length_map]; omega)).mono ?_
   rintro e w1 ⟨rfl,v1,hw1,hf1⟩
   have hB1:=hid ((HBr.out.trans hba).trans (hf1.bel (HSr.out.alloc _)))
   obtain ⟨_,_,_,l1⟩:=u2f (q:=w.heap.size) hf1 (u0e (by omega) HQr.out) (by omega) (HSr.out.ne HQr.out (by decide))
   have hW1:=hid hw1
   clear hw1 hf1
   go_wp2
   go_roundw
   case rel =>
    refine ⟨k+1,v1,by omega,by go_num,?_,hB1.out,l1⟩
    rw [flat_step HA.out]
    have:=hW1.out
    simpa [txs,fnT] using this
   case measure=>simp [intOf]; omega
  ·have hS0:=hid (show Ws (w.heap.size+1) w.heap.size wr v' ([]++(txs (fns.flatMap fnT)).map tk) by rw [List.take_of_length_le (by omega)] at hs; exact hs)
   clear hs HSr hbr hq
   go_wp2_with fail
   go_loopw [21] (fun i wr=>∃ (k:Nat) (v':Value),k≤krs.length∧i=.int .i64 k∧Ws (w.heap.size+1) w.heap.size wr v' ([]++(txs (fns.flatMap fnT++(krs.take k).flatMap krT)).map tk)∧Below w.heap.size w wr∧wr.heap[w.heap.size]? = some (.cells #[.slice A fns.length c,.slice B krs.length cb] 26 (0,0))) (fun i _=>krs.length - (intOf i).toNat)
   case atStart=>exact ⟨0,v',Nat.zero_le _,rfl,by simpa using hS0.out,HBr.out,HQr.out⟩
   case round =>
    obtain ⟨k,v',hkk,rfl,hs,hbr,hq⟩:=hrel
    have HSr:=hid hs
    have HBr:=hid hbr
    have HQr:=hid hq
    have hzr:=hbr.size
    have hblr:=hs.lt
    have hcw:=cell_of_row _ _ 0 _ _ _ hs.hb
    by_cases hlt:k<krs.length
    ·obtain ⟨a,ha⟩:∃ a,krs[k]? = some a:=⟨krs[k],List.getElem?_eq_getElem hlt⟩
     obtain ⟨g,o,rfl,_,hPg,hrows⟩:=u2i (by decide) (fun P w cs a h=>⟨.string (bs a.name),by obtain ⟨_,_,_,_,_,_,_,_,_,h,_⟩:=h; subst h; rfl⟩) (u1m u2x hbr HB.out) (by omega)
     obtain ⟨cs,hcs,fA,fm,fc,fB,fm',fc',fC,fm'',fc'',rfl,hfp,hfd,hfb⟩:=hrows k a ha
     have c0:=hcs 0 _ rfl
     have c1:=hcs 1 _ rfl
     have c2:=hcs 2 _ rfl
     have c3:=hcs 3 _ rfl
     simp only [Nat.add_zero] at c0 c1 c2 c3
     have hin:(0:Int)≤k∧(k:Int)<krs.length:=⟨by omega,by omega⟩
     have hroom:=hid (flat_room (f:=krT) ha)
     have hfok:=hid (kr_ok HOK.out ha)
     have HFP:=hid hfp
     have HFD:=hid hfd
     have HFB:=hid hfb
     have HA:=hid ha
     clear hs hrows ha hcs hbr hq hfp hfb hfd
     go_wp2_with fail
     have hba:Below w.heap.size wr (wr.alloc (.cells #[.string (bs a.name),.slice fA fm fc,.slice fB fm' fc',.slice fC fm'' fc''] 75)):=(Below.refl _ _).alloc (by omega) _
     refine (kernel_w HI.out a (rest_w a.body (ws_kids HF.out a.body hfok.out.2.2)) (w.heap.size+1) w.heap.size _ v' _ fA fm fc fB fm' fc' fC fm'' fc'' (HSr.out.alloc _) (u1m u3d hba HFP.out) (u1m u4g hba HFD.out) (u1v hba HFB.out) hfok.out.1 hfok.out.2.1 (by have:=hroom.out; rw [show tI dgL a.it=krT a from rfl]; simp only [txs,List.nil_append,List.length_map,List.length_append]; omega)).mono ?_
     rintro e w1 ⟨rfl,v1,hw1,hf1⟩
     have hB1:=hid ((HBr.out.trans hba).trans (hf1.bel (HSr.out.alloc _)))
     obtain ⟨_,_,_,l1⟩:=u2f (q:=w.heap.size) hf1 (u0e (by omega) HQr.out) (by omega) (HSr.out.ne HQr.out (by decide))
     have hW1:=hid hw1
     clear hw1 hf1
     go_wp2
     go_roundw
     case rel =>
      refine ⟨k+1,v1,by omega,by go_num,?_,hB1.out,l1⟩
      rw [flat_step HA.out]
      have:=hW1.out
      simpa [txs,krT] using this
     case measure=>simp [intOf]; omega
    ·have hS1:=hid (show Ws (w.heap.size+1) w.heap.size wr v' ([]++(txs (fns.flatMap fnT++krs.flatMap krT)).map tk) by rw [List.take_of_length_le (by omega)] at hs; exact hs)
     clear hs HSr hbr hq
     go_wp2_with fail
     refine (lexJoin_any v' _ (by simp only [txs,List.nil_append,List.length_map,List.length_append]; omega) (by rw [texts_txs]; exact HJ.out) _ hS1.out.own.rt).mono ?_
     rintro e w2 ⟨rfl,hb2⟩
     have hB2:=hid (HBr.out.trans (hb2.mono HBr.out.size))
     clear hb2
     go_wp2
     go_ret
     exact ⟨by rw [← texts_txs]; rfl,hB2.out⟩
end Go.Proofs.YtbkhnilbgocpnaaGreatDoor.SynC
namespace Go.Proofs
open Go.Shelf
def Tryz.lays283_ren:Go.Shelf.Ren:=⟨fun | 283=>205 | n=>n,fun | 3=>3 | 9=>9 | 4=>4 | n=>n,fun | n=>n⟩
theorem Tryz.lays283:Go.Proofs.Lays.n283 Tryz.prog Tryz.lays283_ren:={
 mixed:=by kernel_rfl
 f283:=Tryz.func205.trans (congrArg some (by kernel_rfl))
 t3:=Tryz.underlying3
 a3:=Tryz.isAgg3
 z3:=Tryz.sizeOf3
 v3:=Tryz.zeroValue3
 t4:=Tryz.underlying4
 a4:=Tryz.isAgg4
 z4:=Tryz.sizeOf4
 v4:=Tryz.zeroValue4
 t9:=Tryz.underlying9
 a9:=Tryz.isAgg9
 z9:=Tryz.sizeOf9
 v9:=Tryz.zeroValue9 }
def Tryz.laysM284_ren:Go.Shelf.Ren:=⟨fun | 284=>206 | 129=>218 | 317=>217 | 318=>219 | n=>n,fun | 53=>192 | 3=>3 | 212=>233 | 0=>0 | 4=>4 | 46=>235 | 5=>5 | 9=>9 | n=>n,fun | 17=>7 | n=>n⟩
theorem Tryz.laysM284:Go.Proofs.LaysM.n284 Tryz.prog Tryz.laysM284_ren:={
 mixed:=by kernel_rfl
 f129:=Tryz.func218.trans (congrArg some (by kernel_rfl))
 f284:=Tryz.func206.trans (congrArg some (by kernel_rfl))
 f317:=Tryz.func217.trans (congrArg some (by kernel_rfl))
 f318:=Tryz.func219.trans (congrArg some (by kernel_rfl))
 t0:=Tryz.underlying0
 a0:=Tryz.isAgg0
 z0:=Tryz.sizeOf0
 v0:=Tryz.zeroValue0
 t3:=Tryz.underlying3
 a3:=Tryz.isAgg3
 z3:=Tryz.sizeOf3
 v3:=Tryz.zeroValue3
 t4:=Tryz.underlying4
 a4:=Tryz.isAgg4
 z4:=Tryz.sizeOf4
 v4:=Tryz.zeroValue4
 t5:=Tryz.underlying5
 a5:=Tryz.isAgg5
 z5:=Tryz.sizeOf5
 v5:=Tryz.zeroValue5
 t9:=Tryz.underlying9
 a9:=Tryz.isAgg9
 z9:=Tryz.sizeOf9
 v9:=Tryz.zeroValue9
 t46:=Tryz.underlying235
 a46:=Tryz.isAgg235
 z46:=Tryz.sizeOf235
 v46:=Tryz.zeroValue235
 t53:=Tryz.underlying192
 a53:=Tryz.isAgg192
 z53:=Tryz.sizeOf192
 v53:=Tryz.zeroValue192
 t212:=Tryz.underlying233
 a212:=Tryz.isAgg233
 z212:=Tryz.sizeOf233
 v212:=Tryz.zeroValue233
 g17:=by kernel_rfl
 i0:=by kernel_rfl
 i3:=by kernel_rfl
 i4:=by kernel_rfl
 i5:=by kernel_rfl
 i9:=by kernel_rfl
 i46:=by kernel_rfl
 i53:=by kernel_rfl
 i212:=by kernel_rfl
 m17:=by kernel_rfl }
def Tryz.lays285_ren:Go.Shelf.Ren:=⟨fun | 285=>207 | n=>n,fun | 37=>47 | 53=>192 | 3=>3 | 4=>4 | 51=>193 | 9=>9 | 5=>5 | 0=>0 | n=>n,fun | n=>n⟩
theorem Tryz.lays285:Go.Proofs.Lays.n285 Tryz.prog Tryz.lays285_ren:={
 mixed:=by kernel_rfl
 f285:=Tryz.func207.trans (congrArg some (by kernel_rfl))
 t0:=Tryz.underlying0
 a0:=Tryz.isAgg0
 z0:=Tryz.sizeOf0
 v0:=Tryz.zeroValue0
 t3:=Tryz.underlying3
 a3:=Tryz.isAgg3
 z3:=Tryz.sizeOf3
 v3:=Tryz.zeroValue3
 t4:=Tryz.underlying4
 a4:=Tryz.isAgg4
 z4:=Tryz.sizeOf4
 v4:=Tryz.zeroValue4
 t5:=Tryz.underlying5
 a5:=Tryz.isAgg5
 z5:=Tryz.sizeOf5
 v5:=Tryz.zeroValue5
 t9:=Tryz.underlying9
 a9:=Tryz.isAgg9
 z9:=Tryz.sizeOf9
 v9:=Tryz.zeroValue9
 t37:=Tryz.underlying47
 a37:=Tryz.isAgg47
 z37:=Tryz.sizeOf47
 v37:=Tryz.zeroValue47
 t51:=Tryz.underlying193
 a51:=Tryz.isAgg193
 z51:=Tryz.sizeOf193
 v51:=Tryz.zeroValue193
 t53:=Tryz.underlying192
 a53:=Tryz.isAgg192
 z53:=Tryz.sizeOf192
 v53:=Tryz.zeroValue192 }
def Tryz.lays171_ren:Go.Shelf.Ren:=⟨fun | 171=>160 | 243=>186 | 246=>202 | 283=>205 | 284=>206 | 285=>207 | 286=>208 | 129=>218 | 317=>217 | 318=>219 | 319=>220 | 320=>221 | 337=>224 | 338=>225 | n=>n,fun | 3=>3 | 9=>9 | 2=>2 | 4=>4 | 171=>220 | 0=>0 | 53=>192 | 37=>47 | 5=>5 | 173=>223 | 212=>233 | 51=>193 | 20=>20 | 213=>234 | 46=>235 | 232=>239 | 233=>240 | n=>n,fun | 17=>7 | 18=>8 | 19=>9 | n=>n⟩
theorem Tryz.lays171:Go.Proofs.Lays.n171 Tryz.prog Tryz.lays171_ren:={
 mixed:=by kernel_rfl
 f129:=Tryz.func218.trans (congrArg some (by kernel_rfl))
 f171:=Tryz.func160.trans (congrArg some (by kernel_rfl))
 f243:=Tryz.func186.trans (congrArg some (by kernel_rfl))
 f246:=Tryz.func202.trans (congrArg some (by kernel_rfl))
 f283:=Tryz.func205.trans (congrArg some (by kernel_rfl))
 f284:=Tryz.func206.trans (congrArg some (by kernel_rfl))
 f285:=Tryz.func207.trans (congrArg some (by kernel_rfl))
 f286:=Tryz.func208.trans (congrArg some (by kernel_rfl))
 f317:=Tryz.func217.trans (congrArg some (by kernel_rfl))
 f318:=Tryz.func219.trans (congrArg some (by kernel_rfl))
 f319:=Tryz.func220.trans (congrArg some (by kernel_rfl))
 f320:=Tryz.func221.trans (congrArg some (by kernel_rfl))
 f337:=Tryz.func224.trans (congrArg some (by kernel_rfl))
 f338:=Tryz.func225.trans (congrArg some (by kernel_rfl))
 t0:=Tryz.underlying0
 a0:=Tryz.isAgg0
 z0:=Tryz.sizeOf0
 v0:=Tryz.zeroValue0
 t2:=Tryz.underlying2
 a2:=Tryz.isAgg2
 z2:=Tryz.sizeOf2
 v2:=Tryz.zeroValue2
 t3:=Tryz.underlying3
 a3:=Tryz.isAgg3
 z3:=Tryz.sizeOf3
 v3:=Tryz.zeroValue3
 t4:=Tryz.underlying4
 a4:=Tryz.isAgg4
 z4:=Tryz.sizeOf4
 v4:=Tryz.zeroValue4
 t5:=Tryz.underlying5
 a5:=Tryz.isAgg5
 z5:=Tryz.sizeOf5
 v5:=Tryz.zeroValue5
 t9:=Tryz.underlying9
 a9:=Tryz.isAgg9
 z9:=Tryz.sizeOf9
 v9:=Tryz.zeroValue9
 t20:=Tryz.underlying20
 a20:=Tryz.isAgg20
 z20:=Tryz.sizeOf20
 v20:=Tryz.zeroValue20
 t37:=Tryz.underlying47
 a37:=Tryz.isAgg47
 z37:=Tryz.sizeOf47
 v37:=Tryz.zeroValue47
 t46:=Tryz.underlying235
 a46:=Tryz.isAgg235
 z46:=Tryz.sizeOf235
 v46:=Tryz.zeroValue235
 t51:=Tryz.underlying193
 a51:=Tryz.isAgg193
 z51:=Tryz.sizeOf193
 v51:=Tryz.zeroValue193
 t53:=Tryz.underlying192
 a53:=Tryz.isAgg192
 z53:=Tryz.sizeOf192
 v53:=Tryz.zeroValue192
 t171:=Tryz.underlying220
 a171:=Tryz.isAgg220
 z171:=Tryz.sizeOf220
 v171:=Tryz.zeroValue220
 t173:=Tryz.underlying223
 a173:=Tryz.isAgg223
 z173:=Tryz.sizeOf223
 v173:=Tryz.zeroValue223
 t212:=Tryz.underlying233
 a212:=Tryz.isAgg233
 z212:=Tryz.sizeOf233
 v212:=Tryz.zeroValue233
 t213:=Tryz.underlying234
 a213:=Tryz.isAgg234
 z213:=Tryz.sizeOf234
 t232:=Tryz.underlying239
 a232:=Tryz.isAgg239
 z232:=Tryz.sizeOf239
 v232:=Tryz.zeroValue239
 t233:=Tryz.underlying240
 a233:=Tryz.isAgg240
 z233:=Tryz.sizeOf240
 v233:=Tryz.zeroValue240
 g17:=by kernel_rfl
 g18:=by kernel_rfl
 g19:=by kernel_rfl }
end Go.Proofs
namespace Go.Proofs.YtbkhnilbgocpnaaGreatDoor.SynC
open Go.Proofs.YtbkhnilbgocpnaaGreatDoor.LexC
open Go Go.ChangeShapes Go.WideShapes Go.ChangeAt Go.RowKit Go.Deep Go.Sort
theorem dec_dig (u:Nat):Lib.decDigits u=digL u:=by
 induction u using Nat.strongRecOn with
 | _ u ih =>
  rw [Lib.decDigits,digL]
  split
  ·rfl
  ·rw [ih _ (by omega)]
theorem itoS:ItoS:=fun n w h=>(show Calls Tryz.prog 160 #[.int .i64 n] w _ from Any.strconv_Itoa_small Tryz.lays171 n h w).mono (by rintro e w' ⟨rfl,rfl⟩; exact ⟨by rw [dec_dig]; rfl,rfl⟩)
theorem small_any (n:Nat) (w:World) (h:n<100):Calls Tryz.prog 205 #[.int .i64 n] w fun e w'=>e=.returned (.string (bs (digL n)))∧w'=w :=
 (show Calls Tryz.prog 205 #[.int .i64 n] w _ from Any.internal_strconv_small Tryz.lays283 n h w).mono (by rintro e w' ⟨rfl,rfl⟩; exact ⟨by rw [dec_dig]; rfl,rfl⟩)
theorem numDigits_any (u:Nat) (h1:1≤u) (h2:u<18446744073709551616) (w:World) (hp:Gv w 7 powA):Calls Tryz.prog 206 #[.int .u64 u] w fun e w'=>e=.returned (.int .i64 (Lib.nDigits u))∧w'=w:=by
 refine (show Calls Tryz.prog 206 #[.int .u64 u] w _ from Any.internal_strconv_numDigits Tryz.laysM284 u h1 h2 w ?_)
 obtain ⟨ty,fr,h⟩:=hp
 unfold Lib.TabIs World.var?
 refine (congrArg (fun o:Option Nat=>o.bind _) (show _=some 7 by kernel_rfl)).trans ?_
 simp only [Option.bind_some,h]
 rfl
theorem holds0 (w:World) (T:TypeId) (nd:Nat) (hs:nd≤24):Holds (fun (b:UInt8)=>Value.int .u8 (b.toNat:Int)) (w.alloc (.cells Lib.zeros24 T)) w.heap.size 0 (Array.replicate nd (0:UInt8)):=fun j hj=>by
 have hj':j<nd:=by simpa using hj
 refine ⟨?_,World.frozen?_alloc_new _ _ _ _⟩
 rw [World.cell?_alloc_new,Lib.zeros24_at _ (by omega),getElem!_pos _ j hj]
 simp
theorem fmt190 (n:Nat) (w:World) (hn:n<4294967296) (hp:Gv w 7 powA):Calls Tryz.prog 190 #[.int .u64 n,.int .i64 10] w fun e w'=>e=.returned (.string (bs (digL n)))∧Below w.heap.size w w':=by
 have HP:=hid hp
 clear hp
 by_cases hs:n<100
 ·go_enter Tryz.func190,Tryz.ntmps190
  go_wp2_with fail
  refine (small_any n _ hs).mono ?_
  rintro e w1 ⟨rfl,rfl⟩
  go_wp2
  go_ret
  exact ⟨rfl,Below.refl _ _⟩
 ·have hu1:1≤n:=by omega
  have hnd20:Lib.nDigits n≤20:=by have:=Lib.numDigits_eq n hu1 (by omega); split at this <;> omega
  have hH0:=holds0 w 220 (Lib.nDigits n) (by omega)
  have hfmt:=show Calls Tryz.prog 207 #[.slice (some ⟨w.heap.size,0,none⟩) (Array.replicate (Lib.nDigits n) (0:UInt8)).size 24,.int .u64 n] _ _ from Any.internal_strconv_formatBase10 Tryz.lays285 w.heap.size 0 24 n (Array.replicate (Lib.nDigits n) 0) (w.alloc (.cells Lib.zeros24 220)) hH0 (by rw [Array.size_replicate]; exact Lib.lt_pow_nDigits n) (by omega) (by rw [Array.size_replicate]; omega)
  rw [Array.size_replicate] at hfmt
  have HF:=hid hfmt
  have HH0:=hid hH0
  clear hH0 hfmt
  have hal:Tryz.prog.arrayLen 220=24:=by simp [Program.arrayLen,Tryz.underlying220]
  have hsl:∀ W,(Instr.sliceAt 220 (.pointer (some ⟨w.heap.size,0,none⟩)) none (some (.int .i64 (Lib.nDigits n:Int))) none).run Tryz.prog W=.ok (.slice (some ⟨w.heap.size,0,none⟩) (Lib.nDigits n) 24) W:=fun W=>by
   rw [run_sliceAt_array_h W 220 ⟨w.heap.size,0,none⟩ (by simp [Program.arrayLen,Program.elem,Tryz.underlying220]) .i64 (Lib.nDigits n:Int) (by omega) (by rw [hal]; omega)]
   go_simp
  clear hal
  go_enter Tryz.func190,Tryz.ntmps190
  go_wp2_with fail
  refine (numDigits_any n hu1 (by omega) _ ?_).mono ?_
  ·obtain ⟨ty,fr,h⟩:=HP.out
   exact ⟨ty,fr,u0e (Array.getElem?_eq_some_iff.1 h).1 h⟩
  rintro e w1 ⟨rfl,rfl⟩
  go_wp2_with fail
  refine HF.out.mono ?_
  rintro e w1 ⟨rfl,k,v',dk,rfl,hF⟩
  have hcv:(convert 47 9 (.slice (some ⟨w.heap.size,0,none⟩) (Lib.nDigits n) 24)).run Tryz.prog ((putRow (fun (b:UInt8)=>Value.int .u8 (b.toNat:Int)) (w.alloc (.cells Lib.zeros24 220)) w.heap.size 0 dk).drewN k)=.ok (.string ⟨(Lib.decDigits n).toArray⟩) ((putRow (fun (b:UInt8)=>Value.int .u8 (b.toNat:Int)) (w.alloc (.cells Lib.zeros24 220)) w.heap.size 0 dk).drewN k):=by
   have h:=run_convert_bytes_back (P:=Tryz.prog) ((putRow (fun (b:UInt8)=>Value.int .u8 (b.toNat:Int)) (w.alloc (.cells Lib.zeros24 220)) w.heap.size 0 dk).drewN k) 47 9 5 ⟨w.heap.size,0,none⟩ 24 (Lib.decDigits n) Tryz.underlying47 Tryz.underlying5 Tryz.underlying9 (fun j hj=>by
    rw [Lib.row_is_numeral hF j hj,Lib.add_plain,World.cell?_drewN]
    exact cell?_putRow (fun (b:UInt8)=>Value.int .u8 (b.toNat:Int)) _ w.heap.size 0 _ dk HH0.out (by rw [hF.size,Array.size_replicate]) j (by rw [hF.size]; rw [Lib.decDigits_length] at hj; exact hj))
   rw [Lib.decDigits_length] at h
   exact h
  have hend:Below w.heap.size w ((putRow (fun (b:UInt8)=>Value.int .u8 (b.toNat:Int)) (w.alloc (.cells Lib.zeros24 220)) w.heap.size 0 dk).drewN k):=by
   have h0:Below w.heap.size w (w.alloc (.cells Lib.zeros24 220)):=(Below.refl _ _).alloc (Nat.le_refl _) _
   refine h0.trans ⟨rfl,rfl,rfl,by show _≤(putRow _ _ _ _ _).heap.size; simp [putRow,mapBlock],fun i hi=>?_⟩
   show (putRow _ _ _ _ _).heap[i]? = _
   simp [putRow,mapBlock,Array.getElem?_modify,show w.heap.size≠i by omega]
  go_wp2
  go_ret
  exact ⟨by rw [← dec_dig]; rfl,hend⟩
theorem fmtU:FmtU:=by
 intro n w hn hp
 have HP:=hid hp
 clear hp
 go_enter Tryz.func165,Tryz.ntmps165
 go_wp2_with fail
 refine (fmt190 n _ hn HP.out).mono ?_
 rintro e w1 ⟨rfl,hb⟩
 have HB:=hid hb
 clear hb
 go_wp2
 go_ret
 exact ⟨rfl,HB.out⟩
end Go.Proofs.YtbkhnilbgocpnaaGreatDoor.SynC
