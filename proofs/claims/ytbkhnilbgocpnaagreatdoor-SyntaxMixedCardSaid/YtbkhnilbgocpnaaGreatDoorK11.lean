import Derived.Test.YtbkhnilbgocpnaaGreatDoorK10
import Derived.Test.YtbkhnilbgocpnaaGreatDoorK0
set_option linter.unusedVariables false
set_option linter.unusedSimpArgs false
set_option maxRecDepth 100000
set_option maxHeartbeats 2000000
open Go.Lib (hid)
namespace Go.Proofs.YtbkhnilbgocpnaaGreatDoor.SynC
open Go.Proofs.YtbkhnilbgocpnaaGreatDoor.LexC
open Go Go.ChangeShapes Go.WideShapes Go.ChangeAt Go.RowKit Go.Deep
def tk (x:List UInt8):Tok:=⟨0,0,x,0⟩
def powA:Array Value:=#[.int .u64 1,.int .u64 10,.int .u64 100,.int .u64 1000,.int .u64 10000,.int .u64 100000,.int .u64 1000000,.int .u64 10000000,.int .u64 100000000,.int .u64 1000000000,.int .u64 10000000000,.int .u64 100000000000,.int .u64 1000000000000,.int .u64 10000000000000,.int .u64 100000000000000,.int .u64 1000000000000000,.int .u64 10000000000000000,.int .u64 100000000000000000,.int .u64 1000000000000000000,.int .u64 10000000000000000000]
structure Ws (bw base:Nat) (w:World) (v:Value) (L:List Tok):Prop where
 hb:w.heap[bw]? = some (.cells #[v] 142 (0,0))
 own:OwnT w base v L
 g:Glob w
 b10:10≤base
 lb:base≤bw
 len:L.length≤500000
 pw:Gv w 7 powA
structure Wf (bw:Nat) (v:Value) (w w':World) (v':Value):Prop where
 os:w'.os=w.os
 tape:w'.tape=w.tape
 output:w'.output=w.output
 size:w.heap.size≤w'.heap.size
 block:∀ g,g<w.heap.size→g≠bw→v.ownBlock≠some g→w'.heap[g]? = w.heap[g]?
 own:∀ g,v'.ownBlock=some g→v.ownBlock=some g∨w.heap.size≤g
theorem Wf.refl (bw:Nat) (v:Value) (w:World):Wf bw v w w v:=⟨rfl,rfl,rfl,Nat.le_refl _,fun _ _ _ _=>rfl,fun _ h=>.inl h⟩
theorem Wf.trans {bw:Nat} {u v z:Value} {a b c:World} (h:Wf bw u a b v) (k:Wf bw v b c z):Wf bw u a c z :=
 ⟨k.os.trans h.os,k.tape.trans h.tape,k.output.trans h.output,Nat.le_trans h.size k.size,fun g h1 h2 h3=>(k.block g (Nat.lt_of_lt_of_le h1 h.size) h2 (fun e=>by
  rcases h.own g e with e | e
  ·exact h3 e
  ·omega)).trans (h.block g h1 h2 h3),fun g hg=>by
  rcases k.own g hg with e | e
  ·exact h.own g e
  ·exact .inr (Nat.le_trans h.size e)⟩
theorem Wf.alloc {bw:Nat} {u v:Value} {a b:World} (h:Wf bw u a b v) (o:Obj):Wf bw u a (b.alloc o) v :=
 h.trans ⟨rfl,rfl,rfl,by simp,fun g hg _ _=>Below.heap_alloc _ _ _ hg,fun _ h=>.inl h⟩
theorem Wf.below {bw base:Nat} {u v:Value} {a b:World} (h:Wf bw u a b v) (hb:base≤bw) (hu:∀ g,u.ownBlock=some g→base≤g) (hz:base≤a.heap.size):Below base a b :=
 ⟨h.os,h.tape,h.output,h.size,fun k hk=>h.block k (by omega) (by omega) (fun e=>by have:=hu k e; omega)⟩
theorem Ws.lt {bw base:Nat} {w:World} {v:Value} {L:List Tok} (h:Ws bw base w v L):bw<w.heap.size:=(Array.getElem?_eq_some_iff.1 h.hb).1
theorem Ws.olt {bw base:Nat} {w:World} {v:Value} {L:List Tok} (h:Ws bw base w v L):∀ g,v.ownBlock=some g→base≤g∧g<w.heap.size:=World.ownsRow.lt h.own
theorem Ws.oty {bw base:Nat} {w:World} {v:Value} {L:List Tok} (h:Ws bw base w v L):∀ g,v.ownBlock=some g→∃ cur,w.heap[g]? = some (.cells cur 67 (0,0)):=by
 intro g hg
 rcases h.own.2 with ⟨hv,_⟩ | ⟨g',cap,cur,hv,_,hgg,_⟩
 ·rw [hv] at hg; cases hg
 ·rw [hv] at hg; simp [Value.ownBlock] at hg; subst hg; exact ⟨cur,hgg⟩
theorem Ws.ne {bw base:Nat} {w:World} {v:Value} {L:List Tok} (h:Ws bw base w v L) {q:Nat} {cs:Array Value} {T:TypeId} {fr:Nat × Nat} (hq:w.heap[q]? = some (.cells cs T fr)) (hT:T≠67):v.ownBlock≠some q:=by
 intro e
 obtain ⟨cur,hc⟩:=h.oty q e
 rw [hq] at hc; injection hc with hc; injection hc with _ hc _; exact hT hc
theorem Ws.alloc {bw base:Nat} {w:World} {v:Value} {L:List Tok} (h:Ws bw base w v L) (o:Obj):Ws bw base (w.alloc o) v L :=
 ⟨u0e h.lt h.hb,h.own.below ((Below.refl _ _).alloc (Nat.le_refl _) _),h.g.below (B:=base) ((Below.refl _ _).alloc (by have:=h.lt; have:=h.lb; omega) _) h.b10,h.b10,h.lb,h.len,h.pw.keep (World.grownBy_alloc w o none) (by simp)⟩
theorem Ws.form {bw base:Nat} {w:World} {v:Value} {L:List Tok} (h:Ws bw base w v L):∃ A m c,v=.slice A m c:=by
 rcases h.own.2 with ⟨hv,_⟩ | ⟨g',cap,cur,hv,_⟩
 ·exact ⟨_,_,_,hv⟩
 ·exact ⟨_,_,_,hv⟩
theorem u2f {bw:Nat} {v v':Value} {W w1:World} {q:Nat} {cs:Array Value} {T:TypeId} (hf:Wf bw v W w1 v') (hq:W.heap[q]? = some (.cells cs T (0,0))) (hne:q≠bw) (hv:v.ownBlock≠some q) :
  (∀ j,w1.cell? ⟨q,j,none⟩=cs[j]?)∧(∀ j,w1.frozen? ⟨q,j,none⟩=false)∧q<w1.heap.size∧w1.heap[q]? = some (.cells cs T (0,0)):=by
 have h:=(hf.block q (Array.getElem?_eq_some_iff.1 hq).1 hne hv).trans hq
 exact ⟨fun j=>cell_of_row _ _ j _ _ _ h,fun j=>by simp [World.frozen?,h],(Array.getElem?_eq_some_iff.1 h).1,h⟩
theorem some_form {w:World} {base:Nat} {v:Value} {L:List Tok} (h:OwnT w base v L) (hL:0<L.length):∃ g m c,v=.slice (some ⟨g,0,none⟩) m c:=by
 obtain ⟨g,c,hv,_⟩:=OwnT.some h hL
 exact ⟨g,_,c,hv⟩
theorem Ws.set {bw base:Nat} {w:World} {x v:Value} {L:List Tok} (hb:w.heap[bw]? = some (.cells #[x] 142 (0,0))) (own:OwnT w base v L) (g:Glob w) (b10:10≤base) (lb:base≤bw) (len:L.length≤500000) (pw:Gv w 7 powA) :
  Ws bw base (w.setCell ⟨bw,0,none⟩ v) v L:=by
 have hg:w.grownBy (w.setCell ⟨bw,0,none⟩ v) (some bw):=gb_setCell (u0r _ _) (.inl rfl) _
 refine ⟨put1 _ hb,World.ownsRow.kept own hg ?_,g.keep hg (by omega),b10,lb,len,pw.keep hg (by simp; omega)⟩
 rcases own.2 with ⟨hv,_⟩ | ⟨g',cap,cur,hv,_,hgg,_⟩
 ·exact .inl (by rw [hv]; rfl)
 ·refine .inr fun e=>?_
  rw [hv] at e; simp [Value.ownBlock] at e; subst e
  rw [hb] at hgg; injection hgg with h; injection h with _ h _; exact absurd h (by decide)
def Wrote (bw base:Nat) (w:World) (v:Value) (L:List Tok) (xs:List (List UInt8)) (e:Ending) (w':World):Prop :=
 e=.returned (.tuple #[])∧∃ v',Ws bw base w' v' (L++xs.map tk)∧Wf bw v w w' v'
def strA (xs:List (List UInt8)):Array Value:=(xs.map fun x=>Value.string (bs x)).toArray
theorem strA_at {xs:List (List UInt8)} {k:Nat} {x:List UInt8} (h:xs[k]? = some x):(strA xs)[k]? = some (.string (bs x)):=by simp [strA,h]
set_option maxRecDepth 100000 in
theorem wpList_append_tk {ops:Array Oper} {rest:List Oper} {o:Oper} {a:Act} {W:World} {Q:Exit→Act→World→Prop} (hgd:o.guard=none) (s x:Operand)
  (ho:o.op=.call { callee:=.builtin .append,args:=#[s,x],argTypes:=#[63,63] }) (base:Nat) (v:Value) (L:List Tok) (t:Tok)
  (hs:a.eval s=v) (hown:OwnT W base v L) (g:Nat) (hg:g=W.heap.size) (hx:a.eval x=.slice (some ⟨g,0,none⟩) 1 1) (hl:L.length≤1000000) (hbase:base≤W.heap.size)
  (h:∀ v' w',OwnT w' base v' (L++[t])→Below base W w'→(v'.ownBlock=v.ownBlock∨v'.ownBlock=some (W.heap.size+1))→(∀ g,g<W.heap.size→v.ownBlock≠some g→w'.heap[g]? = W.heap[g]?)→W.heap.size≤w'.heap.size→wpList Tryz.prog ops Q rest (a.put o.dst v') w') :
  wpList Tryz.prog ops Q (o :: rest) a (W.alloc (.cells #[.int .i64 t.kind,.int .i64 t.pos,.string (bs t.text),.int .i32 t.num] 67)):=by
 subst hg
 obtain ⟨i,hi,hz,hs1,hb⟩:=info_parts info30
 have hown':(W.alloc (.cells #[.int .i64 t.kind,.int .i64 t.pos,.string (bs t.text),.int .i32 t.num] 67)).ownsRow base 67 4 v L.length (u4m L) :=
  hown.below ((Below.refl _ _).alloc (Nat.le_refl _) _)
 refine wpList_append_own_at _ hgd s x 63 ho base 67 i _ 4 40 Tryz.underlying63 hi hz hs1 hb rfl (by decide) v L.length (u4m L) hs hown' ⟨W.heap.size,0,none⟩ 1 1 (u3p t) hx rfl ?_ (tokCells_one t) (by unfold maxLen; omega) (by omega) (by simp; omega) ?_
 ·intro j u hu
  have hadd:(⟨W.heap.size,0,none⟩:Addr).add j=⟨W.heap.size,j,none⟩:=by unfold Addr.add; split <;> simp_all
  rw [hadd,cell_of_row _ _ j #[.int .i64 t.kind,.int .i64 t.pos,.string (bs t.text),.int .i32 t.num] 67 (0,0) (by show (W.heap.push _)[W.heap.size]? = _; simp)]
  rw [← hu]
  simp [u3p]
 ·intro v' w' h1 h2 _ h5
  have e:u4m L++u3p t=u4m (L++[t]):=by rw [← cellsT_append]; simp [u4m]
  rw [e] at h1
  have hall:W.grownBy w' v.ownBlock:=(World.grownBy_alloc _ _ _).trans h2
  refine h v' w' ?_ ((Below.refl base W).grown hall hbase (fun k hk=>((World.ownsRow.lt hown) k hk).1)) (by rw [u0c] at h5; exact h5) (fun g hg hne=>hall.block g hg (fun e=>hne e.symm)) hall.size
  unfold OwnT
  rw [List.length_append]
  exact h1
theorem u0y {bw base:Nat} (w:World) (v:Value) (L:List Tok) (hw:Ws bw base w v L) (xs:List (List UInt8)) (q n:Nat) (hn:n=xs.length) (hq:w.heap[q]? = some (.cells (strA xs) 9 (0,0))) (hlen:L.length+xs.length≤500000) :
  Calls Tryz.prog 154 #[.pointer (some ⟨bw,0,none⟩),.slice (some ⟨q,0,none⟩) n n] w (Wrote bw base w v L xs):=by
 have HW:=hid hw
 have HQ:=hid hq
 have hqb:q≠bw:=fun e=>by have:=hw.hb; rw [← e,hq] at this; injection this with h; injection h with _ h _; exact absurd h (by decide)
 have hnq:=hid (hw.ne hq (by decide))
 have hlb:=hw.lb
 have hbl:=hw.lt
 clear hw hq
 subst hn
 go_enter Tryz.func154,Tryz.ntmps154
 go_wp2_with fail
 go_loopw [8] (fun i wr=>∃ (k:Nat) (v':Value),k≤xs.length∧i=.int .i64 k∧Ws bw base wr v' (L++(xs.take k).map tk)∧Wf bw v w wr v'∧wr.heap[q]? = some (.cells (strA xs) 9 (0,0))) (fun i _=>xs.length - (intOf i).toNat)
 case atStart=>exact ⟨0,v,Nat.zero_le _,rfl,by simpa using HW.out,Wf.refl _ _ _,HQ.out⟩
 case round =>
  obtain ⟨k,v',hk,rfl,hs,hf,hq⟩:=hrel
  have HS:=hid hs
  have HF:=hid hf
  have HQ2:=hid hq
  have cb:∀ j,wr.cell? ⟨bw,j,none⟩=#[v'][j]?:=fun j=>cell_of_row _ _ j _ _ _ hs.hb
  have fb:∀ j,wr.frozen? ⟨bw,j,none⟩=false:=fun j=>by simp [World.frozen?,hs.hb]
  have hbl2:=hs.lt
  have hwz:=hf.size
  by_cases hlt:k<xs.length
  ·obtain ⟨x,hx⟩:∃ x,xs[k]? = some x:=⟨xs[k],List.getElem?_eq_getElem hlt⟩
   have cx:wr.cell? ⟨q,k,none⟩=some (.string (bs x)):=by rw [cell_of_row _ _ k _ _ _ hq]; exact strA_at hx
   have HX:=hid hx
   have hin:(0:Int)≤k∧(k:Int)<xs.length:=⟨by omega,by omega⟩
   have hl2:(L++(xs.take k).map tk).length≤500000:=by simp; omega
   clear hs hf hq hx
   go_wp2_with (refine wpList_append_tk rfl _ _ rfl base v' (L++(xs.take k).map tk) (tk x) rfl HS.out.own wr.heap.size rfl rfl (by omega) (by omega) ?_; intro v2 w2 hown2 hb2 hwh2 hblk2 hz2; have hbw2:w2.heap[bw]? = some (.cells #[v'] 142 (0,0)):=(hblk2 bw hbl2 (HS.out.ne HS.out.hb (by decide))).trans HS.out.hb; have cb2:∀ j,w2.cell? ⟨bw,j,none⟩=#[v'][j]?:=fun j=>cell_of_row _ _ j _ _ _ hbw2; have fb2:∀ j,w2.frozen? ⟨bw,j,none⟩=false:=fun j=>(by simp [World.frozen?,hbw2]); obtain ⟨X,m,c,rfl⟩:=some_form hown2 (by simp only [List.length_append,List.length_cons]; omega); have HO2:=hid hown2; have HB2:=hid hblk2; have HW2:=hid hwh2; have HBW2:=hid hbw2; clear hown2 hblk2 hwh2 hbw2)
   go_roundw
   case rel =>
    have hxs:(L++(xs.take k).map tk)++[tk x]=L++(xs.take (k+1)).map tk:=by
     rw [List.take_add_one,HX.out]; simp
    have hne:=HS.out.ne HQ2.out (by decide)
    refine ⟨k+1,_,by omega,by go_num,Ws.set HBW2.out (hxs ▸ HO2.out) (HS.out.g.below hb2 HS.out.b10) HS.out.b10 hlb (by simp; omega) (by have hbb:=HS.out.b10; obtain ⟨ty,fr,hp⟩:=HS.out.pw; exact ⟨ty,fr,(hb2.block 7 (by omega)).trans hp⟩),HF.out.trans ⟨hb2.os,hb2.tape,hb2.output,by rw [u0i]; exact hz2,fun g h1 h2 h3=>?_,fun g hg=>?_⟩,u7d hqb ((HB2.out q (Array.getElem?_eq_some_iff.1 HQ2.out).1 hne).trans HQ2.out)⟩
    ·exact u7d h2 (HB2.out g h1 h3)
    ·rcases HW2.out with h | h
     ·exact .inl (h.symm.trans hg)
     ·rw [h] at hg; injection hg with hg; exact .inr (by omega)
   case measure=>simp [intOf]; omega
  ·go_wp2
   go_end0
   exact ⟨rfl,v',by have:=HS.out; rwa [List.take_of_length_le (by omega)] at this,HF.out⟩
def u8b (op:Int) (o:Inf):Bool:=o.op == op&&!o.turned
def signOf (op:Int):Option Inf:=infL.find? (u8b op)
def u6j (op:Int) (k:Nat):Prop:=signOf op=(infL.drop k).find? (u8b op)
theorem u6j.hit {op:Int} {k:Nat} (h:u6j op k) (hk:k<20) (hp:u8b op (infK k)=true):signOf op=some (infK k):=by
 rw [h,infK_drop k hk,List.find?_cons_of_pos hp]
theorem u6j.next {op:Int} {k:Nat} (h:u6j op k) (hk:k<20) (hp:u8b op (infK k)=false):u6j op (k+1):=by
 unfold u6j
 rw [h,infK_drop k hk,List.find?_cons_of_neg (by rw [hp]; decide)]
theorem u6j.last {op:Int} {k:Nat} (h:u6j op k) (hk:20≤k):signOf op=none:=by
 rw [h,List.drop_eq_nil_of_le (by simpa [infL] using hk)]; rfl
def signR (o:Option Inf):Value:=match o with
 | some o=>.tuple #[.string (bs o.s),.bool true]
 | none=>.tuple #[.string ⟨#[]⟩,.bool false]
theorem signOf_op {op:Int} (h0:0≤op) (h1:op<18):∃ o,signOf op=some o∧o.s=u3i op:=by
 rcases op_cases h0 h1 with rfl | rfl | rfl | rfl | rfl | rfl | rfl | rfl | rfl | rfl | rfl | rfl | rfl | rfl | rfl | rfl | rfl | rfl <;> exact ⟨_,rfl,rfl⟩
theorem infixSign_any (op:Int) (w:World) (hS:Gv w 3 infA):Calls Tryz.prog 191 #[.int .i64 op] w fun e w'=>e=.returned (signR (signOf op))∧Below w.heap.size w w':=by
 obtain ⟨ty,fr,hS⟩:=hS
 have hS1:=hid hS
 clear hS
 go_enter Tryz.func191,Tryz.ntmps191
 go_wp2_with (refine wpList_load_row rfl 202 _ rfl 3 rfl ty infA fr _ hS1.out Tryz.underlying202 rfl (by kernel_rfl) ?_)
 go_loopw [7] (fun i wr=>∃ k:Nat,k≤20∧i=.int .i64 k∧u6j op k∧Below w.heap.size w wr) (fun i _=>20 - (intOf i).toNat)
 case atStart=>exact ⟨0,Nat.zero_le _,rfl,rfl,Below.refl _ _⟩
 case round =>
  obtain ⟨k,hk,rfl,hno,hb⟩:=hrel
  have HN:=hid hno
  have HB:=hid hb
  have hz:=hb.size
  clear hno hb
  by_cases hlt:k<20
  ·obtain ⟨g,hg⟩:∃ g,infK k=g:=⟨_,rfl⟩
   obtain ⟨s,lv,o,tu⟩:=g
   have HG:=hid hg
   clear hg
   cases hp:(o == op)
   ·have HP:=hid hp
    go_wp2_with (refine u3g rfl _ _ rfl rfl k rfl hlt _ HG.out ?_)
    go_roundw
    case rel=>exact ⟨k+1,by omega,by go_num,HN.out.next hlt (by rw [HG.out]; unfold u8b; rw [HP.out]; rfl),HB.out.trans tBEL⟩
    case measure=>simp [intOf]; omega
   ·have HP:=hid hp
    cases tu
    ·go_wp2_with (refine u3g rfl _ _ rfl rfl k rfl hlt _ HG.out ?_)
     go_ret2
     exact ⟨by rw [HN.out.hit hlt (by rw [HG.out]; unfold u8b; rw [HP.out]; rfl),HG.out]; rfl,HB.out.trans tBEL⟩
    ·go_wp2_with (refine u3g rfl _ _ rfl rfl k rfl hlt _ HG.out ?_)
     go_roundw
     case rel=>exact ⟨k+1,by omega,by go_num,HN.out.next hlt (by rw [HG.out]; unfold u8b; rw [HP.out]; rfl),HB.out.trans tBEL⟩
     case measure=>simp [intOf]; omega
  ·go_wp2
   go_ret2
   exact ⟨by rw [HN.out.last (by omega)]; rfl,HB.out⟩
def foldK (op:Int):Option (List UInt8 × Int):=foldL.find? fun f=>f.2 == op
def NoFold (op:Int) (k:Nat):Prop:=foldK op=(foldL.drop k).find? fun f=>f.2 == op
theorem foldT_drop (k:Nat) (h:k<6):foldL.drop k=foldT k :: foldL.drop (k+1):=by
 rw [List.drop_eq_getElem_cons (by simpa [foldL] using h)]
 unfold foldT
 rw [List.getD_eq_getElem?_getD,List.getElem?_eq_getElem (by simpa [foldL] using h)]; rfl
theorem NoFold.hit {op:Int} {k:Nat} (h:NoFold op k) (hk:k<6) (hp:((foldT k).2 == op)=true):foldK op=some (foldT k):=by
 rw [h,foldT_drop k hk,List.find?_cons_of_pos (p:=fun f:List UInt8 × Int=>f.2 == op) hp]
theorem NoFold.next {op:Int} {k:Nat} (h:NoFold op k) (hk:k<6) (hp:((foldT k).2 == op)=false):NoFold op (k+1):=by
 unfold NoFold
 rw [h,foldT_drop k hk,List.find?_cons_of_neg (p:=fun f:List UInt8 × Int=>f.2 == op) (by rw [hp]; decide)]
theorem NoFold.last {op:Int} {k:Nat} (h:NoFold op k) (hk:6≤k):foldK op=none:=by
 rw [h,List.drop_eq_nil_of_le (by simpa [foldL] using hk)]; rfl
def foldR (o:Option (List UInt8 × Int)):Value:=match o with
 | some o=>.tuple #[.string (bs o.1),.bool true]
 | none=>.tuple #[.string ⟨#[]⟩,.bool false]
theorem u6a (op:Int) (w:World) (hS:Gv w 6 foldA):Calls Tryz.prog 192 #[.int .i64 op] w fun e w'=>e=.returned (foldR (foldK op))∧Below w.heap.size w w':=by
 obtain ⟨ty,fr,hS⟩:=hS
 have hS1:=hid hS
 clear hS
 go_enter Tryz.func192,Tryz.ntmps192
 go_wp2_with (refine wpList_load_row rfl 227 _ rfl 6 rfl ty foldA fr _ hS1.out Tryz.underlying227 rfl (by kernel_rfl) ?_)
 go_loopw [7] (fun i wr=>∃ k:Nat,k≤6∧i=.int .i64 k∧NoFold op k∧Below w.heap.size w wr) (fun i _=>6 - (intOf i).toNat)
 case atStart=>exact ⟨0,Nat.zero_le _,rfl,rfl,Below.refl _ _⟩
 case round =>
  obtain ⟨k,hk,rfl,hno,hb⟩:=hrel
  have HN:=hid hno
  have HB:=hid hb
  have hz:=hb.size
  clear hno hb
  by_cases hlt:k<6
  ·obtain ⟨g,o,hg⟩:∃ g o,foldT k=(g,o):=⟨_,_,rfl⟩
   have HG:=hid hg
   clear hg
   cases hp:(o == op)
   ·have HP:=hid hp
    go_wp2_with (refine u5g rfl _ _ rfl rfl k rfl hlt g o HG.out ?_)
    go_roundw
    case rel=>exact ⟨k+1,by omega,by go_num,HN.out.next hlt (by rw [HG.out]; exact HP.out),HB.out.trans tBEL⟩
    case measure=>simp [intOf]; omega
   ·have HP:=hid hp
    go_wp2_with (refine u5g rfl _ _ rfl rfl k rfl hlt g o HG.out ?_)
    go_ret2
    exact ⟨by rw [HN.out.hit hlt (by rw [HG.out]; exact HP.out),HG.out]; rfl,HB.out.trans tBEL⟩
  ·go_wp2
   go_ret2
   exact ⟨by rw [HN.out.last (by omega)]; rfl,HB.out⟩
def FmtU:Prop:=∀ (n:Nat) (w:World),n<4294967296→Gv w 7 powA→Calls Tryz.prog 165 #[.int .u64 n,.int .i64 10] w fun e w'=>e=.returned (.string (bs (digL n)))∧Below w.heap.size w w'
def txs (l:List K):List (List UInt8):=l.map (·.2.1)
def WE (nm:List UInt8→Bool):Ex→Prop
 | .mk kind op num name kids=>∀ (bw base:Nat) (w:World) (v:Value) (L:List Tok) (A:Option Addr) (m c:Nat),Ws bw base w v L→SlE w (fun g=>g<base) (.slice A m c) kids→okE nm (.mk kind op num name kids)=true →
  L.length+(tE dgL (.mk kind op num name kids)).length≤500000 →
  Calls Tryz.prog 109 #[.pointer (some ⟨bw,0,none⟩),.agg #[.int .i64 kind,.int .i64 op,.int .i32 num,.string (bs name),.slice A m c]] w (Wrote bw base w v L (txs (tE dgL (.mk kind op num name kids))))
theorem WE.call {nm:List UInt8→Bool} {a:Ex} (h:WE nm a) (bw base:Nat) (w:World) (v:Value) (L:List Tok) (bk bo bn:Int) (bx:List UInt8) (bA:Option Addr) (bm bc:Nat) (hw:Ws bw base w v L) (hr:RE w (fun g=>g<base) [.int .i64 bk,.int .i64 bo,.int .i32 bn,.string (bs bx),.slice bA bm bc] a) (hok:okE nm a=true) (hl:L.length+(tE dgL a).length≤500000) :
  Calls Tryz.prog 109 #[.pointer (some ⟨bw,0,none⟩),.agg #[.int .i64 bk,.int .i64 bo,.int .i32 bn,.string (bs bx),.slice bA bm bc]] w (Wrote bw base w v L (txs (tE dgL a))):=by
 cases a with
 | mk kind op num name kids =>
  rw [RE_eq] at hr
  obtain ⟨K,hc,hs⟩:=hr
  simp only [exRow,List.cons.injEq,Value.int.injEq,Value.string.injEq,true_and,and_true] at hc
  obtain ⟨h1,h2,h3,h4,h5⟩:=hc
  have h4:=bs_inj h4
  subst h1; subst h2; subst h3; subst h4; subst h5
  exact h bw base w v L _ _ _ hw hs hok hl
theorem row_form {w:World} {P:Nat→Prop} {cs:List Value} {a:Ex} (h:RE w P cs a):∃ (k o n:Int) (x:List UInt8) (K:Value),cs=[.int .i64 k,.int .i64 o,.int .i32 n,.string (bs x),K]∧∃ A m c,K=.slice A m c:=by
 cases a with
 | mk kind op num name kids =>
  rw [RE_eq] at h
  obtain ⟨K,hc,hs⟩:=h
  exact ⟨_,_,_,_,K,hc,hs.form⟩
theorem u4j {w:World} {P:Nat→Prop} {A:Option Addr} {m c:Nat} {kids:List Ex} (h:SlE w P (.slice A m c) kids) (hk:0<kids.length):∃ g o,A=some ⟨g,o,none⟩∧m=kids.length∧P g∧∀ k a,kids[k]? = some a→∃ (bk bo bn:Int) (bx:List UInt8) (bA:Option Addr) (bm bc:Nat),
  (w.cell? ⟨g,o+k * 5,none⟩=some (.int .i64 bk)∧w.cell? ⟨g,o+k * 5+1,none⟩=some (.int .i64 bo)∧w.cell? ⟨g,o+k * 5+2,none⟩=some (.int .i32 bn)∧w.cell? ⟨g,o+k * 5+3,none⟩=some (.string (bs bx)) ∧
  w.cell? ⟨g,o+k * 5+4,none⟩=some (.slice bA bm bc))∧RE w P [.int .i64 bk,.int .i64 bo,.int .i32 bn,.string (bs bx),.slice bA bm bc] a:=by
 rcases h with ⟨_,h⟩ | ⟨x,c',hv,hx,hr⟩
 ·rw [h] at hk; cases hk
 ·injection hv with h3 h4 h5
  have hsp:x.spot=none:=by
   obtain ⟨a0,ha0⟩:∃ a,kids[0]? = some a:=⟨kids[0],List.getElem?_eq_getElem hk⟩
   obtain ⟨cs,hat,hre⟩:=REs.get kids x hr 0 a0 ha0
   obtain ⟨k,o,n,y,K,rfl,_⟩:=row_form hre
   have:=hat 0 _ rfl
   simpa [Addr.add] using World.cell?_spot this
  refine ⟨x.block,x.off,by rw [h3]; congr 1; cases x; simp at hsp; subst hsp; rfl,h4,hx (fun e=>by rw [e] at hk; cases hk),fun k a ha=>?_⟩
  obtain ⟨cs,hat,hre⟩:=REs.get kids x hr k a ha
  obtain ⟨k',o,n,y,K,rfl,B,m',c'',rfl⟩:=row_form hre
  have ad:∀ j,(x.add (k * 5)).add j=⟨x.block,x.off+k * 5+j,none⟩:=by
   intro j
   rw [add_add]
   unfold Addr.add
   split
   ·rename_i h0
    have:k=0∧j=0:=by omega
    obtain ⟨rfl,rfl⟩:=this
    cases x; simp at hsp; subst hsp; rfl
   ·simp [Nat.add_assoc]
  have c0:=hat 0 _ rfl
  have c1:=hat 1 _ rfl
  have c2:=hat 2 _ rfl
  have c3:=hat 3 _ rfl
  have c4:=hat 4 _ rfl
  rw [ad] at c0 c1 c2 c3 c4
  exact ⟨k',o,n,y,B,m',c'',⟨c0,c1,c2,c3,c4⟩,hre⟩
theorem u2c {w w':World} {base:Nat} (h:Below base w w'):∀ {cs:List Value} {a:Ex},RE w (fun g=>g<base) cs a→RE w' (fun g=>g<base) cs a:=fun hr=>RE.keeps (u0z h fun _ hb=>hb) (fun _ hb=>hb) _ _ hr
theorem u5b {w w':World} {base:Nat} (h:Below base w w') {v:Value} {l:List Ex} (hs:SlE w (fun g=>g<base) v l):SlE w' (fun g=>g<base) v l:=hs.keeps (u0z h fun _ hb=>hb) (fun _ hb=>hb)
theorem Wf.bel {bw base:Nat} {u v:Value} {a b:World} {L:List Tok} (h:Wf bw u a b v) (hw:Ws bw base a u L):Below base a b:=h.below hw.lb (fun g hg=>(hw.olt g hg).1) (by have:=hw.lt; have:=hw.lb; omega)
theorem u4c {ts:List (List K)} {k:Nat} {t:List K} (h:ts[k]? = some t):u1h (ts.take (k+1))=u1h (ts.take k)++(if 0<k then sg [44] :: t else t):=by
 cases ts with
 | nil=>simp at h
 | cons a r =>
  cases k with
  | zero=>simp at h; subst h; simp [u1h]
  | succ k =>
   simp at h
   rw [if_pos (by omega)]
   simp only [List.take_succ_cons,u1h]
   rw [List.take_add_one,h]
   simp
theorem commas_le (ts:List (List K)):∀ n k,k+n=ts.length→(u1h (ts.take k)).length≤(u1h ts).length
 | 0,k,h=>by rw [List.take_of_length_le (by omega)]; exact Nat.le_refl _
 | n+1,k,h=>by
  have h1:=commas_le ts n (k+1) (by omega)
  rw [u4c (List.getElem?_eq_getElem (show k<ts.length by omega)),List.length_append] at h1
  omega
theorem commas_room {ts:List (List K)} {k:Nat} {t:List K} (h:ts[k]? = some t):(u1h (ts.take k)).length+(if 0<k then 1 else 0)+t.length≤(u1h ts).length:=by
 have hk:=(List.getElem?_eq_some_iff.1 h).1
 have h1:=commas_le ts (ts.length - (k+1)) (k+1) (by omega)
 rw [u4c h,List.length_append] at h1
 split at h1 <;> split <;> simp_all <;> omega
theorem putList_any {nm:List UInt8→Bool} (kids:List Ex) (hk:∀ a∈kids,WE nm a) (hok:∀ a∈kids,okE nm a=true) (bw base:Nat) (w:World) (v:Value) (L:List Tok) (A:Option Addr) (m c:Nat) (hw:Ws bw base w v L) (hs:SlE w (fun g=>g<base) (.slice A m c) kids)
  (hlen:L.length+(u1h (kids.map (tE dgL))).length+2≤500000) (h6:kids.length≤1000) :
  Calls Tryz.prog 167 #[.pointer (some ⟨bw,0,none⟩),.slice A m c,.func (.func 109) #[.pointer (some ⟨bw,0,none⟩)] #[]] w (Wrote bw base w v L (txs (sg [40] :: (u1h (kids.map (tE dgL))++[sg [41]])))):=by
 have hm:m=kids.length:=by
  rcases hs with ⟨h1,h2⟩ | ⟨x,c',h1,_⟩
  ·injection h1 with _ h1 _; rw [h1,h2]; rfl
  ·injection h1
 subst hm
 have HW:=hid hw
 have HS:=hid hs
 have hlb:=hw.lb
 have hbl:=hw.lt
 have hlL:=hw.len
 clear hw hs
 go_enter Tryz.func167,Tryz.ntmps167
 go_wp2_with fail
 refine (u0y _ v L (HW.out.alloc _) [[40]] w.heap.size 1 rfl (u0h rfl) (by simp; omega)).mono ?_
 rintro e w1 ⟨rfl,v1,hw1,hf1⟩
 have hb1:=(((Wf.refl bw v w).alloc _).trans hf1).bel HW.out
 have hF1:=hid (((Wf.refl bw v w).alloc _).trans hf1)
 have hW1:=hid hw1
 clear hf1 hw1
 go_wp2_with fail
 go_loopw [13] (fun i wr=>∃ (k:Nat) (v':Value),k≤kids.length∧i=.int .i64 k∧Ws bw base wr v' (L++(txs (sg [40] :: u1h ((kids.map (tE dgL)).take k))).map tk)∧Wf bw v w wr v') (fun i _=>kids.length - (intOf i).toNat)
 case atStart=>exact ⟨0,v1,Nat.zero_le _,rfl,by simpa [txs,sg,u1h] using hW1.out,hF1.out⟩
 case round =>
  obtain ⟨k,v',hkk,rfl,hs,hf⟩:=hrel
  have HSr:=hid hs
  have HFr:=hid hf
  have hbr:=hf.bel HW.out
  have hblr:=hs.lt
  have hzr:=hf.size
  by_cases hlt:k<kids.length
  ·obtain ⟨a,ha⟩:∃ a,kids[k]? = some a:=⟨kids[k],List.getElem?_eq_getElem hlt⟩
   obtain ⟨g,o,rfl,_,hPg,hrows⟩:=u4j (u5b hbr HS.out) (by omega)
   obtain ⟨bk,bo,bn,bx,bA,bm,bc,⟨c0,c1,c2,c3,c4⟩,hre⟩:=hrows k a ha
   have hin:(0:Int)≤k∧(k:Int)<kids.length:=⟨by omega,by omega⟩
   have hmem:=List.mem_of_getElem? ha
   have hroom:=hid (commas_room (ts:=kids.map (tE dgL)) (k:=k) (t:=tE dgL a) (by simp [ha]))
   have HA:=hid ha
   have HR:=hid hre
   have HK:=hid (hk a hmem)
   have HOK:=hid (hok a hmem)
   clear hs hf hrows ha hre
   cases k with
   | zero =>
    simp only [Nat.zero_mul,Nat.add_zero] at c0 c1 c2 c3 c4
    go_wp2_with fail
    refine (HK.out.call bw base _ v' (L++(txs (sg [40] :: u1h ((kids.map (tE dgL)).take 0))).map tk) _ _ _ _ _ _ _ (HSr.out.alloc _) (u2c ((Below.refl _ _).alloc (by omega) _) HR.out) HOK.out (by have:=hroom.out; simp [txs] at this ⊢; omega)).mono ?_
    rintro e w2 ⟨rfl,v3,hw3,hf3⟩
    have hF3:=hid ((HFr.out.alloc _).trans hf3)
    have hW3:=hid hw3
    clear hw3 hf3
    go_wp2
    go_roundw
    case rel =>
     refine ⟨1,v3,by omega,by go_num,?_,hF3.out⟩
     have hcs:=u4c (ts:=kids.map (tE dgL)) (k:=0) (t:=tE dgL a) (by simp [HA.out])
     rw [hcs]
     have:=hW3.out
     simpa [txs,sg] using this
    case measure=>simp [intOf]; omega
   | succ k =>
    have h0:(0:Int)<((k+1:Nat):Int):=by omega
    go_wp2_with fail
    refine (u0y _ v' _ ((HSr.out.alloc _).alloc _) [[44]] (wr.heap.size+1) 1 rfl (u0h (by rw [u0c])) (by have:=hroom.out; simp [txs] at this ⊢; omega)).mono ?_
    rintro e w2 ⟨rfl,v2,hw2,hf2⟩
    have hz2:=hf2.size
    (try simp only [u0c] at hz2)
    obtain ⟨_,_,_,l7⟩:=u2f (q:=wr.heap.size) hf2 tLOC (by omega) (fun e=>by have:=(HSr.out.olt _ e).2; omega)
    have hF2:=hid ((((HFr.out.alloc _).alloc _)).trans hf2)
    have hB2:=hid ((((Wf.refl bw v' wr).alloc _).alloc _ |>.trans hf2).bel HSr.out)
    have hW2:=hid hw2
    clear hw2 hf2
    go_wp2_with fail
    refine (HK.out.call bw base _ v2 _ _ _ _ _ _ _ _ (hW2.out) (u2c (hB2.out) HR.out) HOK.out (by have:=hroom.out; simp [txs] at this ⊢; omega)).mono ?_
    rintro e w3 ⟨rfl,v3,hw3,hf3⟩
    have hF3:=hid (hF2.out.trans hf3)
    have hW3:=hid hw3
    clear hw3 hf3
    go_wp2
    go_roundw
    case rel =>
     refine ⟨k+1+1,v3,by omega,by go_num,?_,hF3.out⟩
     have hcs:=u4c (ts:=kids.map (tE dgL)) (k:=k+1) (t:=tE dgL a) (by simp [HA.out])
     rw [hcs]
     have:=hW3.out
     simpa [txs,sg] using this
    case measure=>simp [intOf]; omega
  ·go_wp2_with fail
   refine (u0y _ v' _ (HSr.out.alloc _) [[41]] wr.heap.size 1 rfl (u0h rfl) (by rw [List.take_of_length_le (by simp; omega)]; simp [txs]; omega)).mono ?_
   rintro e w2 ⟨rfl,v2,hw2,hf2⟩
   have hF2:=hid ((HFr.out.alloc _).trans hf2)
   have hW2:=hid hw2
   clear hw2 hf2
   go_wp2
   go_end0
   refine ⟨rfl,v2,?_,hF2.out⟩
   have:=hW2.out
   rw [List.take_of_length_le (by simp; omega)] at this
   simpa [txs,sg] using this
theorem Ws.below {bw base:Nat} {w w':World} {v:Value} {L:List Tok} (h:Ws bw base w v L) (k:Below w.heap.size w w'):Ws bw base w' v L :=
 ⟨(k.block _ h.lt).trans h.hb,h.own.below k,h.g.below (B:=base) (k.mono (by have:=h.lt; have:=h.lb; omega)) h.b10,h.b10,h.lb,h.len,by
  have h1:=h.lt
  have h2:=h.lb
  have h3:=h.b10
  obtain ⟨ty,fr,hp⟩:=h.pw
  exact ⟨ty,fr,(k.block 7 (by omega)).trans hp⟩⟩
theorem Wf.ofBelow {bw:Nat} {v:Value} {w w':World} (k:Below w.heap.size w w'):Wf bw v w w' v:=⟨k.os,k.tape,k.output,k.size,fun g hg _ _=>k.block g hg,fun _ h=>.inl h⟩
theorem okE_kids {nm:List UInt8→Bool}:∀ {l:List Ex},okEs nm l=true→∀ a∈l,okE nm a=true
 | [],_,a,h=>by cases h
 | b :: l,ho,a,h=>by
  rw [okEs,Bool.and_eq_true] at ho
  rcases List.mem_cons.1 h with rfl | h
  ·exact ho.1
  ·exact okE_kids ho.2 a h
theorem okE_mk {nm:List UInt8→Bool} {kind op num:Int} {name:List UInt8} {kids:List Ex} (h:okE nm (.mk kind op num name kids)=true):u3y nm kind op num name kids.length=true∧∀ a∈kids,okE nm a=true:=by
 rw [okE,Bool.and_eq_true] at h
 exact ⟨h.1,okE_kids h.2⟩
theorem two_len {α:Type} {l:List α} (h:l.length=2):∃ a b,l=[a,b]:=by
 match l,h with
 | [a,b],_=>exact ⟨a,b,rfl⟩
theorem one_len {α:Type} {l:List α} (h:l.length=1):∃ a,l=[a]:=by
 match l,h with
 | [a],_=>exact ⟨a,rfl⟩
theorem write_int {nm:List UInt8→Bool} (hF:FmtU) (num:Int) (hn:(0≤num∧num<2147483648)∨num = -2147483648):WE nm (.mk 0 0 num [] []):=by
 intro bw base w v L A m c hw hs hok hlen
 have HW:=hid hw
 have HS:=hid hs
 have hlb:=hw.lb
 have hb10:=hw.b10
 have hbl:=hw.lt
 have hLl:=hw.len
 have HF:=hid hF
 clear hF hw hs hok
 rcases hn with hn | rfl
 ·have hc:(num % 4294967296)=(num.natAbs:Int):=by omega
  obtain ⟨u,hu⟩:∃ u,num.natAbs=u:=⟨_,rfl⟩
  have hnu:num=(u:Int):=by omega
  subst hnu
  have hu2:u<2147483648:=by omega
  clear hc hu hn
  go_enter Tryz.func109,Tryz.ntmps109
  go_wp2_with fail
  refine (HF.out u _ (by omega) (HW.out.alloc _).pw).mono ?_
  rintro e w1 ⟨rfl,hb1⟩
  have hz1:=hb1.size
  (try simp only [u0c] at hz1)
  have hW1:=hid ((HW.out.alloc _).below hb1)
  have hF1:=hid (((Wf.refl bw v w).alloc _).trans (Wf.ofBelow (v:=v) hb1))
  clear hb1
  go_wp2_with fail
  refine (u0y _ v _ (hW1.out.alloc _) [digL u] w1.heap.size 1 rfl (u0h rfl) (by simp [tE,u2b] at hlen ⊢; omega)).mono ?_
  rintro e w2 ⟨rfl,v2,hw2,hf2⟩
  have hF2:=hid ((hF1.out.alloc _).trans hf2)
  clear hf2
  go_wp2
  go_end0
  exact ⟨rfl,v2,by simpa [txs,tE,u2b,dgL] using hw2,hF2.out⟩
 ·go_enter Tryz.func109,Tryz.ntmps109
  go_wp2_with fail
  refine (HF.out 2147483648 _ (by omega) (HW.out.alloc _).pw).mono ?_
  rintro e w1 ⟨rfl,hb1⟩
  have hz1:=hb1.size
  (try simp only [u0c] at hz1)
  have hW1:=hid ((HW.out.alloc _).below hb1)
  have hF1:=hid (((Wf.refl bw v w).alloc _).trans (Wf.ofBelow (v:=v) hb1))
  clear hb1
  go_wp2_with fail
  refine (u0y _ v _ (hW1.out.alloc _) [digL 2147483648] w1.heap.size 1 rfl (u0h rfl) (by simp [tE,u2b] at hlen ⊢; omega)).mono ?_
  rintro e w2 ⟨rfl,v2,hw2,hf2⟩
  have hF2:=hid ((hF1.out.alloc _).trans hf2)
  clear hf2
  go_wp2
  go_end0
  exact ⟨rfl,v2,by simpa [txs,tE,u2b,dgL] using hw2,hF2.out⟩
theorem write_name {nm:List UInt8→Bool} (name:List UInt8):WE nm (.mk 1 0 0 name []):=by
 intro bw base w v L A m c hw hs hok hlen
 have HW:=hid hw
 have HS:=hid hs
 have hlb:=hw.lb
 have hb10:=hw.b10
 have hbl:=hw.lt
 have hLl:=hw.len
 clear hw hs hok
 go_enter Tryz.func109,Tryz.ntmps109
 go_wp2_with fail
 refine (u0y _ v _ ((HW.out.alloc _).alloc _) [name] (w.heap.size+1) 1 rfl (u0h (by rw [u0c])) (by simp [tE,tEs,u2b] at hlen ⊢; omega)).mono ?_
 rintro e w1 ⟨rfl,v1,hw1,hf1⟩
 have hF1:=hid (((Wf.refl bw v w).alloc _).alloc _ |>.trans hf1)
 clear hf1
 go_wp2
 go_end0
 exact ⟨rfl,v1,by simpa [txs,tE,tEs,u2b] using hw1,hF1.out⟩
theorem write_sp {nm:List UInt8→Bool} (op:Int) (hop:0≤op∧op<4):WE nm (.mk 2 op 0 [] []):=by
 intro bw base w v L A m c hw hs hok hlen
 have HW:=hid hw
 have HS:=hid hs
 have hlb:=hw.lb
 have hb10:=hw.b10
 have hbl:=hw.lt
 have hLl:=hw.len
 obtain ⟨ty,fr,hS⟩:=hw.g.spec
 have hg0:0<w.heap.size:=by omega
 have hop4:op=0∨op=1∨op=2∨op=3:=by omega
 have p0:w.cell? ⟨0,0,none⟩=some (.string (bs [116,105,100])):=(cell_of_row _ _ 0 _ _ _ hS).trans rfl
 have p1:w.cell? ⟨0,1,none⟩=some (.string (bs [98,105,100])):=(cell_of_row _ _ 1 _ _ _ hS).trans rfl
 have p2:w.cell? ⟨0,2,none⟩=some (.string (bs [100,105,109])):=(cell_of_row _ _ 2 _ _ _ hS).trans rfl
 have p3:w.cell? ⟨0,3,none⟩=some (.string (bs [103,114,105,100])):=(cell_of_row _ _ 3 _ _ _ hS).trans rfl
 clear hS hw hs hok hop
 rcases hop4 with rfl | rfl | rfl | rfl
 ·go_enter Tryz.func109,Tryz.ntmps109
  go_wp2_with fail
  refine (u0y _ v _ ((HW.out.alloc _).alloc _) [[116,105,100]] (w.heap.size+1) 1 rfl (u0h (by rw [u0c])) (by simp [tE,tEs,u2b] at hlen ⊢; omega)).mono ?_
  rintro e w1 ⟨rfl,v1,hw1,hf1⟩
  have hF1:=hid (((Wf.refl bw v w).alloc _).alloc _ |>.trans hf1)
  clear hf1
  go_wp2
  go_end0
  exact ⟨rfl,v1,by simpa [txs,tE,tEs,u2b,sg,spText] using hw1,hF1.out⟩
 ·go_enter Tryz.func109,Tryz.ntmps109
  go_wp2_with fail
  refine (u0y _ v _ ((HW.out.alloc _).alloc _) [[98,105,100]] (w.heap.size+1) 1 rfl (u0h (by rw [u0c])) (by simp [tE,tEs,u2b] at hlen ⊢; omega)).mono ?_
  rintro e w1 ⟨rfl,v1,hw1,hf1⟩
  have hF1:=hid (((Wf.refl bw v w).alloc _).alloc _ |>.trans hf1)
  clear hf1
  go_wp2
  go_end0
  exact ⟨rfl,v1,by simpa [txs,tE,tEs,u2b,sg,spText] using hw1,hF1.out⟩
 ·go_enter Tryz.func109,Tryz.ntmps109
  go_wp2_with fail
  refine (u0y _ v _ ((HW.out.alloc _).alloc _) [[100,105,109]] (w.heap.size+1) 1 rfl (u0h (by rw [u0c])) (by simp [tE,tEs,u2b] at hlen ⊢; omega)).mono ?_
  rintro e w1 ⟨rfl,v1,hw1,hf1⟩
  have hF1:=hid (((Wf.refl bw v w).alloc _).alloc _ |>.trans hf1)
  clear hf1
  go_wp2
  go_end0
  exact ⟨rfl,v1,by simpa [txs,tE,tEs,u2b,sg,spText] using hw1,hF1.out⟩
 ·go_enter Tryz.func109,Tryz.ntmps109
  go_wp2_with fail
  refine (u0y _ v _ ((HW.out.alloc _).alloc _) [[103,114,105,100]] (w.heap.size+1) 1 rfl (u0h (by rw [u0c])) (by simp [tE,tEs,u2b] at hlen ⊢; omega)).mono ?_
  rintro e w1 ⟨rfl,v1,hw1,hf1⟩
  have hF1:=hid (((Wf.refl bw v w).alloc _).alloc _ |>.trans hf1)
  clear hf1
  go_wp2
  go_end0
  exact ⟨rfl,v1,by simpa [txs,tE,tEs,u2b,sg,spText] using hw1,hF1.out⟩
theorem write_un {nm:List UInt8→Bool} (op:Int) (hop:0≤op∧op<3) (a:Ex) (ih:WE nm a):WE nm (.mk 3 op 0 [] [a]):=by
 intro bw base w v L A m c hw hs hok hlen
 have HW:=hid hw
 have HS:=hid hs
 have hlb:=hw.lb
 have hb10:=hw.b10
 have hbl:=hw.lt
 have hLl:=hw.len
 obtain ⟨g,o,rfl,rfl,hPg,hrows⟩:=u4j hs (by simp)
 obtain ⟨bk,bo,bn,bx,bA,bm,bc,⟨c0,c1,c2,c3,c4⟩,hre⟩:=hrows 0 a rfl
 simp only [Nat.zero_mul,Nat.add_zero] at c0 c1 c2 c3 c4
 obtain ⟨ty,fr,hS⟩:=hw.g.pref
 have hg0:1<w.heap.size:=by omega
 have hop3:op=0∨op=1∨op=2:=by omega
 have p0:w.cell? ⟨1,0,none⟩=some (.string (bs [45])):=(cell_of_row _ _ 0 _ _ _ hS).trans rfl
 have p1:w.cell? ⟨1,1,none⟩=some (.string (bs [126])):=(cell_of_row _ _ 1 _ _ _ hS).trans rfl
 have p2:w.cell? ⟨1,2,none⟩=some (.string (bs [33])):=(cell_of_row _ _ 2 _ _ _ hS).trans rfl
 have HR:=hid hre
 have HI:=hid ih
 have HOK:=hid ((okE_mk hok).2 a (by simp))
 have hgl:g<w.heap.size:=by omega
 have C0:=hid c0
 have C1:=hid c1
 have C2:=hid c2
 have C3:=hid c3
 have C4:=hid c4
 clear hS hw hs hok hop hre hrows ih
 rcases hop3 with rfl | rfl | rfl
 ·go_enter Tryz.func109,Tryz.ntmps109
  go_wp2_with fail
  refine (u0y _ v _ ((HW.out.alloc _).alloc _) [[45]] (w.heap.size+1) 1 rfl (u0h (by rw [u0c])) (by simp [tE,tEs,u2b] at hlen ⊢; omega)).mono ?_
  rintro e w1 ⟨rfl,v1,hw1,hf1⟩
  have hz1:=hf1.size
  (try simp only [u0c] at hz1)
  obtain ⟨_,_,_,l1⟩:=u2f (q:=w.heap.size) hf1 tLOC (by omega) (fun e=>by have:=(HW.out.olt _ e).2; omega)
  have hF1:=hid (((Wf.refl bw v w).alloc _).alloc _ |>.trans hf1)
  have hB1:=hid (hF1.out.bel HW.out)
  have hW1:=hid hw1
  have d0:=(hB1.out.cell hPg).trans C0.out
  have d1:=(hB1.out.cell (p:=⟨g,o+1,none⟩) hPg).trans C1.out
  have d2:=(hB1.out.cell (p:=⟨g,o+2,none⟩) hPg).trans C2.out
  have d3:=(hB1.out.cell (p:=⟨g,o+3,none⟩) hPg).trans C3.out
  have d4:=(hB1.out.cell (p:=⟨g,o+4,none⟩) hPg).trans C4.out
  clear hf1 hw1
  go_wp2_with fail
  refine (HI.out.call bw base _ v1 _ _ _ _ _ _ _ _ hW1.out (u2c hB1.out HR.out) HOK.out (by simp [tE,tEs,u2b,txs] at hlen ⊢; omega)).mono ?_
  rintro e w2 ⟨rfl,v2,hw2,hf2⟩
  have hF2:=hid (hF1.out.trans hf2)
  clear hf2
  go_wp2
  go_end0
  exact ⟨rfl,v2,by simpa [txs,tE,tEs,u2b,sg,unText] using hw2,hF2.out⟩
 ·go_enter Tryz.func109,Tryz.ntmps109
  go_wp2_with fail
  refine (u0y _ v _ ((HW.out.alloc _).alloc _) [[126]] (w.heap.size+1) 1 rfl (u0h (by rw [u0c])) (by simp [tE,tEs,u2b] at hlen ⊢; omega)).mono ?_
  rintro e w1 ⟨rfl,v1,hw1,hf1⟩
  have hz1:=hf1.size
  (try simp only [u0c] at hz1)
  obtain ⟨_,_,_,l1⟩:=u2f (q:=w.heap.size) hf1 tLOC (by omega) (fun e=>by have:=(HW.out.olt _ e).2; omega)
  have hF1:=hid (((Wf.refl bw v w).alloc _).alloc _ |>.trans hf1)
  have hB1:=hid (hF1.out.bel HW.out)
  have hW1:=hid hw1
  have d0:=(hB1.out.cell hPg).trans C0.out
  have d1:=(hB1.out.cell (p:=⟨g,o+1,none⟩) hPg).trans C1.out
  have d2:=(hB1.out.cell (p:=⟨g,o+2,none⟩) hPg).trans C2.out
  have d3:=(hB1.out.cell (p:=⟨g,o+3,none⟩) hPg).trans C3.out
  have d4:=(hB1.out.cell (p:=⟨g,o+4,none⟩) hPg).trans C4.out
  clear hf1 hw1
  go_wp2_with fail
  refine (HI.out.call bw base _ v1 _ _ _ _ _ _ _ _ hW1.out (u2c hB1.out HR.out) HOK.out (by simp [tE,tEs,u2b,txs] at hlen ⊢; omega)).mono ?_
  rintro e w2 ⟨rfl,v2,hw2,hf2⟩
  have hF2:=hid (hF1.out.trans hf2)
  clear hf2
  go_wp2
  go_end0
  exact ⟨rfl,v2,by simpa [txs,tE,tEs,u2b,sg,unText] using hw2,hF2.out⟩
 ·go_enter Tryz.func109,Tryz.ntmps109
  go_wp2_with fail
  refine (u0y _ v _ ((HW.out.alloc _).alloc _) [[33]] (w.heap.size+1) 1 rfl (u0h (by rw [u0c])) (by simp [tE,tEs,u2b] at hlen ⊢; omega)).mono ?_
  rintro e w1 ⟨rfl,v1,hw1,hf1⟩
  have hz1:=hf1.size
  (try simp only [u0c] at hz1)
  obtain ⟨_,_,_,l1⟩:=u2f (q:=w.heap.size) hf1 tLOC (by omega) (fun e=>by have:=(HW.out.olt _ e).2; omega)
  have hF1:=hid (((Wf.refl bw v w).alloc _).alloc _ |>.trans hf1)
  have hB1:=hid (hF1.out.bel HW.out)
  have hW1:=hid hw1
  have d0:=(hB1.out.cell hPg).trans C0.out
  have d1:=(hB1.out.cell (p:=⟨g,o+1,none⟩) hPg).trans C1.out
  have d2:=(hB1.out.cell (p:=⟨g,o+2,none⟩) hPg).trans C2.out
  have d3:=(hB1.out.cell (p:=⟨g,o+3,none⟩) hPg).trans C3.out
  have d4:=(hB1.out.cell (p:=⟨g,o+4,none⟩) hPg).trans C4.out
  clear hf1 hw1
  go_wp2_with fail
  refine (HI.out.call bw base _ v1 _ _ _ _ _ _ _ _ hW1.out (u2c hB1.out HR.out) HOK.out (by simp [tE,tEs,u2b,txs] at hlen ⊢; omega)).mono ?_
  rintro e w2 ⟨rfl,v2,hw2,hf2⟩
  have hF2:=hid (hF1.out.trans hf2)
  clear hf2
  go_wp2
  go_end0
  exact ⟨rfl,v2,by simpa [txs,tE,tEs,u2b,sg,unText] using hw2,hF2.out⟩
theorem write_load {nm:List UInt8→Bool} (name:List UInt8) (a:Ex) (ih:WE nm a):WE nm (.mk 5 0 0 name [a]):=by
 intro bw base w v L A m c hw hs hok hlen
 have HW:=hid hw
 have HS:=hid hs
 have hlb:=hw.lb
 have hb10:=hw.b10
 have hbl:=hw.lt
 have hLl:=hw.len
 obtain ⟨g,o,rfl,rfl,hPg,hrows⟩:=u4j hs (by simp)
 obtain ⟨bk,bo,bn,bx,bA,bm,bc,⟨c0,c1,c2,c3,c4⟩,hre⟩:=hrows 0 a rfl
 simp only [Nat.zero_mul,Nat.add_zero] at c0 c1 c2 c3 c4
 have HR:=hid hre
 have HI:=hid ih
 have HOK:=hid ((okE_mk hok).2 a (by simp))
 have C0:=hid c0
 have C1:=hid c1
 have C2:=hid c2
 have C3:=hid c3
 have C4:=hid c4
 clear hw hs hok hre hrows ih
 go_enter Tryz.func109,Tryz.ntmps109
 go_wp2_with fail
 refine (u0y _ v _ ((HW.out.alloc _).alloc _) [name,[91]] (w.heap.size+1) 2 rfl (u0h (by rw [u0c])) (by simp [tE,tEs,u2b] at hlen ⊢; omega)).mono ?_
 rintro e w1 ⟨rfl,v1,hw1,hf1⟩
 have hz1:=hf1.size
 (try simp only [u0c] at hz1)
 obtain ⟨_,_,_,l1⟩:=u2f (q:=w.heap.size) hf1 tLOC (by omega) (fun e=>by have:=(HW.out.olt _ e).2; omega)
 have hF1:=hid (((Wf.refl bw v w).alloc _).alloc _ |>.trans hf1)
 have hB1:=hid (hF1.out.bel HW.out)
 have hW1:=hid hw1
 have d0:=(hB1.out.cell hPg).trans C0.out
 have d1:=(hB1.out.cell (p:=⟨g,o+1,none⟩) hPg).trans C1.out
 have d2:=(hB1.out.cell (p:=⟨g,o+2,none⟩) hPg).trans C2.out
 have d3:=(hB1.out.cell (p:=⟨g,o+3,none⟩) hPg).trans C3.out
 have d4:=(hB1.out.cell (p:=⟨g,o+4,none⟩) hPg).trans C4.out
 clear hf1 hw1
 go_wp2_with fail
 refine (HI.out.call bw base _ v1 _ _ _ _ _ _ _ _ hW1.out (u2c hB1.out HR.out) HOK.out (by simp [tE,tEs,u2b,txs] at hlen ⊢; omega)).mono ?_
 rintro e w2 ⟨rfl,v2,hw2,hf2⟩
 have hF2:=hid (hF1.out.trans hf2)
 have hW2:=hid hw2
 clear hf2 hw2
 go_wp2_with fail
 refine (u0y _ v2 _ (hW2.out.alloc _) [[93]] w2.heap.size 1 rfl (u0h rfl) (by simp [tE,tEs,u2b,txs] at hlen ⊢; omega)).mono ?_
 rintro e w3 ⟨rfl,v3,hw3,hf3⟩
 have hF3:=hid ((hF2.out.alloc _).trans hf3)
 clear hf3
 go_wp2
 go_end0
 exact ⟨rfl,v3,by simpa [txs,tE,tEs,u2b,sg] using hw3,hF3.out⟩
theorem write_call {nm:List UInt8→Bool} (name:List UInt8) (kids:List Ex) (ih:∀ a∈kids,WE nm a):WE nm (.mk 6 0 0 name kids):=by
 intro bw base w v L A m c hw hs hok hlen
 have HW:=hid hw
 have HS:=hid hs
 have hlb:=hw.lb
 have hb10:=hw.b10
 have hbl:=hw.lt
 have hLl:=hw.len
 have HI:=hid ih
 have hsh:=(okE_mk hok).1
 have HOK:=hid (okE_mk hok).2
 have h6:kids.length≤1000:=by
  simp [u3y] at hsh; omega
 have hmf:∀ (fn:Go.Fn) (first cap:Array Value) (w:World),(Instr.makeFunc fn first cap).run Tryz.prog w=.ok (.func fn first cap) w:=fun _ _ _ _=>rfl
 clear hw hs hok ih hsh
 go_enter Tryz.func109,Tryz.ntmps109
 go_wp2_with fail
 refine (u0y _ v _ ((HW.out.alloc _).alloc _) [name] (w.heap.size+1) 1 rfl (u0h (by rw [u0c])) (by simp [tE,u2b] at hlen ⊢; omega)).mono ?_
 rintro e w1 ⟨rfl,v1,hw1,hf1⟩
 have hz1:=hf1.size
 (try simp only [u0c] at hz1)
 obtain ⟨_,_,_,l1⟩:=u2f (q:=w.heap.size) hf1 tLOC (by omega) (fun e=>by have:=(HW.out.olt _ e).2; omega)
 have hF1:=hid (((Wf.refl bw v w).alloc _).alloc _ |>.trans hf1)
 have hB1:=hid (hF1.out.bel HW.out)
 have hW1:=hid hw1
 clear hf1 hw1
 go_wp2_with fail
 refine (putList_any kids HI.out HOK.out bw base _ v1 _ A m c hW1.out (u5b hB1.out HS.out) (by rw [← tEs_map]; simp [tE,u2b,txs] at hlen ⊢; omega) h6).mono ?_
 rintro e w2 ⟨rfl,v2,hw2,hf2⟩
 have hF2:=hid (hF1.out.trans hf2)
 clear hf2
 go_wp2
 go_end0
 exact ⟨rfl,v2,by rw [← tEs_map] at hw2; simpa [txs,tE,u2b,sg] using hw2,hF2.out⟩
end Go.Proofs.YtbkhnilbgocpnaaGreatDoor.SynC
