import Derived.WalkSpells
import Derived.WalkLawsBesides
import Derived.Test.YtbkhnilbgocpnaaGreatDoorK0
import Derived.Test.YtbkhnilbgocpnaaGreatDoorK2
import Derived.Test.YtbkhnilbgocpnaaGreatDoorK1
import Derived.Test.YtbkhnilbgocpnaaGreatDoorK4
import Derived.Test.YtbkhnilbgocpnaaGreatDoorK3
set_option linter.unusedVariables false
set_option linter.unusedSimpArgs false
set_option maxRecDepth 100000
set_option maxHeartbeats 2000000
open Go.Lib (hid)
namespace Go.Proofs.YtbkhnilbgocpnaaGreatDoor.SynC
open Go.Proofs.YtbkhnilbgocpnaaGreatDoor.LexC
open Go Go.ChangeShapes Go.WideShapes Go.ChangeAt Go.RowKit Go.Deep
theorem u0c (w:World) (o:Obj):(w.alloc o).heap.size=w.heap.size+1:=by simp
theorem u0i (w:World) (p:Addr) (v:Value):(w.setCell p v).heap.size=w.heap.size:=by simp [World.setCell]
theorem u0p (w:World):w.drew.heap.size=w.heap.size:=rfl
theorem u0r (w:World) (r:Option Nat):w.grownBy w r:=⟨rfl,rfl,rfl,Nat.le_refl _,fun _ _ _=>rfl⟩
theorem u0j {a b c:World} {r:Option Nat} (h:a.grownBy b r) (k:b.grownBy c r):a.grownBy c r :=
 ⟨k.os.trans h.os,k.tape.trans h.tape,k.output.trans h.output,Nat.le_trans h.size k.size,fun i hi hr=>(k.block i (Nat.lt_of_lt_of_le hi h.size) hr).trans (h.block i hi hr)⟩
theorem u0f {w w':World} (h:Below w.heap.size w w') (r:Option Nat):w.grownBy w' r:=⟨h.os,h.tape,h.output,h.size,fun k hk _=>h.block k hk⟩
theorem u0n {a w:World} {r:Option Nat} (h:a.grownBy w r) (o:Obj):a.grownBy (w.alloc o) r:=u0j h (World.grownBy_alloc w o r)
theorem gb_drew {a w:World} {r:Option Nat} (h:a.grownBy w r):a.grownBy w.drew r:=⟨h.os,h.tape,h.output,h.size,h.block⟩
theorem gb_setCell {a w:World} {b:Nat} (h:a.grownBy w (some b)) {p:Addr} (hp:p.block=b∨a.heap.size≤p.block) (u:Value):a.grownBy (w.setCell p u) (some b) :=
 ⟨h.os,h.tape,h.output,by rw [show (w.setCell p u).heap.size=w.heap.size by simp [World.setCell]]; exact h.size,fun k hk hr=>by
  rw [Below.heap_setCell _ _ _ _ (by
   intro e
   rcases hp with hp | hp
   ·exact hr (by rw [e,hp])
   ·omega)]
  exact h.block k hk hr⟩
theorem u1q {a b:World} {r:Option Nat} (h:a.grownBy b none):a.grownBy b r:=⟨h.os,h.tape,h.output,h.size,fun k hk _=>h.block k hk (by simp)⟩
def endT (n:Nat):Tok:=⟨-1,n,[],0⟩
structure Env where
 b:Nat
 base:Nat
 x:Nat
 c:Nat
 L:List Tok
 n:Nat
def key (t:Tok):K:=(t.kind,t.text,t.num)
def Env.ks (E:Env):List K:=E.L.map key
def Env.all (E:Env):List Tok:=E.L++[endT E.n]
def Gv (w:World) (g:Nat) (cs:Array Value):Prop:=∃ ty fr,w.heap[g]? = some (.cells cs ty fr)
def specA:Array Value:=#[.string (bs [116,105,100]),.string (bs [98,105,100]),.string (bs [100,105,109]),.string (bs [103,114,105,100])]
def prefA:Array Value:=#[.string (bs [45]),.string (bs [126]),.string (bs [33])]
structure Inf where
 s:List UInt8
 lv:Int
 op:Int
 turned:Bool
def infL:List Inf:=[⟨[124,124],1,17,false⟩,⟨[38,38],2,16,false⟩,⟨[124],3,6,false⟩,⟨[94],4,7,false⟩,⟨[38],5,5,false⟩,⟨[61,61],6,13,false⟩,⟨[33,61],6,14,false⟩,
 ⟨[60],7,11,false⟩,⟨[60,61],7,12,false⟩,⟨[62],7,11,true⟩,⟨[62,61],7,12,true⟩,⟨[60,58],7,15,false⟩,⟨[60,60],8,8,false⟩,⟨[62,62],8,9,false⟩,⟨[62,62,62],8,10,false⟩,
 ⟨[43],9,0,false⟩,⟨[45],9,1,false⟩,⟨[42],10,2,false⟩,⟨[47],10,3,false⟩,⟨[37],10,4,false⟩]
def infC (o:Inf):List Value:=[.string (bs o.s),.int .i64 o.lv,.int .i64 o.op,.bool o.turned]
def infA:Array Value:=(infL.flatMap infC).toArray
def foldL:List (List UInt8 × Int):=[([97,100,100],0),([109,105,110],18),([109,97,120],19),([97,110,100],5),([111,114],6),([120,111,114],7)]
def foldA:Array Value:=(foldL.flatMap fun f=>[.string (bs f.1),.int .i64 f.2]).toArray
structure Glob (w:World):Prop where
 sg:Sg w
 spec:Gv w 0 specA
 pref:Gv w 1 prefA
 inf:Gv w 3 infA
 fold:Gv w 6 foldA
theorem Gv.keep {w w':World} {g:Nat} {cs:Array Value} {r:Option Nat} (h:Gv w g cs) (k:w.grownBy w' r) (hr:some g≠r):Gv w' g cs:=by
 obtain ⟨ty,fr,h⟩:=h
 exact ⟨ty,fr,(k.block g (Array.getElem?_eq_some_iff.1 h).1 hr).trans h⟩
theorem Glob.keep {w w':World} {b:Nat} (h:Glob w) (k:w.grownBy w' (some b)) (hb:10≤b):Glob w' :=
 ⟨by
  obtain ⟨ty,fr,h1⟩:=h.sg
  exact ⟨ty,fr,(k.block _ (Array.getElem?_eq_some_iff.1 h1).1 (by simp; omega)).trans h1⟩,
  h.spec.keep k (by simp; omega),h.pref.keep k (by simp; omega),h.inf.keep k (by simp; omega),h.fold.keep k (by simp; omega)⟩
def asked:List (List UInt8):=u3h++wordsL
structure Env.Ok (E:Env):Prop where
 b10:10≤E.b
 lt:E.b<E.base
 x:E.x≠E.b
 xlt:E.x<E.base
 len:E.L.length≤4000
 wf:∀ t∈E.L,(t.kind=0∨t.kind=1∨t.kind=2)∧t.text≠[]∧(t.kind≠2→∀ s∈asked,t.text≠s)∧(t.kind≠1→t.num=0)∧(-2147483648≤t.num∧t.num≤2147483647)
structure Ps (E:Env) (w:World) (i:Nat):Prop where
 hb:w.heap[E.b]? = some (.cells #[.slice (some ⟨E.x,0,none⟩) (E.L.length+1) E.c,.int .i64 i] 117 (0,0))
 ht:∀ j u,(u4m E.all)[j]? = some u→w.cell? ⟨E.x,j,none⟩=some u
 hi:i≤E.L.length
 sz:E.base≤w.heap.size
 g:Glob w
theorem Ps.keep {E:Env} (hE:E.Ok) {w w':World} {i:Nat} (h:Ps E w i) (k:w.grownBy w' none):Ps E w' i :=
 ⟨(k.block E.b (Array.getElem?_eq_some_iff.1 h.hb).1 (by simp)).trans h.hb,fun j u hu=>k.cell (h.ht j u hu) (by simp),h.hi,Nat.le_trans h.sz k.size,h.g.keep (b:=E.b) (u1q k) hE.b10⟩
theorem Ps.step {E:Env} (hE:E.Ok) {w:World} {i j:Nat} (h:Ps E w i) (hj:j≤E.L.length):Ps E (w.setCell ⟨E.b,1,none⟩ (.int .i64 j)) j:=by
 have hk:w.grownBy (w.setCell ⟨E.b,1,none⟩ (.int .i64 j)) (some E.b):=gb_setCell (u0r _ _) (.inl rfl) _
 refine ⟨?_,fun k u hu=>hk.cell (h.ht k u hu) (by simp; exact hE.x),hj,Nat.le_trans h.sz hk.size,h.g.keep hk hE.b10⟩
 simp only [World.setCell,Array.getElem?_modify,if_true,h.hb]
 rfl
theorem Ps.step1 {E:Env} (hE:E.Ok) {w:World} {i:Nat} (h:Ps E w i) (hj:i<E.L.length):Ps E (w.setCell ⟨E.b,1,none⟩ (.int .i64 ((i:Int)+1))) (i+1):=by
 have:=h.step hE (j:=i+1) hj
 simpa using this
theorem Ps.c0 {E:Env} {w:World} {i:Nat} (h:Ps E w i):w.cell? ⟨E.b,0,none⟩=some (.slice (some ⟨E.x,0,none⟩) (E.L.length+1) E.c):=by
 rw [cell_of_row _ _ 0 _ _ _ h.hb]; rfl
theorem Ps.c1 {E:Env} {w:World} {i:Nat} (h:Ps E w i):w.cell? ⟨E.b,1,none⟩=some (.int .i64 i):=by
 rw [cell_of_row _ _ 1 _ _ _ h.hb]; rfl
theorem Ps.f1 {E:Env} {w:World} {i:Nat} (h:Ps E w i):w.frozen? ⟨E.b,1,none⟩=false:=by
 simp [World.frozen?,h.hb]
theorem Ps.lt {E:Env} {w:World} {i:Nat} (h:Ps E w i):E.b<w.heap.size:=(Array.getElem?_eq_some_iff.1 h.hb).1
theorem Env.at_ {E:Env} {i:Nat} (hi:i≤E.L.length):∃ t,E.all[i]? = some t:=by
 cases h:E.all[i]? with
 | some t=>exact ⟨t,rfl⟩
 | none=>rw [List.getElem?_eq_none_iff] at h; simp [Env.all] at h; omega
theorem Ps.tok {E:Env} {w:World} {i:Nat} (h:Ps E w i) {t:Tok} (ht:E.all[i]? = some t) :
  w.cell? ⟨E.x,i * 4,none⟩=some (.int .i64 t.kind)∧w.cell? ⟨E.x,i * 4+1,none⟩=some (.int .i64 t.pos)∧w.cell? ⟨E.x,i * 4+2,none⟩=some (.string (bs t.text))∧w.cell? ⟨E.x,i * 4+3,none⟩=some (.int .i32 t.num) :=
 ⟨h.ht _ _ (u5a ht 0 (by omega)),h.ht _ _ (u5a ht 1 (by omega)),h.ht _ _ (u5a ht 2 (by omega)),h.ht _ _ (u5a ht 3 (by omega))⟩
theorem past {w:World} {a:Addr} {v:Value} (h:w.cell? a=some v) (o:Obj):(w.alloc o).cell? a=some v:=(cell_later ((Below.refl _ w).alloc (Nat.le_refl _) o) h)
set_option maxRecDepth 100000 in
set_option maxHeartbeats 1000000 in
theorem u2t {E:Env} (w:World) (i:Nat) (h:Ps E w i) (t:Tok) (ht:E.all[i]? = some t) :
  Calls Tryz.prog 73 #[.pointer (some ⟨E.b,0,none⟩)] w fun e w'=>e=.returned (.agg #[.int .i64 t.kind,.int .i64 t.pos,.string (bs t.text),.int .i32 t.num])∧w.grownBy w' none:=by
 obtain ⟨k0,k1,k2,k3⟩:=h.tok ht
 have c0:=past h.c0
 have c1:=past h.c1
 have k0:=past k0
 have k1:=past k1
 have k2:=past k2
 have k3:=past k3
 have hi:=h.hi
 have hx:(0:Int)≤i∧(i:Int)<E.L.length+1:=⟨by omega,by omega⟩
 clear ht h
 go_enter Tryz.func73,Tryz.ntmps73
 go_wp2
 go_region
 all_goals (try go_wp2)
 all_goals refine bodyPost_ret (v:=.agg #[.int .i64 t.kind,.int .i64 t.pos,.string (bs t.text),.int .i32 t.num]) (by simp [results,Tryz.results73,go_sem]) rfl ⟨rfl,?_⟩
 all_goals exact gb_drew (u0n (u0r _ _) _)
theorem Env.next_ {E:Env} {i:Nat} (hi:i≤E.L.length) :
  (i<E.L.length∧∃ t,E.all[i]? = some t∧t∈E.L∧E.ks.drop i=key t :: E.ks.drop (i+1))∨(i=E.L.length∧E.all[i]? = some (endT E.n)∧E.ks.drop i=[]):=by
 by_cases h:i<E.L.length
 ·refine .inl ⟨h,E.L[i],?_,List.getElem_mem h,?_⟩
  ·unfold Env.all; rw [List.getElem?_append_left h,List.getElem?_eq_getElem h]
  ·unfold Env.ks; rw [List.drop_eq_getElem_cons (by simpa using h)]; simp
 ·have e:i=E.L.length:=by omega
  refine .inr ⟨e,?_,?_⟩
  ·unfold Env.all; rw [e,List.getElem?_append_right (Nat.le_refl _)]; simp
  ·unfold Env.ks; rw [List.drop_eq_nil_of_le (by simp; omega)]
theorem hit_tok {E:Env} (hE:E.Ok) {i:Nat} (hi:i≤E.L.length) {s:List UInt8} (hs:s∈asked) {t:Tok} (ht:E.all[i]? = some t):decide (t.text=s)=hit s (E.ks.drop i):=by
 have hne:([]:List UInt8)∉asked:=by decide
 rcases Env.next_ hi with ⟨h,u,hu,hm,hd⟩ | ⟨h,hu,hd⟩
 ·rw [hu] at ht; cases ht
  rw [hd]
  show _=isS s (key t)
  unfold isS key
  obtain ⟨_,_,hw,_⟩:=hE.wf t hm
  by_cases hk:t.kind=2
  ·rw [Bool.eq_iff_iff]; simp [hk]
  ·have:=hw hk s hs
   rw [Bool.eq_iff_iff]; simp [this]
 ·rw [hu] at ht; cases ht
  rw [hd]
  have:([]:List UInt8)≠s:=fun e=>hne (by rw [e]; exact hs)
  simp [hit,endT,this]
theorem Ps.keepB {E:Env} (hE:E.Ok) {w w':World} {i:Nat} (h:Ps E w i) (k:Below E.base w w'):Ps E w' i:=by
 have hlt:=hE.lt
 have hb:=hE.b10
 refine ⟨(k.block E.b hlt).trans h.hb,fun j u hu=>(k.cell hE.xlt).trans (h.ht j u hu),h.hi,Nat.le_trans h.sz k.size,?_⟩
 have gv:∀ {g cs},g<10→Gv w g cs→Gv w' g cs:=fun hg ⟨ty,fr,h⟩=>⟨ty,fr,(k.block _ (by omega)).trans h⟩
 obtain ⟨⟨ty,fr,h1⟩,h2,h3,h4,h5⟩:=h.g
 exact ⟨⟨ty,fr,(k.block _ (by omega)).trans h1⟩,gv (by omega) h2,gv (by omega) h3,gv (by omega) h4,gv (by omega) h5⟩
theorem fld0:∀ (a b c d:Value) (w:World),(Instr.field 67 (.agg #[a,b,c,d]) 0).run Tryz.prog w=.ok a w:=fun _ _ _ _ _=>by kernel_rfl
theorem fld1:∀ (a b c d:Value) (w:World),(Instr.field 67 (.agg #[a,b,c,d]) 1).run Tryz.prog w=.ok b w:=fun _ _ _ _ _=>by kernel_rfl
theorem fld2:∀ (a b c d:Value) (w:World),(Instr.field 67 (.agg #[a,b,c,d]) 2).run Tryz.prog w=.ok c w:=fun _ _ _ _ _=>by kernel_rfl
theorem fld3:∀ (a b c d:Value) (w:World),(Instr.field 67 (.agg #[a,b,c,d]) 3).run Tryz.prog w=.ok d w:=fun _ _ _ _ _=>by kernel_rfl
theorem beq_bs (a b:List UInt8):((bs a).toList == (bs b).toList)=decide (a=b):=by
 rw [ByteArray.toList_eq,ByteArray.toList_eq,u4d,u4d]; rw [Bool.eq_iff_iff]; simp
set_option maxRecDepth 100000 in
set_option maxHeartbeats 1000000 in
theorem u4w {E:Env} (hE:E.Ok) (w:World) (i:Nat) (h:Ps E w i) (s:List UInt8) (hs:s∈asked) :
  Calls Tryz.prog 75 #[.pointer (some ⟨E.b,0,none⟩),.string (bs s)] w fun e w'=>e=.returned (.bool (hit s (E.ks.drop i)))∧w.grownBy w' none:=by
 obtain ⟨t,ht⟩:=Env.at_ h.hi
 have HH:=hid (hit_tok hE h.hi hs ht)
 have HP:=hid h
 have HT:=hid ht
 clear h ht hs
 have q2:=fld2
 go_enter Tryz.func75,Tryz.ntmps75
 go_wp2_with (go_at_call 73; refine (u2t _ i HP.out t HT.out).mono ?_; rintro e w1 ⟨rfl,hg⟩)
 go_ret
 exact ⟨by rw [← HH.out,← beq_bs]; rfl,hg⟩
theorem hit_lt {E:Env} {i:Nat} {s:List UInt8} (h:hit s (E.ks.drop i)=true):i<E.L.length:=by
 by_cases hi:i<E.L.length
 ·exact hi
 ·unfold Env.ks at h; rw [List.drop_eq_nil_of_le (by simp; omega)] at h; cases h
set_option maxRecDepth 100000 in
set_option maxHeartbeats 1000000 in
theorem u1u {E:Env} (hE:E.Ok) (w:World) (i:Nat) (h:Ps E w i) (s:List UInt8) (hs:s∈asked) :
  Calls Tryz.prog 171 #[.pointer (some ⟨E.b,0,none⟩),.string (bs s)] w fun e w'=>w.grownBy w' (some E.b) ∧
   ((hit s (E.ks.drop i)=true∧e=.returned (.bool true)∧Ps E w' (i+1))∨(hit s (E.ks.drop i)=false∧e=.returned (.bool false)∧Ps E w' i)):=by
 have HP:=hid h
 have HS:=hid hs
 have HI:=h.hi
 clear h hs
 cases hh:hit s (E.ks.drop i)
 ·go_enter Tryz.func171,Tryz.ntmps171
  go_wp2_with (go_at_call 75; refine (u4w hE _ i HP.out s HS.out).mono ?_; rw [hh]; rintro e w1 ⟨rfl,hg⟩)
  go_ret
  exact ⟨u1q hg,.inr ⟨(by first | rfl | trivial | assumption),rfl,HP.out.keep hE hg⟩⟩
 ·have hl:=hit_lt hh
  have hlen:=hE.len
  go_enter Tryz.func171,Tryz.ntmps171
  go_wp2_with (go_at_call 75; refine (u4w hE _ i HP.out s HS.out).mono ?_; rw [hh]; rintro e w1 ⟨rfl,hg⟩; have hp1:=HP.out.keep hE hg; have c1:=hp1.c1; have f1:=hp1.f1; have hp2:=hid hp1; clear hp1)
  go_ret
  exact ⟨gb_setCell (u1q hg) (.inl rfl) _,.inl ⟨(by first | rfl | trivial | assumption),rfl,(by have:=hp2.out.step hE (j:=i+1) (by omega); simpa using this)⟩⟩
def misfit:PanicEntry:={ v:=.iface 9 (.string (bs [97,32,116,111,107,101,110,32,116,104,97,116,32,99,97,110,110,111,116,32,99,111,110,116,105,110,117,101,32,116,104,101,32,116,101,120,116])),recovered:=false }
def Fin {α:Type} (E:Env) (w:World) (R:Res α) (V:World→Value→α→Prop) (e:Ending) (w':World):Prop :=
 w.grownBy w' (some E.b)∧((∃ a j v,R=.ok a (E.ks.drop j)∧Ps E w' j∧e=.returned v∧V w' v a)∨(∃ j,R=.no (E.ks.drop j)∧Ps E w' j∧e=.panicked [misfit]))
theorem u6n {E:Env} {i:Nat} {s:List UInt8} (h:hit s (E.ks.drop i)=true):u3j s (E.ks.drop i)=.ok () (E.ks.drop (i+1)):=by
 have hl:=hit_lt h
 rcases Env.next_ (Nat.le_of_lt hl) with ⟨_,t,_,_,hd⟩ | ⟨e,_,_⟩
 ·rw [hd] at h ⊢
  exact u1i h
 ·omega
theorem needS_no {E:Env} {i:Nat} {s:List UInt8} (hi:i≤E.L.length) (h:hit s (E.ks.drop i)=false):u3j s (E.ks.drop i)=.no (E.ks.drop i):=by
 rcases Env.next_ hi with ⟨_,t,_,_,hd⟩ | ⟨_,_,hd⟩
 ·rw [hd] at h ⊢
  unfold u3j need
  simp only [hit] at h
  simp [h]
 ·rw [hd]; rfl
def VU (_:World) (v:Value) (_:Unit):Prop:=v=.tuple #[]
set_option maxRecDepth 100000 in
set_option maxHeartbeats 1000000 in
theorem u1o {E:Env} (hE:E.Ok) (w:World) (i:Nat) (h:Ps E w i) (s:List UInt8) (hs:s∈asked) :
  Calls Tryz.prog 122 #[.pointer (some ⟨E.b,0,none⟩),.string (bs s)] w (Fin E w (u3j s (E.ks.drop i)) VU):=by
 have HP:=hid h
 have HS:=hid hs
 have HI:=hid h.hi
 clear h hs
 go_enter Tryz.func122,Tryz.ntmps122
 go_wp2_with (go_at_call 171; refine (u1u hE _ i HP.out s HS.out).mono ?_; rintro e w1 ⟨hg,⟨hh,rfl,hp⟩ | ⟨hh,rfl,hp⟩⟩)
 ·go_end0
  exact ⟨hg,.inl ⟨(),i+1,_,u6n hh,hp,rfl,rfl⟩⟩
 ·exact ⟨rfl,hg,.inr ⟨i,needS_no HI.out hh,hp,rfl⟩⟩
theorem u0a {W w1:World} {b q:Nat} {cs:Array Value} {T:TypeId} (hg:W.grownBy w1 (some b)) (hq:W.heap[q]? = some (.cells cs T (0,0))) (hne:q≠b) :
  (∀ j,w1.cell? ⟨q,j,none⟩=cs[j]?)∧(∀ j,w1.frozen? ⟨q,j,none⟩=false)∧q<w1.heap.size∧w1.heap[q]? = some (.cells cs T (0,0)):=by
 have h:=(hg.block q (Array.getElem?_eq_some_iff.1 hq).1 (by simpa using hne)).trans hq
 exact ⟨fun j=>cell_of_row _ _ j _ _ _ h,fun j=>by simp [World.frozen?,h],(Array.getElem?_eq_some_iff.1 h).1,h⟩
theorem u0h {w:World} {o:Obj} {n:Nat} (h:n=w.heap.size):(w.alloc o).heap[n]? = some o:=by subst h; show (w.heap.push o)[w.heap.size]? = _; simp
theorem u0e {w:World} {o:Obj} {n:Nat} {x:Option Obj} (h:n<w.heap.size) (k:w.heap[n]? = x):(w.alloc o).heap[n]? = x:=(Below.heap_alloc _ _ _ h).trans k
theorem u7d {w:World} {p:Addr} {u:Value} {n:Nat} {x:Option Obj} (h:n≠p.block) (k:w.heap[n]? = x):(w.setCell p u).heap[n]? = x:=(Below.heap_setCell _ _ _ _ h).trans k
theorem u1d (w:World) (o:Obj):(w.alloc o).heap[w.heap.size]? = some o:=by show (w.heap.push o)[w.heap.size]? = _; simp
theorem put2 {w:World} {q:Nat} {T:TypeId} {fr:Nat × Nat} {x0 x1:Value} (v0 v1:Value) (h:w.heap[q]? = some (.cells #[x0,x1] T fr)) :
  ((w.setCell ⟨q,0,none⟩ v0).setCell ⟨q,1,none⟩ v1).heap[q]? = some (.cells #[v0,v1] T fr):=by
 simp [World.setCell,Array.getElem?_modify,h]
theorem put3 {w:World} {q:Nat} {T:TypeId} {fr:Nat × Nat} {x0 x1 x2:Value} (v0 v1 v2:Value) (h:w.heap[q]? = some (.cells #[x0,x1,x2] T fr)) :
  (((w.setCell ⟨q,0,none⟩ v0).setCell ⟨q,1,none⟩ v1).setCell ⟨q,2,none⟩ v2).heap[q]? = some (.cells #[v0,v1,v2] T fr):=by
 simp [World.setCell,Array.getElem?_modify,h]
theorem put4 {w:World} {q:Nat} {T:TypeId} {fr:Nat × Nat} {x0 x1 x2 x3:Value} (v0 v1 v2 v3:Value) (h:w.heap[q]? = some (.cells #[x0,x1,x2,x3] T fr)) :
  ((((w.setCell ⟨q,0,none⟩ v0).setCell ⟨q,1,none⟩ v1).setCell ⟨q,2,none⟩ v2).setCell ⟨q,3,none⟩ v3).heap[q]? = some (.cells #[v0,v1,v2,v3] T fr):=by
 simp [World.setCell,Array.getElem?_modify,h]
theorem put5 {w:World} {q:Nat} {T:TypeId} {fr:Nat × Nat} {x0 x1 x2 x3 x4:Value} (v0 v1 v2 v3 v4:Value) (h:w.heap[q]? = some (.cells #[x0,x1,x2,x3,x4] T fr)) :
  (((((w.setCell ⟨q,0,none⟩ v0).setCell ⟨q,1,none⟩ v1).setCell ⟨q,2,none⟩ v2).setCell ⟨q,3,none⟩ v3).setCell ⟨q,4,none⟩ v4).heap[q]? = some (.cells #[v0,v1,v2,v3,v4] T fr):=by
 simp [World.setCell,Array.getElem?_modify,h]
theorem put6 {w:World} {q:Nat} {T:TypeId} {fr:Nat × Nat} {x0 x1 x2 x3 x4 x5:Value} (v0 v1 v2 v3 v4 v5:Value) (h:w.heap[q]? = some (.cells #[x0,x1,x2,x3,x4,x5] T fr)) :
  ((((((w.setCell ⟨q,0,none⟩ v0).setCell ⟨q,1,none⟩ v1).setCell ⟨q,2,none⟩ v2).setCell ⟨q,3,none⟩ v3).setCell ⟨q,4,none⟩ v4).setCell ⟨q,5,none⟩ v5).heap[q]? = some (.cells #[v0,v1,v2,v3,v4,v5] T fr):=by
 simp [World.setCell,Array.getElem?_modify,h]
theorem ret_tok {fn:Func} {R:Ending→World→Prop} {a:Act} {W:World} {q s:Nat} {v0 v1 v2 v3:Value} {fr:Nat × Nat} (hr:fn.results=#[ResultVar.cell s 67]) (hd:a.defers=[])
  (hs:a.tmps.getD s undef=.pointer (some ⟨q,0,none⟩)) (hq:W.heap[q]? = some (.cells #[v0,v1,v2,v3] 67 fr)) (h:R (.returned (.agg #[v0,v1,v2,v3])) W):bodyPost Tryz.prog fn R Exit.ret a W:=by
 have c:∀ j,W.cell? ⟨q,j,none⟩=#[v0,v1,v2,v3][j]?:=fun j=>cell_of_row _ _ j _ _ _ hq
 refine bodyPost_ret (v:=.agg #[v0,v1,v2,v3]) ?_ hd h
 rw [Array.getD_eq_getD_getElem?] at hs
 simp [results,hr,go_sem,hs,c]
theorem u5c {fn:Func} {R:Ending→World→Prop} {a:Act} {W:World} {q s:Nat} {v0 v1 v2 v3 v4:Value} {fr:Nat × Nat} (hr:fn.results=#[ResultVar.cell s 34]) (hd:a.defers=[])
  (hs:a.tmps.getD s undef=.pointer (some ⟨q,0,none⟩)) (hq:W.heap[q]? = some (.cells #[v0,v1,v2,v3,v4] 34 fr)) (h:R (.returned (.agg #[v0,v1,v2,v3,v4])) W):bodyPost Tryz.prog fn R Exit.ret a W:=by
 have c:∀ j,W.cell? ⟨q,j,none⟩=#[v0,v1,v2,v3,v4][j]?:=fun j=>cell_of_row _ _ j _ _ _ hq
 refine bodyPost_ret (v:=.agg #[v0,v1,v2,v3,v4]) ?_ hd h
 rw [Array.getD_eq_getD_getElem?] at hs
 simp [results,hr,go_sem,hs,c]
theorem u4k {fn:Func} {R:Ending→World→Prop} {a:Act} {W:World} {q s:Nat} {v0 v1 v2 v3 v4 v5:Value} {fr:Nat × Nat} (hr:fn.results=#[ResultVar.cell s 136]) (hd:a.defers=[])
  (hs:a.tmps.getD s undef=.pointer (some ⟨q,0,none⟩)) (hq:W.heap[q]? = some (.cells #[v0,v1,v2,v3,v4,v5] 136 fr)) (h:R (.returned (.agg #[v0,v1,v2,v3,v4,v5])) W):bodyPost Tryz.prog fn R Exit.ret a W:=by
 have c:∀ j,W.cell? ⟨q,j,none⟩=#[v0,v1,v2,v3,v4,v5][j]?:=fun j=>cell_of_row _ _ j _ _ _ hq
 refine bodyPost_ret (v:=.agg #[v0,v1,v2,v3,v4,v5]) ?_ hd h
 rw [Array.getD_eq_getD_getElem?] at hs
 simp [results,hr,go_sem,hs,c]
theorem ret_fn {fn:Func} {R:Ending→World→Prop} {a:Act} {W:World} {q s:Nat} {v0 v1 v2:Value} {fr:Nat × Nat} (hr:fn.results=#[ResultVar.cell s 71]) (hd:a.defers=[])
  (hs:a.tmps.getD s undef=.pointer (some ⟨q,0,none⟩)) (hq:W.heap[q]? = some (.cells #[v0,v1,v2] 71 fr)) (h:R (.returned (.agg #[v0,v1,v2])) W):bodyPost Tryz.prog fn R Exit.ret a W:=by
 have c:∀ j,W.cell? ⟨q,j,none⟩=#[v0,v1,v2][j]?:=fun j=>cell_of_row _ _ j _ _ _ hq
 refine bodyPost_ret (v:=.agg #[v0,v1,v2]) ?_ hd h
 rw [Array.getD_eq_getD_getElem?] at hs
 simp [results,hr,go_sem,hs,c]
theorem ret_kn {fn:Func} {R:Ending→World→Prop} {a:Act} {W:World} {q s:Nat} {v0 v1 v2 v3:Value} {fr:Nat × Nat} (hr:fn.results=#[ResultVar.cell s 75]) (hd:a.defers=[])
  (hs:a.tmps.getD s undef=.pointer (some ⟨q,0,none⟩)) (hq:W.heap[q]? = some (.cells #[v0,v1,v2,v3] 75 fr)) (h:R (.returned (.agg #[v0,v1,v2,v3])) W):bodyPost Tryz.prog fn R Exit.ret a W:=by
 have c:∀ j,W.cell? ⟨q,j,none⟩=#[v0,v1,v2,v3][j]?:=fun j=>cell_of_row _ _ j _ _ _ hq
 refine bodyPost_ret (v:=.agg #[v0,v1,v2,v3]) ?_ hd h
 rw [Array.getD_eq_getD_getElem?] at hs
 simp [results,hr,go_sem,hs,c]
theorem ret_pm {fn:Func} {R:Ending→World→Prop} {a:Act} {W:World} {q s:Nat} {v0 v1:Value} {fr:Nat × Nat} (hr:fn.results=#[ResultVar.cell s 92]) (hd:a.defers=[])
  (hs:a.tmps.getD s undef=.pointer (some ⟨q,0,none⟩)) (hq:W.heap[q]? = some (.cells #[v0,v1] 92 fr)) (h:R (.returned (.agg #[v0,v1])) W):bodyPost Tryz.prog fn R Exit.ret a W:=by
 have c:∀ j,W.cell? ⟨q,j,none⟩=#[v0,v1][j]?:=fun j=>cell_of_row _ _ j _ _ _ hq
 refine bodyPost_ret (v:=.agg #[v0,v1]) ?_ hd h
 rw [Array.getD_eq_getD_getElem?] at hs
 simp [results,hr,go_sem,hs,c]
theorem ret_ar {fn:Func} {R:Ending→World→Prop} {a:Act} {W:World} {q s:Nat} {v0 v1:Value} {fr:Nat × Nat} (hr:fn.results=#[ResultVar.cell s 94]) (hd:a.defers=[])
  (hs:a.tmps.getD s undef=.pointer (some ⟨q,0,none⟩)) (hq:W.heap[q]? = some (.cells #[v0,v1] 94 fr)) (h:R (.returned (.agg #[v0,v1])) W):bodyPost Tryz.prog fn R Exit.ret a W:=by
 have c:∀ j,W.cell? ⟨q,j,none⟩=#[v0,v1][j]?:=fun j=>cell_of_row _ _ j _ _ _ hq
 refine bodyPost_ret (v:=.agg #[v0,v1]) ?_ hd h
 rw [Array.getD_eq_getD_getElem?] at hs
 simp [results,hr,go_sem,hs,c]
theorem ret_pg {fn:Func} {R:Ending→World→Prop} {a:Act} {W:World} {q s:Nat} {v0 v1:Value} {fr:Nat × Nat} (hr:fn.results=#[ResultVar.cell s 26]) (hd:a.defers=[])
  (hs:a.tmps.getD s undef=.pointer (some ⟨q,0,none⟩)) (hq:W.heap[q]? = some (.cells #[v0,v1] 26 fr)) (h:R (.returned (.agg #[v0,v1])) W):bodyPost Tryz.prog fn R Exit.ret a W:=by
 have c:∀ j,W.cell? ⟨q,j,none⟩=#[v0,v1][j]?:=fun j=>cell_of_row _ _ j _ _ _ hq
 refine bodyPost_ret (v:=.agg #[v0,v1]) ?_ hd h
 rw [Array.getD_eq_getD_getElem?] at hs
 simp [results,hr,go_sem,hs,c]
theorem take_any {E:Env} (hE:E.Ok) (w:World) (i:Nat) (h:Ps E w i) (k:Int) (t:Tok) (ht:E.all[i]? = some t) :
  Calls Tryz.prog 74 #[.pointer (some ⟨E.b,0,none⟩),.int .i64 k] w fun e w'=>w.grownBy w' (some E.b) ∧
   ((t.kind=k∧i<E.L.length∧e=.returned (.agg #[.int .i64 t.kind,.int .i64 t.pos,.string (bs t.text),.int .i32 t.num])∧Ps E w' (i+1))∨(t.kind=k∧i=E.L.length∧∃ v,e=.returned v)∨(t.kind≠k∧e=.panicked [misfit]∧Ps E w' i)):=by
 have HP:=hid h
 have HT:=hid ht
 have HI:=h.hi
 have hlen:=hE.len
 have hsz:=h.sz
 have hlt:=hE.lt
 clear h ht
 by_cases hk:(t.kind != k)=true
 ·go_enter Tryz.func74,Tryz.ntmps74
  go_wp2_with (go_at_call 73; refine (u2t _ i (HP.out.keepB hE tBEL) t HT.out).mono ?_; rintro e w1 ⟨rfl,hg⟩; have hz:=hg.size; (try simp only [u0c,u0i,u0p] at hz))
  exact ⟨rfl,(u0n (u0j (u0n (u0r _ _) _) (u1q hg)) _),.inr (.inr ⟨by simpa using hk,rfl,(HP.out.keepB hE tBEL).keep hE hg |>.keepB hE tBEL⟩)⟩
 ·go_enter Tryz.func74,Tryz.ntmps74
  go_wp2_with (go_at_call 73; refine (u2t _ i (HP.out.keepB hE tBEL) t HT.out).mono ?_; rintro e w1 ⟨rfl,hg⟩; have hz:=hg.size; (try simp only [u0c,u0i,u0p] at hz); have hgb:=u1q (r:=some E.b) hg; have hp1:=(HP.out.keepB hE tBEL).keep hE hg; have c1:=hp1.c1; have f1:=hp1.f1; have l1:=hp1.lt; have HP1:=hid hp1; clear hp1; obtain ⟨r1,r2,r3,r4⟩:=u0a (b:=E.b) (q:=w.heap.size) (u1q hg) tLOC tSZ)
  have hfin:∀ o,((((((w1.setCell ⟨E.b,1,none⟩ (.int .i64 ((i:Int)+1))).setCell ⟨w.heap.size,0,none⟩ (.int .i64 t.kind)).setCell ⟨w.heap.size,1,none⟩ (.int .i64 t.pos)).setCell ⟨w.heap.size,2,none⟩ (.string (bs t.text))).setCell ⟨w.heap.size,3,none⟩ (.int .i32 t.num)).alloc o).heap[w.heap.size]? = some (.cells #[.int .i64 t.kind,.int .i64 t.pos,.string (bs t.text),.int .i32 t.num] 67 (0,0)):=by
   intro o
   rw [Below.heap_alloc _ _ _ tSZ]
   exact put4 _ _ _ _ (by rw [Below.heap_setCell _ _ _ _ tSZ]; exact r4)
  rcases Env.next_ HI with ⟨hl,_⟩ | ⟨hl,_⟩
  ·refine ret_tok rfl rfl rfl (hfin _) ⟨?_,.inl ⟨by simpa using hk,hl,rfl,(HP1.out.step1 hE hl).keepB hE tBEL⟩⟩
   exact tGB
  ·refine ret_tok rfl rfl rfl (hfin _) ⟨?_,.inr (.inl ⟨by simpa using hk,hl,_,rfl⟩)⟩
   exact tGB
theorem takeK {E:Env} (hE:E.Ok) (w:World) (i:Nat) (h:Ps E w i) (k:Int) (hk1:k≠-1) (t:Tok) (ht:E.all[i]? = some t) :
  Calls Tryz.prog 74 #[.pointer (some ⟨E.b,0,none⟩),.int .i64 k] w fun e w'=>w.grownBy w' (some E.b) ∧
   ((t.kind=k∧i<E.L.length∧e=.returned (.agg #[.int .i64 t.kind,.int .i64 t.pos,.string (bs t.text),.int .i32 t.num])∧Ps E w' (i+1))∨(t.kind≠k∧e=.panicked [misfit]∧Ps E w' i)) :=
 (take_any hE w i h k t ht).mono fun e w' ⟨hg,hr⟩=>⟨hg,by
  rcases hr with hr | ⟨hk,hi,_⟩ | hr
  ·exact .inl hr
  ·exfalso
   rcases Env.next_ h.hi with ⟨h1,_⟩ | ⟨_,h2,_⟩
   ·omega
   ·rw [h2] at ht; cases ht; exact hk1 hk.symm
  ·exact .inr hr⟩
def VN (_:World) (v:Value) (x:List UInt8):Prop:=v=.string (bs x)
theorem name_any {E:Env} (hE:E.Ok) (w:World) (i:Nat) (h:Ps E w i):Calls Tryz.prog 123 #[.pointer (some ⟨E.b,0,none⟩)] w (Fin E w (needN' (E.ks.drop i)) VN):=by
 obtain ⟨t,ht⟩:=Env.at_ h.hi
 have HP:=hid h
 have HT:=hid ht
 have hi:=h.hi
 have q2:=fld2
 clear h ht
 go_enter Tryz.func123,Tryz.ntmps123
 go_wp2_with (go_at_call 74; refine (takeK hE _ i HP.out 0 (by decide) t HT.out).mono ?_; rintro e w1 ⟨hg,⟨hk,hl,rfl,hp⟩ | ⟨hk,rfl,hp⟩⟩)
 ·go_ret
  refine ⟨hg,.inl ⟨t.text,i+1,_,?_,hp,rfl,rfl⟩⟩
  rcases Env.next_ hi with ⟨_,u,hu,_,hd⟩ | ⟨h1,_⟩
  ·have:=HT.out; rw [hu] at this; cases this
   rw [hd]; unfold needN' u3t; simp [key,hk]
  ·omega
 ·refine ⟨rfl,hg,.inr ⟨i,?_,hp,rfl⟩⟩
  rcases Env.next_ hi with ⟨_,u,hu,_,hd⟩ | ⟨_,_,hd⟩
  ·have:=HT.out; rw [hu] at this; cases this
   rw [hd]; unfold needN' u3t; simp [key,hk]
  ·rw [hd]; rfl
def infK (k:Nat):Inf:=infL.getD k ⟨[],0,0,false⟩
theorem run_index_inf (w:World):∀ k,k<20→(Instr.index 202 (.agg infA) (.int .i64 (k:Nat))).run Tryz.prog w=.ok (.agg #[.string (bs (infK k).s),.int .i64 (infK k).lv,.int .i64 (infK k).op,.bool (infK k).turned]) w:=by
 repeat (first | exact u3l | refine u3m ?_ (by as_aux_lemma=>kernel_rfl))
theorem u3g {ops:Array Oper} {rest:List Oper} {o:Oper} {a:Act} {w:World} {Q:Exit→Act→World→Prop} (hg:o.guard=none) (x y:Operand)
  (hop:o.op=Op.index 202 x y) (hx:a.eval x=.agg infA) (k:Nat) (hy:a.eval y=.int .i64 (k:Nat)) (hk:k<20) (g:Inf) (hgk:infK k=g)
  (hK:wpList Tryz.prog ops Q rest (a.put o.dst (.agg #[.string (bs g.s),.int .i64 g.lv,.int .i64 g.op,.bool g.turned])) w):wpList Tryz.prog ops Q (o :: rest) a w:=by
 subst hgk
 refine wpList_plain hg fun K' hK'=>?_
 unfold Oper.wp execOp
 simp only [hop,hx,hy,Sem.run_bind,run_index_inf w k hk,Sem.run_pure,Result.andThen_ok]
 exact hK' _ _ hK
def look (s:List UInt8):Option Inf:=infL.find? fun o=>o.s == s
def NoInf (s:List UInt8) (k:Nat):Prop:=look s=(infL.drop k).find? fun o=>o.s == s
theorem infK_drop (k:Nat) (h:k<20):infL.drop k=infK k :: infL.drop (k+1):=by
 rw [List.drop_eq_getElem_cons (by simpa [infL] using h)]
 unfold infK
 rw [List.getD_eq_getElem?_getD,List.getElem?_eq_getElem (by simpa [infL] using h)]; rfl
theorem NoInf.hit {s:List UInt8} {k:Nat} (h:NoInf s k) (hk:k<20) (hp:(infK k).s=s):look s=some (infK k):=by
 rw [h,infK_drop k hk,List.find?_cons_of_pos (by simp [hp])]
theorem NoInf.next {s:List UInt8} {k:Nat} (h:NoInf s k) (hk:k<20) (hp:(infK k).s≠s):NoInf s (k+1):=by
 unfold NoInf
 rw [h,infK_drop k hk,List.find?_cons_of_neg (by simpa using hp)]
theorem NoInf.last {s:List UInt8} {k:Nat} (h:NoInf s k) (hk:20≤k):look s=none:=by
 rw [h,List.drop_eq_nil_of_le (by simpa [infL] using hk)]; rfl
def infR (o:Option Inf):Value:=match o with
 | some o=>.tuple #[.agg #[.string (bs o.s),.int .i64 o.lv,.int .i64 o.op,.bool o.turned],.bool true]
 | none=>.tuple #[.agg #[.string ⟨#[]⟩,.int .i64 0,.int .i64 0,.bool false],.bool false]
theorem ret_inf {fn:Func} {R:Ending→World→Prop} {a:Act} {W:World} {q s s':Nat} {v0 v1 v2 v3 b:Value} {fr:Nat × Nat} (hr:fn.results=#[ResultVar.cell s 170,.tmp s']) (hd:a.defers=[])
  (hs:a.tmps.getD s undef=.pointer (some ⟨q,0,none⟩)) (hs':a.tmps.getD s' undef=b) (hq:W.heap[q]? = some (Obj.cells #[v0,v1,v2,v3] 170 fr)) (h:R (.returned (.tuple #[.agg #[v0,v1,v2,v3],b])) W):bodyPost Tryz.prog fn R Exit.ret a W:=by
 have c:∀ j,W.cell? ⟨q,j,none⟩=#[v0,v1,v2,v3][j]?:=fun j=>cell_of_row _ _ j _ _ _ hq
 refine bodyPost_ret (v:=.tuple #[.agg #[v0,v1,v2,v3],b]) ?_ hd h
 rw [Array.getD_eq_getD_getElem?] at hs hs'
 simp [results,hr,go_sem,hs,hs',c]
theorem infixOf_any (s:List UInt8) (w:World) (hS:Gv w 3 infA) :
  Calls Tryz.prog 142 #[.string (bs s)] w fun e w'=>e=.returned (infR (look s))∧w.grownBy w' none:=by
 obtain ⟨ty,fr,hS⟩:=hS
 have h0:3<w.heap.size:=(Array.getElem?_eq_some_iff.1 hS).1
 have hS1:=hid hS
 clear hS
 go_enter Tryz.func142,Tryz.ntmps142
 go_wp2_with (refine wpList_load_row rfl 202 _ rfl 3 rfl ty infA fr _ ((((Below.refl _ w).alloc (Nat.le_refl _) _).block 3 h0).trans hS1.out) Tryz.underlying202 rfl (by kernel_rfl) ?_)
 go_loopw [7] (fun i wr=>∃ k:Nat,k≤20∧i=.int .i64 k∧NoInf s k∧Below w.heap.size w wr∧wr.heap[w.heap.size]? = some (Obj.cells #[.string ⟨#[]⟩,.int .i64 0,.int .i64 0,.bool false] 170 (0,0))) (fun i _=>20 - (intOf i).toNat)
 case atStart=>exact ⟨0,Nat.zero_le _,rfl,rfl,tBEL,tLOC⟩
 case round =>
  obtain ⟨k,hk,rfl,hno,hb,hq⟩:=hrel
  have HN:=hid hno
  have HB:=hid hb
  have HQ:=hid hq
  have r1:∀ j,wr.cell? ⟨w.heap.size,j,none⟩=#[.string ⟨#[]⟩,.int .i64 0,.int .i64 0,.bool false][j]?:=fun j=>cell_of_row _ _ j _ _ _ hq
  have r2:∀ j,wr.frozen? ⟨w.heap.size,j,none⟩=false:=fun j=>by simp [World.frozen?,hq]
  have r3:w.heap.size<wr.heap.size:=(Array.getElem?_eq_some_iff.1 hq).1
  clear hno hb hq
  by_cases hlt:k<20
  ·obtain ⟨g,hg⟩:∃ g,infK k=g:=⟨_,rfl⟩
   by_cases hp:g.s=s
   ·have hq:=(beq_bs g.s s).trans (decide_eq_true hp)
    have HG:=hid hg
    have HP:=hid hp
    clear hg hp
    go_wp2_with (refine u3g rfl _ _ rfl rfl k rfl hlt g HG.out ?_)
    refine ret_inf rfl rfl rfl rfl (by rw [Below.heap_alloc _ _ _ tSZ]; exact put4 _ _ _ _ HQ.out) ⟨?_,?_⟩
    ·rw [HN.out.hit hlt (by rw [HG.out,HP.out]),HG.out]; rfl
    ·exact u0f (HB.out.trans tBEL) _
   ·have hq:=(beq_bs g.s s).trans (decide_eq_false hp)
    have HG:=hid hg
    have HP:=hid hp
    clear hg hp
    go_wp2_with (refine u3g rfl _ _ rfl rfl k rfl hlt g HG.out ?_)
    go_roundw
    case rel=>exact ⟨k+1,by omega,by go_num,HN.out.next hlt (by rw [HG.out]; exact HP.out),HB.out.trans tBEL,by rw [Below.heap_alloc _ _ _ tSZ]; exact HQ.out⟩
    case measure=>simp [intOf]; omega
  ·go_wp2
   refine ret_inf rfl rfl rfl rfl (put4 _ _ _ _ HQ.out) ⟨?_,?_⟩
   ·rw [HN.out.last (by omega)]; rfl
   ·exact u0f (HB.out.trans tBEL) _
def TreeP (g:Inf) (A B:Array Value) (w:World) (e:Ending) (w':World):Prop:=∃ nb,w.grownBy w' none∧w.heap.size≤nb ∧
   e=.returned (.agg #[.int .i64 4,.int .i64 g.op,.int .i32 0,.string ⟨#[]⟩,.slice (some ⟨nb,0,none⟩) 2 2]) ∧
   w'.heap[nb]? = some (.cells (if g.turned then B++A else A++B) 34 (0,0))
theorem tree_any (g:Inf) (ak ao an:Int) (ax:List UInt8) (aA:Option Addr) (am ac:Nat) (bk bo bn:Int) (bx:List UInt8) (bA:Option Addr) (bm bc:Nat) (w:World) :
  Calls Tryz.prog 143 #[.agg #[.string (bs g.s),.int .i64 g.lv,.int .i64 g.op,.bool g.turned],.agg #[.int .i64 ak,.int .i64 ao,.int .i32 an,.string (bs ax),.slice aA am ac],.agg #[.int .i64 bk,.int .i64 bo,.int .i32 bn,.string (bs bx),.slice bA bm bc]] w (TreeP g #[.int .i64 ak,.int .i64 ao,.int .i32 an,.string (bs ax),.slice aA am ac] #[.int .i64 bk,.int .i64 bo,.int .i32 bn,.string (bs bx),.slice bA bm bc] w):=by
 obtain ⟨s,lv,op,tu⟩:=g
 cases tu
 ·go_enter Tryz.func143,Tryz.ntmps143
  go_wp2
  refine u5c rfl rfl rfl tLOC ⟨w.heap.size+1+1+1+1,tGB,by omega,rfl,by show _=some (Obj.cells #[.int .i64 ak,.int .i64 ao,.int .i32 an,.string (bs ax),.slice aA am ac,.int .i64 bk,.int .i64 bo,.int .i32 bn,.string (bs bx),.slice bA bm bc] 34 (0,0)); exact tLOC⟩
 ·go_enter Tryz.func143,Tryz.ntmps143
  go_wp2
  refine u5c rfl rfl rfl tLOC ⟨w.heap.size+1+1+1+1,tGB,by omega,rfl,by show _=some (Obj.cells #[.int .i64 bk,.int .i64 bo,.int .i32 bn,.string (bs bx),.slice bA bm bc,.int .i64 ak,.int .i64 ao,.int .i32 an,.string (bs ax),.slice aA am ac] 34 (0,0)); exact tLOC⟩
def Kp (h:Nat) (w w':World):Prop:=u6u (fun g=>h≤g) w w'
theorem kp_refl (h:Nat) (w:World):Kp h w w:=fun _ _ _ hu=>hu
theorem kp_alloc {h:Nat} {u w:World} (k:Kp h u w) (o:Obj):Kp h u (w.alloc o):=fun p x hp hx=>past (k p x hp hx) o
theorem kp_set {h:Nat} {u w:World} {p:Addr} (k:Kp h u w) (hp:p.block<h) (x:Value):Kp h u (w.setCell p x):=fun q y hq hy=>by
 have e:(w.setCell p x).heap[q.block]? = w.heap[q.block]?:=Below.heap_setCell _ _ _ _ (by have:h≤q.block:=hq; omega)
 exact (World.cell?_of_block e).trans (k q y hq hy)
theorem kp_call {h:Nat} {u w w':World} {b:Nat} (k:Kp h u w) (hg:w.grownBy w' (some b)) (hb:b<h):Kp h u w':=fun q y hq hy =>
 hg.cell (k q y hq hy) (by have:h≤q.block:=hq; simp; omega)
def RxV (h:Nat) (w:World) (v:Value) (a:Ex):Prop:=∃ ak ao an ax aA am ac,v=.agg #[.int .i64 ak,.int .i64 ao,.int .i32 an,.string (bs ax),.slice aA am ac]∧RE w (fun g=>h≤g∧g<w.heap.size) [.int .i64 ak,.int .i64 ao,.int .i32 an,.string (bs ax),.slice aA am ac] a
theorem u3z {h h':Nat} {w w':World} {cs:List Value} {a:Ex} (ha:RE w (fun g=>h≤g∧g<w.heap.size) cs a) (k:Kp h w w') (hh:h'≤h) (hz:w.heap.size≤w'.heap.size) :
  RE w' (fun g=>h'≤g∧g<w'.heap.size) cs a :=
 RE.keeps (fun p u hp hu=>k p u hp.1 hu) (fun _ hb=>⟨Nat.le_trans hh hb.1,Nat.lt_of_lt_of_le hb.2 hz⟩) a cs ha
def LevC (E:Env) (i:Nat):Prop:=∀ (n:Nat) (w:World),1≤n→n≤11→Ps E w i→Calls Tryz.prog 91 #[.pointer (some ⟨E.b,0,none⟩),.int .i64 n] w (Fin E w (PE (.ex n) (E.ks.drop i)) (RxV w.heap.size))
def UnC (E:Env) (i:Nat):Prop:=∀ (w:World),Ps E w i→Calls Tryz.prog 141 #[.pointer (some ⟨E.b,0,none⟩)] w (Fin E w (PE .un (E.ks.drop i)) (RxV w.heap.size))
theorem expr_any {E:Env} (hE:E.Ok) (w:World) (i:Nat) (hL:LevC E i) (h:Ps E w i) :
  Calls Tryz.prog 47 #[.pointer (some ⟨E.b,0,none⟩)] w (Fin E w (PE (.ex 1) (E.ks.drop i)) (RxV w.heap.size)):=by
 have HP:=hid h
 have HL:=hid hL
 have hsz:=h.sz
 have hlt:=hE.lt
 clear h hL
 go_enter Tryz.func47,Tryz.ntmps47
 go_wp2_with (go_at_call 91; refine (HL.out 1 _ (by decide) (by decide) (HP.out.keepB hE tBEL)).mono ?_; rintro e w1 ⟨hg,⟨a,j,v,hR,hp,rfl,⟨ak,ao,an,ax,aA,am,ac,rfl,ha⟩⟩ | ⟨j,hR,hp,rfl⟩⟩; all_goals (have HR:=hid hR; clear hR; have hz:=hg.size; (try simp only [u0c,u0i,u0p] at hz); obtain ⟨r1,r2,r3,r4⟩:=u0a (q:=w.heap.size) hg tLOC tSZ))
 ·refine u5c rfl rfl rfl (put5 _ _ _ _ _ r4) ⟨tGB,.inl ⟨a,j,_,HR.out,hp.keepB hE tBEL,rfl,⟨ak,ao,an,ax,aA,am,ac,rfl,u3z ha tKP tSZ tSZ⟩⟩⟩
 ·exact ⟨rfl,tGB,.inr ⟨j,HR.out,hp,rfl⟩⟩
theorem adv_of {E:Env} {i j:Nat} (hj:j≤E.L.length) (h:(E.ks.drop j).length<(E.ks.drop i).length):i<j:=by
 simp [Env.ks] at h; omega
theorem u6h {E:Env} {i j:Nat} {s:List UInt8} {u:Unit} (hj:j≤E.L.length) (h:u3j s (E.ks.drop i)=.ok u (E.ks.drop j)):i<j:=by
 refine adv_of hj ?_
 obtain ⟨t,r,e,_,h⟩:=u1b h
 cases h
 rw [e]; simp
theorem adv_E {E:Env} {i j n:Nat} {a:Ex} (hj:j≤E.L.length) (h:PE (.ex n) (E.ks.drop i)=.ok a (E.ks.drop j)):i<j:=by
 have:=PE_len _ _ _ _ h
 simp only [dl] at this
 exact adv_of hj (by omega)
theorem adv_U {E:Env} {i j:Nat} {a:Ex} (hj:j≤E.L.length) (h:PE .un (E.ks.drop i)=.ok a (E.ks.drop j)):i<j:=by
 have:=PE_len _ _ _ _ h
 simp only [dl] at this
 exact adv_of hj (by omega)
theorem adv_N {E:Env} {i j:Nat} {x:List UInt8} (hj:j≤E.L.length) (h:needN' (E.ks.drop i)=.ok x (E.ks.drop j)):i<j:=by
 refine adv_of hj ?_
 cases e:E.ks.drop i with
 | nil=>rw [e] at h; cases h
 | cons t r =>
  rw [e] at h
  unfold needN' u3t at h
  simp only at h
  split at h
  ·cases h; simp
  ·cases h
theorem rx_mk {h:Nat} {w:World} {kind op num:Int} {name:List UInt8} {kids:List Ex} {A:Option Addr} {m c:Nat} (hk:SlE w (fun g=>h≤g∧g<w.heap.size) (.slice A m c) kids) :
  RxV h w (.agg #[.int .i64 kind,.int .i64 op,.int .i32 num,.string (bs name),.slice A m c]) (.mk kind op num name kids) :=
 ⟨kind,op,num,name,A,m,c,rfl,by rw [RE_eq]; exact ⟨_,rfl,hk⟩⟩
theorem u7l {h:Nat} {w:World}:SlE w (fun g=>h≤g∧g<w.heap.size) (.slice none 0 0) []:=.inl ⟨rfl,rfl⟩
theorem at_row {w:World} {nb:Nat} {cs:Array Value} {T:TypeId} {fr:Nat × Nat} (hq:w.heap[nb]? = some (.cells cs T fr)) (k:Nat) (l:List Value) (hl:∀ j u,l[j]? = some u→cs[k+j]? = some u):At w ⟨nb,k,none⟩ l:=by
 intro j u hu
 have e:(⟨nb,k,none⟩:Addr).add j=⟨nb,k+j,none⟩:=by unfold Addr.add; split <;> simp_all
 rw [e,cell_of_row _ _ _ _ _ _ hq]
 exact hl j u hu
theorem sl_one {h:Nat} {w:World} {nb:Nat} {fr:Nat × Nat} (ak ao an:Int) (ax:List UInt8) (aA:Option Addr) (am ac:Nat) {a:Ex} (hq:w.heap[nb]? = some (.cells #[.int .i64 ak,.int .i64 ao,.int .i32 an,.string (bs ax),.slice aA am ac] 34 fr)) (hn:h≤nb) (ha:RE w (fun g=>h≤g∧g<w.heap.size) [.int .i64 ak,.int .i64 ao,.int .i32 an,.string (bs ax),.slice aA am ac] a) :
  SlE w (fun g=>h≤g∧g<w.heap.size) (.slice (some ⟨nb,0,none⟩) 1 1) [a]:=by
 refine .inr ⟨_,_,rfl,fun _=>⟨hn,(Array.getElem?_eq_some_iff.1 hq).1⟩,?_⟩
 rw [REs,REs]
 exact ⟨⟨_,at_row hq 0 _ (fun j u hu=>by rw [Nat.zero_add]; simpa using hu),ha⟩,trivial⟩
theorem sl_two {h:Nat} {w:World} {nb:Nat} {fr:Nat × Nat} (ak ao an:Int) (ax:List UInt8) (aA:Option Addr) (am ac:Nat) (bk bo bn:Int) (bx:List UInt8) (bA:Option Addr) (bm bc:Nat) {a b:Ex} (hq:w.heap[nb]? = some (.cells #[.int .i64 ak,.int .i64 ao,.int .i32 an,.string (bs ax),.slice aA am ac,.int .i64 bk,.int .i64 bo,.int .i32 bn,.string (bs bx),.slice bA bm bc] 34 fr)) (hn:h≤nb) (ha:RE w (fun g=>h≤g∧g<w.heap.size) [.int .i64 ak,.int .i64 ao,.int .i32 an,.string (bs ax),.slice aA am ac] a)
  (hb:RE w (fun g=>h≤g∧g<w.heap.size) [.int .i64 bk,.int .i64 bo,.int .i32 bn,.string (bs bx),.slice bA bm bc] b):SlE w (fun g=>h≤g∧g<w.heap.size) (.slice (some ⟨nb,0,none⟩) 2 2) [a,b]:=by
 refine .inr ⟨_,_,rfl,fun _=>⟨hn,(Array.getElem?_eq_some_iff.1 hq).1⟩,?_⟩
 rw [REs,REs,REs]
 have five:∀ {j:Nat} {u:Value} {v0 v1 v2 v3 v4:Value},[v0,v1,v2,v3,v4][j]? = some u→j=0∨j=1∨j=2∨j=3∨j=4:=by
  intro j u v0 v1 v2 v3 v4 h
  have:=(List.getElem?_eq_some_iff.1 h).1
  simp at this; omega
 have e:(⟨nb,0,none⟩:Addr).add 5=⟨nb,5,none⟩:=by unfold Addr.add; split <;> simp_all
 refine ⟨⟨_,at_row hq 0 _ (fun j u hu=>?_),ha⟩,⟨_,?_,hb⟩,trivial⟩
 ·rcases five hu with rfl | rfl | rfl | rfl | rfl <;> simpa using hu
 ·rw [e]
  refine at_row hq 5 _ (fun j u hu=>?_)
  rcases five hu with rfl | rfl | rfl | rfl | rfl <;> simpa using hu
theorem pair_any {E:Env} (hE:E.Ok) (op:Int) (w:World) (i:Nat) (hL:∀ j,i<j→LevC E j) (hp0:Ps E w i) :
  Calls Tryz.prog 199 #[.pointer (some ⟨E.b,0,none⟩),.int .i64 op] w (Fin E w (pairR op (E.ks.drop i)) (RxV w.heap.size)):=by
 have hsz:=hp0.sz
 have hlt:=hE.lt
 have hi0:=hp0.hi
 have HL:=hid hL
 clear hL
 go_enter Tryz.func199,Tryz.ntmps199
 go_wp2_with fail
 refine (u1o hE _ _ (hp0.keepB hE tBEL) [40] (by decide)).mono ?_
 rintro e w1 ⟨hg1,⟨a1,j1,v1,hR,hp1,rfl,rfl⟩ | ⟨j1,hR,hp1,rfl⟩⟩
 all_goals (have HR1:=hid hR; clear hR; have hz:=hg1.size; (try simp only [u0c,u0i,u0p] at hz))
 all_goals (have hl:=u0a (q:=w.heap.size) hg1 tLOC tSZ; obtain ⟨_,_,_,_⟩:=hl)
 rotate_left 1
 ·go_wp2
  exact ⟨rfl,tGB,.inr ⟨j1,by simp only [pairR,u0s,u0w,HR1.out,Res.bind],hp1,rfl⟩⟩
 have hj1:=u6h hp1.hi HR1.out
 go_wp2_with fail
 refine (expr_any hE _ _ (HL.out j1 (by omega)) (hp1.keepB hE tBEL)).mono ?_
 rintro e w2 ⟨hg2,⟨a2,j2,v2,hR,hp2,rfl,⟨ak,ao,an,ax,aA,am,ac,rfl,ha2⟩⟩ | ⟨j2,hR,hp2,rfl⟩⟩
 all_goals (have HR2:=hid hR; clear hR; have hz:=hg2.size; (try simp only [u0c,u0i,u0p] at hz))
 all_goals (have hl:=u0a (q:=w.heap.size) hg2 tLOC tSZ; obtain ⟨_,_,_,_⟩:=hl)
 rotate_left 1
 ·go_wp2
  exact ⟨rfl,tGB,.inr ⟨j2,by simp only [pairR,u0s,u0w,HR1.out,HR2.out,Res.bind],hp2,rfl⟩⟩
 have hj2:=adv_E hp2.hi HR2.out
 go_wp2_with fail
 refine (u1o hE _ _ (hp2.keepB hE tBEL) [44] (by decide)).mono ?_
 rintro e w3 ⟨hg3,⟨a3,j3,v3,hR,hp3,rfl,rfl⟩ | ⟨j3,hR,hp3,rfl⟩⟩
 all_goals (have HR3:=hid hR; clear hR; have hz:=hg3.size; (try simp only [u0c,u0i,u0p] at hz))
 all_goals (have hl:=u0a (q:=w.heap.size) hg3 tLOC tSZ; obtain ⟨_,_,_,_⟩:=hl)
 all_goals (have hl:=u0a (q:=w2.heap.size) hg3 tLOC tSZ; obtain ⟨_,_,_,_⟩:=hl)
 rotate_left 1
 ·go_wp2
  exact ⟨rfl,tGB,.inr ⟨j3,by simp only [pairR,u0s,u0w,HR1.out,HR2.out,HR3.out,Res.bind],hp3,rfl⟩⟩
 have hj3:=u6h hp3.hi HR3.out
 go_wp2_with fail
 refine (expr_any hE _ _ (HL.out j3 (by omega)) (hp3.keepB hE tBEL)).mono ?_
 rintro e w4 ⟨hg4,⟨a4,j4,v4,hR,hp4,rfl,⟨bk,bo,bn,bx,bA,bm,bc,rfl,ha4⟩⟩ | ⟨j4,hR,hp4,rfl⟩⟩
 all_goals (have HR4:=hid hR; clear hR; have hz:=hg4.size; (try simp only [u0c,u0i,u0p] at hz))
 all_goals (have hl:=u0a (q:=w.heap.size) hg4 tLOC tSZ; obtain ⟨_,_,_,_⟩:=hl)
 all_goals (have hl:=u0a (q:=w2.heap.size) hg4 tLOC tSZ; obtain ⟨_,_,_,_⟩:=hl)
 rotate_left 1
 ·go_wp2
  exact ⟨rfl,tGB,.inr ⟨j4,by simp only [pairR,u0s,u0w,HR1.out,HR2.out,HR3.out,HR4.out,Res.bind],hp4,rfl⟩⟩
 have hj4:=adv_E hp4.hi HR4.out
 go_wp2_with fail
 refine (u1o hE _ _ (hp4.keepB hE tBEL) [41] (by decide)).mono ?_
 rintro e w5 ⟨hg5,⟨a5,j5,v5,hR,hp5,rfl,rfl⟩ | ⟨j5,hR,hp5,rfl⟩⟩
 all_goals (have HR5:=hid hR; clear hR; have hz:=hg5.size; (try simp only [u0c,u0i,u0p] at hz))
 all_goals (have hl:=u0a (q:=w.heap.size) hg5 tLOC tSZ; obtain ⟨_,_,_,_⟩:=hl)
 all_goals (have hl:=u0a (q:=w2.heap.size) hg5 tLOC tSZ; obtain ⟨_,_,_,_⟩:=hl)
 all_goals (have hl:=u0a (q:=w4.heap.size) hg5 tLOC tSZ; obtain ⟨_,_,_,_⟩:=hl)
 rotate_left 1
 ·go_wp2
  exact ⟨rfl,tGB,.inr ⟨j5,by simp only [pairR,u0s,u0w,HR1.out,HR2.out,HR3.out,HR4.out,HR5.out,Res.bind],hp5,rfl⟩⟩
 have hj5:=u6h hp5.hi HR5.out
 go_wp2
 refine u5c rfl rfl rfl tRES ?_
 exact ⟨tGB,.inl ⟨.mk 4 op 0 [] [a2,a4],j5,_,by simp only [pairR,u0s,u0w,HR1.out,HR2.out,HR3.out,HR4.out,HR5.out,Res.bind],hp5.keepB hE tBEL,rfl,rx_mk (name:=[]) (sl_two (nb:=w5.heap.size) _ _ _ _ _ _ _ _ _ _ _ _ _ _ tLOC tSZ (u3z ha2 tKP tSZ tSZ) (u3z ha4 tKP tSZ tSZ))⟩⟩
theorem run_index_spec (w:World):∀ k,k<4→(Instr.index 194 (.agg specA) (.int .i64 (k:Nat))).run Tryz.prog w=.ok (.string (bs (spL.getD k []))) w:=by
 repeat (first | exact u3l | refine u3m ?_ (by as_aux_lemma=>kernel_rfl))
theorem run_index_pref (w:World):∀ k,k<3→(Instr.index 195 (.agg prefA) (.int .i64 (k:Nat))).run Tryz.prog w=.ok (.string (bs (unL.getD k []))) w:=by
 repeat (first | exact u3l | refine u3m ?_ (by as_aux_lemma=>kernel_rfl))
theorem wpList_index_str {ops:Array Oper} {rest:List Oper} {o:Oper} {a:Act} {w:World} {Q:Exit→Act→World→Prop} (hg:o.guard=none) (x y:Operand) (T:TypeId) (A:Array Value)
  (hop:o.op=Op.index T x y) (hx:a.eval x=.agg A) (k:Nat) (hy:a.eval y=.int .i64 (k:Nat)) (g:List UInt8) (hr:(Instr.index T (.agg A) (.int .i64 (k:Nat))).run Tryz.prog w=.ok (.string (bs g)) w)
  (hK:wpList Tryz.prog ops Q rest (a.put o.dst (.string (bs g))) w):wpList Tryz.prog ops Q (o :: rest) a w:=by
 refine wpList_plain hg fun K' hK'=>?_
 unfold Oper.wp execOp
 simp only [hop,hx,hy,Sem.run_bind,hr,Sem.run_pure,Result.andThen_ok]
 exact hK' _ _ hK
theorem spL_asked:∀ k,k<4→spL.getD k []∈asked:=by
 repeat (first | exact u3l | refine u3m ?_ (by decide))
theorem unL_asked:∀ k,k<3→unL.getD k []∈asked:=by
 repeat (first | exact u3l | refine u3m ?_ (by decide))
theorem u4p {E:Env} {i:Nat} {s:List UInt8} (h:hit s (E.ks.drop i)=true):∃ n,E.ks.drop i=(2,s,n) :: E.ks.drop (i+1):=by
 have hl:=hit_lt h
 rcases Env.next_ (Nat.le_of_lt hl) with ⟨_,t,_,_,hd⟩ | ⟨e,_,_⟩
 ·obtain ⟨n,r,e⟩:=hit_cons h
  rw [hd] at e
  injection e with e1 e2
  exact ⟨n,by rw [hd,e1]⟩
 ·omega
def Other (l:List K):Prop:=l=[]∨∃ x n r,l=(2,x,n) :: r
theorem prim_none {l:List K} (h:Other l) (h0:hit [40] l=false) (h1:hit [109,105,110] l=false) (h2:hit [109,97,120] l=false) (h3:∀ k,k<4→hit (spL.getD k []) l=false):PE .prim l=.no l:=by
 rcases h with rfl | ⟨x,n,r,rfl⟩
 ·exact prim_nil
 ·exact prim_no h0 h1 h2 h3
theorem special_any {E:Env} (hE:E.Ok) (w:World) (i:Nat) (ho:Other (E.ks.drop i)) (h0:hit [40] (E.ks.drop i)=false) (h1:hit [109,105,110] (E.ks.drop i)=false) (h2:hit [109,97,120] (E.ks.drop i)=false) (hp0:Ps E w i) :
  Calls Tryz.prog 200 #[.pointer (some ⟨E.b,0,none⟩)] w (Fin E w (PE .prim (E.ks.drop i)) (RxV w.heap.size)):=by
 have HN:=hid (And.intro ho (And.intro h0 (And.intro h1 h2)))
 have hsz:=hp0.sz
 have hlt:=hE.lt
 have hb10:=hE.b10
 obtain ⟨ty,fr,hS⟩:=hp0.g.spec
 have hS1:=hid hS
 have HP:=hid hp0
 clear hS ho h0 h1 h2 hp0
 go_enter Tryz.func200,Tryz.ntmps200
 go_wp2_with (refine wpList_load_row rfl 194 _ rfl 0 rfl ty specA fr _ ((((Below.refl _ w).alloc (Nat.le_refl _) _).block 0 (by omega)).trans hS1.out) Tryz.underlying194 rfl (by kernel_rfl) ?_)
 go_loopw [6] (fun n wr=>∃ k:Nat,k≤4∧n=.int .i64 k∧(∀ m,m<k→hit (spL.getD m []) (E.ks.drop i)=false)∧w.grownBy wr (some E.b)∧Ps E wr i∧wr.heap[w.heap.size]? = some (.cells #[.int .i64 0,.int .i64 0,.int .i32 0,.string ⟨#[]⟩,.slice none 0 0] 34 (0,0))) (fun n _=>4 - (intOf n).toNat)
 case atStart=>exact ⟨0,Nat.zero_le _,rfl,fun m hm=>absurd hm (Nat.not_lt_zero m),tGB,HP.out.keepB hE tBEL,tLOC⟩
 case round =>
  obtain ⟨k,hk,rfl,hno,hgr,hp,hq⟩:=hrel
  have HK:=hid hno
  have hz0:=hgr.size
  have r3:w.heap.size<wr.heap.size:=(Array.getElem?_eq_some_iff.1 hq).1
  clear hno
  by_cases hlt4:k<4
  ·obtain ⟨g,hg⟩:∃ g,spL.getD k []=g:=⟨_,rfl⟩
   have hga:=spL_asked k hlt4
   rw [hg] at hga
   have HG:=hid hg
   have HA:=hid hga
   clear hg hga
   go_wp2_with (refine wpList_index_str rfl _ _ 194 specA rfl rfl k rfl g (by rw [← HG.out]; exact run_index_spec _ k hlt4) ?_)
   refine (u1u hE _ i (hp.keepB hE tBEL) g HA.out).mono ?_
   rintro e w1 ⟨hg1,⟨hh,rfl,hp1⟩ | ⟨hh,rfl,hp1⟩⟩
   all_goals (have HH:=hid hh; clear hh; have hz:=hg1.size; (try simp only [u0c,u0i,u0p] at hz); have hl:=u0a (q:=w.heap.size) hg1 tLOC tSZ; obtain ⟨l1,l2,l3,l4⟩:=hl)
   ·go_wp2
    refine u5c rfl rfl rfl tRES ?_
    refine ⟨tGB,.inl ⟨.mk 2 k 0 [] [],i+1,_,?_,hp1.keepB hE tBEL,rfl,rx_mk (name:=[]) u7l⟩⟩
    have:=HH.out
    rw [← HG.out] at this
    obtain ⟨n,hd⟩:=u4p this
    rw [hd]; exact prim_sp k hlt4
   ·go_wp2
    go_roundw
    case rel=>exact ⟨k+1,by omega,by go_num,fun m hm=>(by
     by_cases e:m=k
     ·rw [e,HG.out]; exact HH.out
     ·exact HK.out m (by omega)),tGB,hp1,l4⟩
    case measure=>simp [intOf]; omega
  ·go_wp2
   refine ⟨rfl,tGB,.inr ⟨i,?_,hp,rfl⟩⟩
   obtain ⟨ho,h0,h1,h2⟩:=HN.out
   exact prim_none ho h0 h1 h2 fun m hm=>HK.out m (by omega)
def PrimC (E:Env) (i:Nat):Prop:=∀ (w:World),Ps E w i→Calls Tryz.prog 177 #[.pointer (some ⟨E.b,0,none⟩)] w (Fin E w (PE .prim (E.ks.drop i)) (RxV w.heap.size))
theorem unary_any {E:Env} (hE:E.Ok) (w:World) (i:Nat) (hU:∀ j,i<j→UnC E j) (hPr:PrimC E i) (hp0:Ps E w i) :
  Calls Tryz.prog 141 #[.pointer (some ⟨E.b,0,none⟩)] w (Fin E w (PE .un (E.ks.drop i)) (RxV w.heap.size)):=by
 have HU:=hid hU
 have HPr:=hid hPr
 have hsz:=hp0.sz
 have hlt:=hE.lt
 have hb10:=hE.b10
 obtain ⟨ty,fr,hS⟩:=hp0.g.pref
 have hS1:=hid hS
 have HP:=hid hp0
 clear hS hU hPr hp0
 go_enter Tryz.func141,Tryz.ntmps141
 go_wp2_with (refine wpList_load_row rfl 195 _ rfl 1 rfl ty prefA fr _ ((((Below.refl _ w).alloc (Nat.le_refl _) _).block 1 (by omega)).trans hS1.out) Tryz.underlying195 rfl (by kernel_rfl) ?_)
 go_loopw [7] (fun n wr=>∃ k:Nat,k≤3∧n=.int .i64 k∧(∀ m,m<k→hit (unL.getD m []) (E.ks.drop i)=false)∧w.grownBy wr (some E.b)∧Ps E wr i∧wr.heap[w.heap.size]? = some (.cells #[.int .i64 0,.int .i64 0,.int .i32 0,.string ⟨#[]⟩,.slice none 0 0] 34 (0,0))) (fun n _=>3 - (intOf n).toNat)
 case atStart=>exact ⟨0,Nat.zero_le _,rfl,fun m hm=>absurd hm (Nat.not_lt_zero m),tGB,HP.out.keepB hE tBEL,tLOC⟩
 case round =>
  obtain ⟨k,hk,rfl,hno,hgr,hp,hq⟩:=hrel
  have HK:=hid hno
  have hz0:=hgr.size
  have r3:w.heap.size<wr.heap.size:=(Array.getElem?_eq_some_iff.1 hq).1
  clear hno
  by_cases hlt4:k<3
  ·obtain ⟨g,hg⟩:∃ g,unL.getD k []=g:=⟨_,rfl⟩
   have hga:=unL_asked k hlt4
   rw [hg] at hga
   have HG:=hid hg
   have HA:=hid hga
   clear hg hga
   go_wp2_with (refine wpList_index_str rfl _ _ 195 prefA rfl rfl k rfl g (by rw [← HG.out]; exact run_index_pref _ k hlt4) ?_)
   refine (u1u hE _ i (hp.keepB hE tBEL) g HA.out).mono ?_
   rintro e w1 ⟨hg1,⟨hh,rfl,hp1⟩ | ⟨hh,rfl,hp1⟩⟩
   all_goals (have HH:=hid hh; clear hh; have hz:=hg1.size; (try simp only [u0c,u0i,u0p] at hz); have hl:=u0a (q:=w.heap.size) hg1 tLOC tSZ; obtain ⟨l1,l2,l3,l4⟩:=hl)
   ·have hd:=HH.out
    rw [← HG.out] at hd
    obtain ⟨nn,hd⟩:=u4p hd
    have HD:=hid (show PE .un (E.ks.drop i)=(PE .un (E.ks.drop (i+1))).bind fun a q=>.ok (.mk 3 k 0 [] [a]) q by rw [hd]; exact un_hit k hlt4)
    clear hd
    go_wp2_with fail
    refine (HU.out (i+1) (by omega) _ (hp1.keepB hE tBEL)).mono ?_
    rintro e w2 ⟨hg2,⟨a,j,v,hR,hp2,rfl,⟨ak,ao,an,ax,aA,am,ac,rfl,ha⟩⟩ | ⟨j,hR,hp2,rfl⟩⟩
    all_goals (have HR:=hid hR; clear hR; have hz:=hg2.size; (try simp only [u0c,u0i,u0p] at hz); have hl:=u0a (q:=w.heap.size) hg2 tLOC tSZ; obtain ⟨m1,m2,m3,m4⟩:=hl)
    ·go_wp2
     refine u5c rfl rfl rfl tRES ?_
     exact ⟨tGB,.inl ⟨.mk 3 k 0 [] [a],j,_,by rw [HD.out,HR.out]; rfl,hp2.keepB hE tBEL,rfl,rx_mk (name:=[]) (sl_one (nb:=w2.heap.size+1) _ _ _ _ _ _ _ tLOC tSZ (u3z ha tKP tSZ tSZ))⟩⟩
    ·go_wp2
     exact ⟨rfl,tGB,.inr ⟨j,by rw [HD.out,HR.out]; rfl,hp2,rfl⟩⟩
   ·go_wp2
    go_roundw
    case rel=>exact ⟨k+1,by omega,by go_num,fun m hm=>(by
     by_cases e:m=k
     ·rw [e,HG.out]; exact HH.out
     ·exact HK.out m (by omega)),tGB,hp1,l4⟩
    case measure=>simp [intOf]; omega
  ·have l1:∀ j,wr.cell? ⟨w.heap.size,j,none⟩=#[.int .i64 0,.int .i64 0,.int .i32 0,.string ⟨#[]⟩,.slice none 0 0][j]?:=fun j=>cell_of_row _ _ j _ _ _ hq
   have HD:=hid (un_no (l:=E.ks.drop i) fun m hm=>HK.out m (by omega))
   go_wp2_with fail
   refine (HPr.out _ (hp.keepB hE tBEL)).mono ?_
   rintro e w2 ⟨hg2,⟨a,j,v,hR,hp2,rfl,⟨ak,ao,an,ax,aA,am,ac,rfl,ha⟩⟩ | ⟨j,hR,hp2,rfl⟩⟩
   all_goals (have HR:=hid hR; clear hR; have hz:=hg2.size; (try simp only [u0c,u0i,u0p] at hz); have hl:=u0a (q:=w.heap.size) hg2 tLOC tSZ; obtain ⟨m1,m2,m3,m4⟩:=hl)
   ·go_wp2
    refine u5c rfl rfl rfl tRES ?_
    exact ⟨tGB,.inl ⟨a,j,_,by rw [HD.out,HR.out],hp2.keepB hE tBEL,rfl,⟨ak,ao,an,ax,aA,am,ac,rfl,u3z ha tKP tSZ tSZ⟩⟩⟩
   ·go_wp2
    exact ⟨rfl,tGB,.inr ⟨j,by rw [HD.out,HR.out],hp2,rfl⟩⟩
end Go.Proofs.YtbkhnilbgocpnaaGreatDoor.SynC
