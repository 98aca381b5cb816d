import Derived.BigQuiet
import Derived.Test.YtbkhnilbgocpnaaGreatDoorY0
import Derived.Test.YtbkhnilbgocpnaaGreatDoorY30
set_option linter.unusedVariables false
set_option linter.unusedSimpArgs false
set_option maxRecDepth 100000
set_option maxHeartbeats 2000000
open Go.Lib (hid)
namespace Go.Proofs.YtbkhnilbgocpnaaGreatDoor.SynC
open Go.Proofs.YtbkhnilbgocpnaaGreatDoor.LexC
open Go Go.ChangeShapes Go.WideShapes Go.ChangeAt Go.RowKit Go.Deep
structure Rv where
 b:Nat
 base:Nat
 x:Nat
 c:Nat
 A:Option Addr
 L:List Tok
def Rv.ks (E:Rv):List K:=E.L.map key
structure Rv.Ok (E:Rv):Prop where
 lt:E.b<E.base
 x:E.x≠E.b
 xlt:E.x<E.base
 len:E.L.length≤4000
 A:E.L≠[]→E.A=some ⟨E.x,0,none⟩
 wf:∀ t∈E.L,(t.kind=0∨t.kind=1∨t.kind=2)∧t.text≠[]
structure Rp (E:Rv) (w:World) (i:Nat) (b:Bool):Prop where
 hb:w.heap[E.b]? = some (.cells #[.slice E.A E.L.length E.c,.int .i64 i,.bool b] 81 (0,0))
 ht:∀ j u,(u5f E.L)[j]? = some u→w.cell? ⟨E.x,j,none⟩=some u
 hi:i≤E.L.length
 sz:E.base≤w.heap.size
theorem Rp.keep {E:Rv} (hE:E.Ok) {w w':World} {i:Nat} {b:Bool} (h:Rp E w i b) (k:Below E.base w w'):Rp E w' i b:=by
 have hlt:=hE.lt
 exact ⟨(k.block E.b hlt).trans h.hb,fun j u hu=>(k.cell hE.xlt).trans (h.ht j u hu),h.hi,Nat.le_trans h.sz k.size⟩
theorem Rp.keepB {E:Rv} (hE:E.Ok) {w w':World} {i:Nat} {b:Bool} (h:Rp E w i b) (k:Below w.heap.size w w'):Rp E w' i b:=h.keep hE (k.mono h.sz)
theorem Rp.lt {E:Rv} {w:World} {i:Nat} {b:Bool} (h:Rp E w i b):E.b<w.heap.size:=(Array.getElem?_eq_some_iff.1 h.hb).1
theorem Rp.c {E:Rv} {w:World} {i:Nat} {b:Bool} (h:Rp E w i b):w.cell? ⟨E.b,0,none⟩=some (.slice E.A E.L.length E.c)∧w.cell? ⟨E.b,1,none⟩=some (.int .i64 i)∧w.cell? ⟨E.b,2,none⟩=some (.bool b) ∧
  w.frozen? ⟨E.b,1,none⟩=false∧w.frozen? ⟨E.b,2,none⟩=false :=
 ⟨by rw [cell_of_row _ _ 0 _ _ _ h.hb]; rfl,by rw [cell_of_row _ _ 1 _ _ _ h.hb]; rfl,by rw [cell_of_row _ _ 2 _ _ _ h.hb]; rfl,by simp [World.frozen?,h.hb],by simp [World.frozen?,h.hb]⟩
theorem Rp.step {E:Rv} (hE:E.Ok) {w:World} {i j:Nat} {b:Bool} (h:Rp E w i b) (hj:j≤E.L.length):Rp E (w.setCell ⟨E.b,1,none⟩ (.int .i64 j)) j b:=by
 have hk:w.grownBy (w.setCell ⟨E.b,1,none⟩ (.int .i64 j)) (some E.b):=u1a (u0q _ _) (.inl rfl) _
 refine ⟨?_,fun k u hu=>hk.cell (h.ht k u hu) (by simp; exact hE.x),hj,Nat.le_trans h.sz hk.size⟩
 simp only [World.setCell,Array.getElem?_modify,if_true,h.hb]
 rfl
theorem Rp.spoil {E:Rv} (hE:E.Ok) {w:World} {i:Nat} {b:Bool} (h:Rp E w i b):Rp E (w.setCell ⟨E.b,2,none⟩ (.bool true)) i true:=by
 have hk:w.grownBy (w.setCell ⟨E.b,2,none⟩ (.bool true)) (some E.b):=u1a (u0q _ _) (.inl rfl) _
 refine ⟨?_,fun k u hu=>hk.cell (h.ht k u hu) (by simp; exact hE.x),h.hi,Nat.le_trans h.sz hk.size⟩
 simp only [World.setCell,Array.getElem?_modify,if_true,h.hb]
 rfl
theorem Rp.tok {E:Rv} {w:World} {i:Nat} {b:Bool} (h:Rp E w i b) {t:Tok} (ht:E.L[i]? = some t) :
  w.cell? ⟨E.x,i * 4,none⟩=some (.int .i64 t.kind)∧w.cell? ⟨E.x,i * 4+1,none⟩=some (.int .i64 t.pos)∧w.cell? ⟨E.x,i * 4+2,none⟩=some (.string (bs t.text))∧w.cell? ⟨E.x,i * 4+3,none⟩=some (.int .i32 t.num) :=
 ⟨h.ht _ _ (u4o ht 0 (by omega)),h.ht _ _ (u4o ht 1 (by omega)),h.ht _ _ (u4o ht 2 (by omega)),h.ht _ _ (u4o ht 3 (by omega))⟩
theorem sz_dn (w:World) (n:Nat):(w.drewN n).heap.size=w.heap.size:=rfl
theorem gb_dn {a w:World} {r:Option Nat} (h:a.grownBy w r) (n:Nat):a.grownBy (w.drewN n) r:=⟨h.os,h.tape,h.output,h.size,h.block⟩
def nxt (E:Rv) (i:Nat) (b:Bool):Tok:=if b then ⟨0,0,[],0⟩ else (E.L[i]?).getD ⟨0,0,[],0⟩
theorem rnext_bad {E:Rv} (hE:E.Ok) (w:World) (i:Nat) (h:Rp E w i true) :
  Calls Tryz.prog 95 #[.pointer (some ⟨E.b,0,none⟩)] w fun e w'=>e=.returned (.agg #[.int .i64 0,.int .i64 0,.string (bs []),.int .i32 0])∧Below w.heap.size w w':=by
 obtain ⟨c0,c1,c2,_,_⟩:=(h.keepB hE (u0j w (.cells #[.int .i64 0,.int .i64 0,.string ⟨#[]⟩,.int .i32 0] 67))).c
 have hlen:=hE.len
 clear h
 go_enter Tryz.func95,Tryz.ntmps95
 go_wp2
 go_quiet (fail)
 go_wp2
 refine ret_tok (v0:=.int .i64 0) (v1:=.int .i64 0) (v2:=.string ⟨#[]⟩) (v3:=.int .i32 0) rfl rfl rfl tRESD ⟨rfl,tBELD⟩
theorem rnext_end {E:Rv} (hE:E.Ok) (w:World) (i:Nat) (h:Rp E w i false) (hi:E.L.length≤i) :
  Calls Tryz.prog 95 #[.pointer (some ⟨E.b,0,none⟩)] w fun e w'=>e=.returned (.agg #[.int .i64 0,.int .i64 0,.string (bs []),.int .i32 0])∧Below w.heap.size w w':=by
 obtain ⟨c0,c1,c2,_,_⟩:=(h.keepB hE (u0j w (.cells #[.int .i64 0,.int .i64 0,.string ⟨#[]⟩,.int .i32 0] 67))).c
 have hlen:=hE.len
 have hd:decide ((E.L.length:Int)≤i)=true:=by simp; omega
 clear h
 go_enter Tryz.func95,Tryz.ntmps95
 go_wp2
 go_quiet (fail)
 go_wp2
 refine ret_tok (v0:=.int .i64 0) (v1:=.int .i64 0) (v2:=.string ⟨#[]⟩) (v3:=.int .i32 0) rfl rfl rfl tRESD ⟨rfl,tBELD⟩
theorem rnext_good {E:Rv} (hE:E.Ok) (w:World) (i:Nat) (h:Rp E w i false) (t:Tok) (ht:E.L[i]? = some t) :
  Calls Tryz.prog 95 #[.pointer (some ⟨E.b,0,none⟩)] w fun e w'=>e=.returned (.agg #[.int .i64 t.kind,.int .i64 t.pos,.string (bs t.text),.int .i32 t.num])∧Below w.heap.size w w':=by
 have h':=h.keepB hE (u0j w (.cells #[.int .i64 0,.int .i64 0,.string ⟨#[]⟩,.int .i32 0] 67))
 obtain ⟨c0,c1,c2,_,_⟩:=h'.c
 obtain ⟨k0,k1,k2,k3⟩:=h'.tok ht
 have hA:=hE.A (by intro e; rw [e] at ht; simp at ht)
 rw [hA] at c0
 have hl:=(List.getElem?_eq_some_iff.1 ht).1
 have hx:(0:Int)≤i∧(i:Int)<E.L.length:=⟨by omega,by omega⟩
 have hd:decide ((E.L.length:Int)≤i)=false:=by simp; omega
 have hlen:=hE.len
 clear h h' ht hA
 go_enter Tryz.func95,Tryz.ntmps95
 go_wp2
 go_quiet (fail)
 go_wp2
 go_region
 all_goals (try go_wp2)
 all_goals refine ret_tok rfl rfl rfl tRESD ⟨rfl,tBELD⟩
theorem Rv.next_ {E:Rv} {i:Nat} (hi:i≤E.L.length) :
  (i<E.L.length∧∃ t,E.L[i]? = some t∧t∈E.L∧E.ks.drop i=key t :: E.ks.drop (i+1))∨(i=E.L.length∧E.L[i]? = none∧E.ks.drop i=[]):=by
 by_cases h:i<E.L.length
 ·refine .inl ⟨h,E.L[i],List.getElem?_eq_getElem h,List.getElem_mem h,?_⟩
  unfold Rv.ks; rw [List.drop_eq_getElem_cons (by simpa using h)]; simp
 ·have e:i=E.L.length:=by omega
  refine .inr ⟨e,by simp [e],?_⟩
  unfold Rv.ks; rw [List.drop_eq_nil_of_le (by simp; omega)]
theorem rnext {E:Rv} (hE:E.Ok) (w:World) (i:Nat) (b:Bool) (h:Rp E w i b) (t:Tok) (ht:nxt E i b=t) :
  Calls Tryz.prog 95 #[.pointer (some ⟨E.b,0,none⟩)] w fun e w'=>e=.returned (.agg #[.int .i64 t.kind,.int .i64 t.pos,.string (bs t.text),.int .i32 t.num])∧Below w.heap.size w w':=by
 subst ht
 cases b
 ·rcases Rv.next_ h.hi with ⟨_,t,ht,_⟩ | ⟨e,hn,_⟩
  ·have:nxt E i false=t:=by simp [nxt,ht]
   rw [this]; exact rnext_good hE w i h t ht
  ·have:nxt E i false=⟨0,0,[],0⟩:=by simp [nxt,hn]
   rw [this]; exact rnext_end hE w i h (by omega)
 ·exact rnext_bad hE w i h
def hitB (E:Rv) (i:Nat) (b:Bool) (s:List UInt8):Bool:=!b&&hit s (E.ks.drop i)
theorem nxt_hit {E:Rv} {i:Nat} {b:Bool} (hi:i≤E.L.length) {t:Tok} (ht:nxt E i b=t) (s:List UInt8):(t.kind == 2&&decide (t.text=s))=hitB E i b s:=by
 subst ht
 unfold hitB
 cases b
 ·rcases Rv.next_ hi with ⟨_,t,ht,_,hd⟩ | ⟨e,hn,hd⟩
  ·have:nxt E i false=t:=by simp [nxt,ht]
   rw [this,hd]
   simp [hit,isS,key]
   rw [Bool.eq_iff_iff]; simp
  ·have:nxt E i false=⟨0,0,[],0⟩:=by simp [nxt,hn]
   rw [this,hd]; simp [hit]
 ·simp [nxt]
theorem ris {E:Rv} (hE:E.Ok) (w:World) (i:Nat) (b:Bool) (h:Rp E w i b) (s:List UInt8) (r:Bool) (hr:hitB E i b s=r) :
  Calls Tryz.prog 137 #[.pointer (some ⟨E.b,0,none⟩),.string (bs s)] w fun e w'=>e=.returned (.bool r)∧Below w.heap.size w w':=by
 subst hr
 obtain ⟨t,ht⟩:∃ t,nxt E i b=t:=⟨_,rfl⟩
 have hh:=nxt_hit h.hi ht s
 have HN:=hid (rnext hE w i b h t ht)
 rw [← hh]
 clear h ht hh
 cases hk:(t.kind == 2)
 ·go_enter Tryz.func137,Tryz.ntmps137
  go_wp2_with fail
  refine HN.out.mono ?_
  rintro e w1 ⟨rfl,hb1⟩
  have HB:=hid hb1
  clear hb1
  go_wp2
  go_ret
  exact ⟨rfl,seq HB.out (u0j _ _)⟩
 ·have hq:=beq_bs t.text s
  obtain ⟨q,hq2⟩:∃ q,decide (t.text=s)=q:=⟨_,rfl⟩
  rw [hq2] at hq ⊢
  clear hq2
  go_enter Tryz.func137,Tryz.ntmps137
  go_wp2_with fail
  refine HN.out.mono ?_
  rintro e w1 ⟨rfl,hb1⟩
  have HB:=hid hb1
  clear hb1
  go_wp2
  go_ret
  exact ⟨rfl,seq HB.out (u0j _ _)⟩
theorem u2n {E:Rv} {i:Nat} {b:Bool} {s:List UInt8} (h:hitB E i b s=true):b=false∧hit s (E.ks.drop i)=true∧i<E.L.length:=by
 unfold hitB at h
 simp only [Bool.and_eq_true,Bool.not_eq_true'] at h
 refine ⟨h.1,h.2,?_⟩
 by_cases hi:i<E.L.length
 ·exact hi
 ·have h2:=h.2; unfold Rv.ks at h2; rw [List.drop_eq_nil_of_le (by simp; omega)] at h2; cases h2
theorem reat {E:Rv} (hE:E.Ok) (w:World) (i:Nat) (b:Bool) (h:Rp E w i b) (s:List UInt8) :
  Calls Tryz.prog 80 #[.pointer (some ⟨E.b,0,none⟩),.string (bs s)] w fun e w'=>w.grownBy w' (some E.b) ∧
   ((hitB E i b s=true∧e=.returned (.bool true)∧Rp E w' (i+1) false)∨(hitB E i b s=false∧e=.returned (.bool false)∧Rp E w' i b)):=by
 have HP:=hid h
 have hlen:=hE.len
 have hsz:=h.sz
 have hlt:=hE.lt
 cases hh:hitB E i b s
 ·have HI:=hid (ris hE w i b h s _ hh)
  clear h hh
  go_enter Tryz.func80,Tryz.ntmps80
  go_wp2_with fail
  refine HI.out.mono ?_
  rintro e w1 ⟨rfl,hb1⟩
  have HB:=hid hb1
  clear hb1
  go_wp2
  go_ret
  exact ⟨u0d HB.out _,.inr ⟨trivial,rfl,HP.out.keepB hE HB.out⟩⟩
 ·have HI:=hid (ris hE w i b h s _ hh)
  obtain ⟨rfl,_,hil⟩:=u2n hh
  clear h hh
  go_enter Tryz.func80,Tryz.ntmps80
  go_wp2_with fail
  refine HI.out.mono ?_
  rintro e w1 ⟨rfl,hb1⟩
  have HB:=hid hb1
  have hp1:=HP.out.keepB hE hb1
  obtain ⟨c0,c1,c2,f1,f2⟩:=hp1.c
  have HP1:=hid hp1
  clear hb1 hp1 c0 c2 f2
  go_wp2
  go_ret
  refine ⟨u1a (u0d HB.out _) (.inl rfl) _,.inl ⟨trivial,rfl,?_⟩⟩
  have:=HP1.out.step hE (j:=i+1) (by omega)
  simpa using this
def mkR {α:Type} (b:Bool) (a:α) (l:List K):Res α:=if b then .no l else .ok a l
def Ro {α:Type} (E:Rv) (w:World) (R:Res α) (V:World→Value→α→Prop) (e:Ending) (w':World):Prop :=
 w.grownBy w' (some E.b)∧∃ (b:Bool) (j:Nat) (v:Value) (a:α),R=mkR b a (E.ks.drop j)∧Rp E w' j b∧e=.returned v∧V w' v a
def at0 {α:Type} (E:Rv) (i:Nat) (b:Bool) (f:List K→Res α):Res α:=(mkR b () (E.ks.drop i)).bind fun _ r=>f r
theorem u8g {α:Type} {E:Rv} {i:Nat} {f:List K→Res α}:at0 E i true f=.no (E.ks.drop i):=rfl
theorem u0l {α:Type} {E:Rv} {i:Nat} {f:List K→Res α}:at0 E i false f=f (E.ks.drop i):=rfl
theorem mk_true {α:Type} {a:α} {l:List K}:mkR true a l=.no l:=rfl
theorem u1p {α:Type} {a:α} {l:List K}:mkR false a l=.ok a l:=rfl
theorem u1i {α β γ:Type} {E:Rv} {i j:Nat} {b b':Bool} {a:α} {a':β} {f:List K→Res β} (h:at0 E i b f=mkR b' a' (E.ks.drop j)) (k:α→β→List K→Res γ) :
  (mkR b a (E.ks.drop i)).bind (fun e r=>(f r).bind (k e))=(mkR b' a' (E.ks.drop j)).bind (k a):=by
 cases b
 ·rw [u0l] at h; rw [u1p,u0z,h]
 ·rw [u8g] at h; rw [mk_true,no_bind]
  cases b'
  ·cases h
  ·rw [mk_true] at h ⊢; injection h with h; rw [h]; rfl
theorem u1y {β γ:Type} {E:Rv} {i j:Nat} {b b':Bool} {a':β} {f:List K→Res β} (h:at0 E i b f=mkR b' a' (E.ks.drop j)) (k:β→List K→Res γ) :
  at0 E i b (fun r=>(f r).bind k)=(mkR b' a' (E.ks.drop j)).bind k:=u1i (a:=()) h fun _=>k
theorem u3j {α β:Type} {b:Bool} {a:α} {l:List K} (g:α→β):(mkR b a l).bind (fun e r=>.ok (g e) r)=mkR b (g a) l:=by cases b <;> rfl
theorem mk_adv {α:Type} {E:Rv} {i j:Nat} {b b':Bool} {a:α} {f:List K→Res α} (hj:j≤E.L.length) (hf:∀ l a r,f l=.ok a r→r.length<l.length) (h:at0 E i b f=mkR b' a (E.ks.drop j)) (hb:b'=false):i<j:=by
 subst hb
 cases b
 ·rw [u0l,u1p] at h
  have:=hf _ _ _ h
  simp [Rv.ks] at this; omega
 ·cases h
theorem rneedS_yes {E:Rv} {i:Nat} {s:List UInt8} (h:hit s (E.ks.drop i)=true) (hi:i≤E.L.length):u1k s (E.ks.drop i)=.ok () (E.ks.drop (i+1)):=by
 rcases Rv.next_ hi with ⟨_,t,_,_,hd⟩ | ⟨e,_,hd⟩
 ·rw [hd] at h ⊢; exact need_hit h
 ·rw [hd] at h; cases h
theorem rneedS_no {E:Rv} {i:Nat} {s:List UInt8} (hi:i≤E.L.length) (h:hit s (E.ks.drop i)=false):u1k s (E.ks.drop i)=.no (E.ks.drop i):=by
 rcases Rv.next_ hi with ⟨_,t,_,_,hd⟩ | ⟨_,_,hd⟩
 ·rw [hd] at h ⊢
  unfold u1k need
  simp only [hit] at h
  simp [h]
 ·rw [hd]; rfl
theorem rneed {E:Rv} (hE:E.Ok) (w:World) (i:Nat) (b:Bool) (h:Rp E w i b) (s:List UInt8) :
  Calls Tryz.prog 84 #[.pointer (some ⟨E.b,0,none⟩),.string (bs s)] w (Ro E w (at0 E i b (u1k s)) VU):=by
 have HP:=hid h
 have HE:=hid (reat hE w i b h s)
 have hi:=h.hi
 have hsz:=h.sz
 have hlt:=hE.lt
 clear h
 go_enter Tryz.func84,Tryz.ntmps84
 go_wp2_with fail
 refine HE.out.mono ?_
 rintro e w1 ⟨hg,⟨hh,rfl,hp⟩ | ⟨hh,rfl,hp⟩⟩
 ·have HH:=hid hh
  clear hh
  go_wp2
  go_end0
  obtain ⟨rfl,h1,_⟩:=u2n HH.out
  exact ⟨hg,false,i+1,_,(),by rw [u0l,u1p,rneedS_yes h1 hi],hp,rfl,rfl⟩
 ·have HH:=hid hh
  have HP1:=hid hp
  obtain ⟨c0,c1,c2,f1,f2⟩:=hp.c
  clear hh hp c0 c1 f1
  go_wp2
  go_end0
  refine ⟨u1a hg (.inl rfl) _,true,i,_,(),?_,HP1.out.spoil hE,rfl,rfl⟩
  rw [mk_true]
  cases b
  ·rw [u0l]; exact rneedS_no hi (by simpa [hitB] using HH.out)
  ·rfl
theorem nxt_name {E:Rv} (hE:E.Ok) {i:Nat} {b:Bool} (hi:i≤E.L.length) {t:Tok} (ht:nxt E i b=t) :
  ((t.kind == 0)=true∧t.text≠[]∧b=false∧i<E.L.length∧at0 E i b needN'=.ok t.text (E.ks.drop (i+1)))∨(((t.kind == 0)=false∨t.text=[])∧at0 E i b needN'=.no (E.ks.drop i)):=by
 subst ht
 cases b
 ·rcases Rv.next_ hi with ⟨hl,t,ht,hm,hd⟩ | ⟨e,hn,hd⟩
  ·have:nxt E i false=t:=by simp [nxt,ht]
   rw [this,u0l,hd]
   have hw:=(hE.wf t hm).2
   cases hk:(t.kind == 0)
   ·exact .inr ⟨.inl rfl,by unfold needN' u6d; simp [key] at hk ⊢; simp [hk]⟩
   ·exact .inl ⟨rfl,hw,rfl,hl,by unfold needN' u6d; simp [key] at hk ⊢; simp [hk]⟩
  ·have:nxt E i false=⟨0,0,[],0⟩:=by simp [nxt,hn]
   rw [this,u0l,hd]
   exact .inr ⟨.inr rfl,rfl⟩
 ·exact .inr ⟨.inr rfl,rfl⟩
theorem nxt_int {E:Rv} {i:Nat} {b:Bool} (hi:i≤E.L.length) {t:Tok} (ht:nxt E i b=t) :
  ((t.kind == 1)=true∧b=false∧i<E.L.length∧at0 E i b needI'=.ok t.num (E.ks.drop (i+1)))∨((t.kind == 1)=false∧at0 E i b needI'=.no (E.ks.drop i)):=by
 subst ht
 cases b
 ·rcases Rv.next_ hi with ⟨hl,t,ht,hm,hd⟩ | ⟨e,hn,hd⟩
  ·have:nxt E i false=t:=by simp [nxt,ht]
   rw [this,u0l,hd]
   cases hk:(t.kind == 1)
   ·exact .inr ⟨rfl,by unfold needI' needI; simp [key] at hk ⊢; simp [hk]⟩
   ·exact .inl ⟨rfl,rfl,hl,by unfold needI' needI; simp [key] at hk ⊢; simp [hk]⟩
  ·have:nxt E i false=⟨0,0,[],0⟩:=by simp [nxt,hn]
   rw [this,u0l,hd]
   exact .inr ⟨rfl,rfl⟩
 ·exact .inr ⟨rfl,rfl⟩
theorem bs_isE (x:List UInt8):(bs x).toList.isEmpty=decide (x=[]):=by
 rw [u2v]; cases x <;> rfl
theorem rname {E:Rv} (hE:E.Ok) (w:World) (i:Nat) (b:Bool) (h:Rp E w i b) :
  Calls Tryz.prog 81 #[.pointer (some ⟨E.b,0,none⟩)] w (Ro E w (at0 E i b needN') VN):=by
 have HP:=hid h
 obtain ⟨t,ht⟩:∃ t,nxt E i b=t:=⟨_,rfl⟩
 have HN:=hid (rnext hE w i b h t ht)
 have hlen:=hE.len
 have hi:=h.hi
 have hsz:=h.sz
 have hlt:=hE.lt
 have hq:=bs_isE t.text
 rcases nxt_name hE hi ht with ⟨hk,hx,rfl,hil,hR⟩ | ⟨hk,hR⟩
 ·rw [decide_eq_false hx] at hq
  have hk':(t.kind != 0)=false:=by simp [bne,hk]
  have HR:=hid hR
  clear h ht hR hk hx
  go_enter Tryz.func81,Tryz.ntmps81
  go_wp2_with fail
  refine HN.out.mono ?_
  rintro e w1 ⟨rfl,hb1⟩
  have HB:=hid hb1
  have hz1:=hb1.size
  have hp1:=(HP.out.keepB hE hb1).keepB hE (u0j w1 (.cells #[.int .i64 t.kind,.int .i64 t.pos,.string (bs t.text),.int .i32 t.num] 67))
  obtain ⟨c0,c1,c2,f1,f2⟩:=hp1.c
  have HP1:=hid hp1
  clear hb1 hp1 c0 c2 f2
  go_wp2
  go_ret
  refine ⟨u1a (u0o (u0d HB.out _) _) (.inl rfl) _,false,i+1,_,t.text,HR.out,?_,rfl,rfl⟩
  have:=HP1.out.step hE (j:=i+1) (by omega)
  simpa using this
 ·have HR:=hid hR
  clear h ht hR
  have hcc:(t.kind != 0)=true∨((t.kind != 0)=false∧(bs t.text).toList.isEmpty=true):=by
   cases hk2:(t.kind == 0)
   ·left; simp [bne,hk2]
   ·right
    refine ⟨by simp [bne,hk2],?_⟩
    rcases hk with hk | hk
    ·rw [hk2] at hk; cases hk
    ·rw [hq]; simp [hk]
  clear hk hq
  rcases hcc with hk | ⟨hk,hq⟩
  all_goals
   go_enter Tryz.func81,Tryz.ntmps81
   go_wp2_with fail
   refine HN.out.mono ?_
   rintro e w1 ⟨rfl,hb1⟩
   have HB:=hid hb1
   have hz1:=hb1.size
   have hp1:=(HP.out.keepB hE hb1).keepB hE (u0j w1 (.cells #[.int .i64 t.kind,.int .i64 t.pos,.string (bs t.text),.int .i32 t.num] 67))
   obtain ⟨c0,c1,c2,f1,f2⟩:=hp1.c
   have HP1:=hid hp1
   clear hb1 hp1 c0 c1 f1
   go_wp2
   go_ret
   exact ⟨u1a (u0o (u0d HB.out _) _) (.inl rfl) _,true,i,_,[],HR.out,HP1.out.spoil hE,rfl,rfl⟩
def VI (_:World) (v:Value) (n:Int):Prop:=v=.int .i32 n
theorem rint {E:Rv} (hE:E.Ok) (w:World) (i:Nat) (b:Bool) (h:Rp E w i b) :
  Calls Tryz.prog 140 #[.pointer (some ⟨E.b,0,none⟩)] w (Ro E w (at0 E i b needI') VI):=by
 have HP:=hid h
 obtain ⟨t,ht⟩:∃ t,nxt E i b=t:=⟨_,rfl⟩
 have HN:=hid (rnext hE w i b h t ht)
 have hlen:=hE.len
 have hi:=h.hi
 have hsz:=h.sz
 have hlt:=hE.lt
 rcases nxt_int hi ht with ⟨hk,rfl,hil,hR⟩ | ⟨hk,hR⟩
 ·have hk':(t.kind != 1)=false:=by simp [bne,hk]
  have HR:=hid hR
  clear h ht hR hk
  go_enter Tryz.func140,Tryz.ntmps140
  go_wp2_with fail
  refine HN.out.mono ?_
  rintro e w1 ⟨rfl,hb1⟩
  have HB:=hid hb1
  have hz1:=hb1.size
  have hp1:=(HP.out.keepB hE hb1).keepB hE (u0j w1 (.cells #[.int .i64 t.kind,.int .i64 t.pos,.string (bs t.text),.int .i32 t.num] 67))
  obtain ⟨c0,c1,c2,f1,f2⟩:=hp1.c
  have HP1:=hid hp1
  clear hb1 hp1 c0 c2 f2
  go_wp2
  go_ret
  refine ⟨u1a (u0o (u0d HB.out _) _) (.inl rfl) _,false,i+1,_,t.num,HR.out,?_,rfl,rfl⟩
  have:=HP1.out.step hE (j:=i+1) (by omega)
  simpa using this
 ·have hk':(t.kind != 1)=true:=by simp [bne,hk]
  have HR:=hid hR
  clear h ht hR hk
  go_enter Tryz.func140,Tryz.ntmps140
  go_wp2_with fail
  refine HN.out.mono ?_
  rintro e w1 ⟨rfl,hb1⟩
  have HB:=hid hb1
  have hz1:=hb1.size
  have hp1:=(HP.out.keepB hE hb1).keepB hE (u0j w1 (.cells #[.int .i64 t.kind,.int .i64 t.pos,.string (bs t.text),.int .i32 t.num] 67))
  obtain ⟨c0,c1,c2,f1,f2⟩:=hp1.c
  have HP1:=hid hp1
  clear hb1 hp1 c0 c1 f1
  go_wp2
  go_ret
  exact ⟨u1a (u0o (u0d HB.out _) _) (.inl rfl) _,true,i,_,0,HR.out,HP1.out.spoil hE,rfl,rfl⟩
def LvP (n:Nat) (w:World) (e:Ending) (w':World):Prop:=∃ g1 g2,e=.returned (.tuple #[.slice (some ⟨g1,0,none⟩) (lev n).length (lev n).length,.slice (some ⟨g2,0,none⟩) (lev n).length (lev n).length]) ∧
 Below w.heap.size w w'∧w.heap.size≤g1∧g1<w'.heap.size∧w.heap.size≤g2∧g2<w'.heap.size ∧
 ∀ j x,(lev n)[j]? = some x→w'.cell? ⟨g1,j,none⟩=some (.string (bs x.1))∧w'.cell? ⟨g2,j,none⟩=some (.int .i64 x.2)
theorem lv_mem {n:Nat} (w:World):∀ j x,(lev n)[j]? = some x→((w.alloc (.cells (((lev n).map fun x=>Value.string (bs x.1)).toArray) 9)).alloc (.cells (((lev n).map fun x=>Value.int .i64 x.2).toArray) 3)).cell? ⟨w.heap.size,j,none⟩=some (.string (bs x.1)) ∧
  ((w.alloc (.cells (((lev n).map fun x=>Value.string (bs x.1)).toArray) 9)).alloc (.cells (((lev n).map fun x=>Value.int .i64 x.2).toArray) 3)).cell? ⟨w.heap.size+1,j,none⟩=some (.int .i64 x.2):=by
 intro j x h
 constructor
 ·rw [cell_of_row _ _ j _ _ _ (u0g (by simp) (u0c _ _))]
  simp [h]
 ·rw [cell_of_row _ _ j _ _ _ (u0k (by simp))]
  simp [h]
theorem rlevel (n:Nat) (h1:1≤n) (h2:n≤10) (w:World):Calls Tryz.prog 94 #[.int .i64 n] w (LvP n w):=by
 have h:n=1∨n=2∨n=3∨n=4∨n=5∨n=6∨n=7∨n=8∨n=9∨n=10:=by omega
 rcases h with rfl | rfl | rfl | rfl | rfl | rfl | rfl | rfl | rfl | rfl
 all_goals
  go_enter Tryz.func94,Tryz.ntmps94
  go_wp2
  go_ret2
  exact ⟨w.heap.size,w.heap.size+1,rfl,(u0j _ _).trans tBEL,Nat.le_refl _,tSZ,by omega,tSZ,lv_mem w⟩
def BinP (op:Int) (tu:Bool) (A B:Array Value) (w:World) (e:Ending) (w':World):Prop:=∃ nb,Below w.heap.size w w'∧w.heap.size≤nb ∧
 e=.returned (.tuple #[.agg #[.int .i64 4,.int .i64 op,.int .i32 0,.string (bs []),.slice (some ⟨nb,0,none⟩) 2 2],.bool true]) ∧
 w'.heap[nb]? = some (.cells (if tu then B++A else A++B) 34 (0,0))
theorem lookup_at {L:List (List UInt8 × Int)} {s:List UInt8} {op:Int} {k:Nat} (h:L.lookup s=(L.drop k).lookup s) (hl:L.lookup s=some op):∃ x,L[k]? = some x∧(x.1=s→x.2=op)∧(x.1≠s→L.lookup s=(L.drop (k+1)).lookup s):=by
 cases hk:L[k]? with
 | none =>
  rw [List.drop_eq_nil_of_le (by simpa using hk)] at h
  rw [hl] at h; cases h
 | some x =>
  have hlt:=(List.getElem?_eq_some_iff.1 hk)
  have hd:L.drop k=x :: L.drop (k+1):=by rw [List.drop_eq_getElem_cons hlt.1,hlt.2]
  refine ⟨x,rfl,fun e=>?_,fun e=>?_⟩
  ·rw [hl,hd,List.lookup_cons] at h
   subst e; simp at h; exact h.symm
  ·rw [h,hd,List.lookup_cons,beq_false_of_ne (fun e'=>e e'.symm)]
theorem ret_xb {fn:Func} {R:Ending→World→Prop} {a:Act} {W:World} {q s s':Nat} {v0 v1 v2 v3 v4 x:Value} {fr:Nat × Nat} (hr:fn.results=#[ResultVar.cell s 34,.tmp s']) (hd:a.defers=[])
  (hs:a.tmps.getD s undef=.pointer (some ⟨q,0,none⟩)) (hs':a.tmps.getD s' undef=x) (hq:W.heap[q]? = some (Obj.cells #[v0,v1,v2,v3,v4] 34 fr)) (h:R (.returned (.tuple #[.agg #[v0,v1,v2,v3,v4],x])) W):bodyPost Tryz.prog fn R Exit.ret a W:=by
 have c:∀ j,W.cell? ⟨q,j,none⟩=#[v0,v1,v2,v3,v4][j]?:=fun j=>cell_of_row _ _ j _ _ _ hq
 refine bodyPost_ret (v:=.tuple #[.agg #[v0,v1,v2,v3,v4],x]) ?_ hd h
 rw [Array.getD_eq_getD_getElem?] at hs hs'
 simp [results,hr,go_sem,hs,hs',c]
theorem rbinary (n:Nat) (h1:1≤n) (h2:n≤10) (s:List UInt8) (op:Int) (hl:(lev n).lookup s=some op) (w:World) (ak ao an:Int) (ax:List UInt8) (aA:Option Addr) (am ac:Nat) (bk bo bn:Int) (bx:List UInt8) (bA:Option Addr) (bm bc:Nat) :
  Calls Tryz.prog 60 #[.int .i64 n,.string (bs s),.agg #[.int .i64 ak,.int .i64 ao,.int .i32 an,.string (bs ax),.slice aA am ac],.agg #[.int .i64 bk,.int .i64 bo,.int .i32 bn,.string (bs bx),.slice bA bm bc]] w (BinP op (s == [62] || s == [62,61]) #[.int .i64 ak,.int .i64 ao,.int .i32 an,.string (bs ax),.slice aA am ac] #[.int .i64 bk,.int .i64 bo,.int .i32 bn,.string (bs bx),.slice bA bm bc] w):=by
 have HLV:=hid (rlevel n h1 h2)
 obtain ⟨L,hL⟩:∃ L,lev n=L:=⟨_,rfl⟩
 have hL5:L.length≤5:=by
  have h:n=1∨n=2∨n=3∨n=4∨n=5∨n=6∨n=7∨n=8∨n=9∨n=10:=by omega
  rw [← hL]
  rcases h with rfl | rfl | rfl | rfl | rfl | rfl | rfl | rfl | rfl | rfl <;> decide
 unfold LvP at HLV
 rw [hL] at HLV hl
 have HLK:=hid hl
 obtain ⟨p1,hp1⟩:∃ p,decide (s=[62])=p:=⟨_,rfl⟩
 obtain ⟨p2,hp2⟩:∃ p,decide (s=[62,61])=p:=⟨_,rfl⟩
 have q1:((bs s).toList == ([62]:List UInt8))=p1:=by rw [ByteArray.toList_eq,u3g,← hp1]; rw [Bool.eq_iff_iff]; simp
 have q2:((bs s).toList == ([62,61]:List UInt8))=p2:=by rw [ByteArray.toList_eq,u3g,← hp2]; rw [Bool.eq_iff_iff]; simp
 have hturn:(s == [62] || s == [62,61])=(p1 || p2):=by rw [← hp1,← hp2]; congr 1 <;> (rw [Bool.eq_iff_iff]; simp)
 rw [hturn]
 clear hl hL hp1 hp2 hturn
 go_enter Tryz.func60,Tryz.ntmps60
 go_wp2_with fail
 refine (HLV.out _).mono ?_
 rintro e w1 ⟨g1,g2,rfl,hb1,hg1,hg1',hg2,hg2',hc⟩
 obtain ⟨_,_,_,la⟩:=u0a (q:=w.heap.size) (u0d hb1 (some (w.heap.size+10))) tLOC (by omega)
 obtain ⟨_,_,_,lb⟩:=u0a (q:=w.heap.size+1) (u0d hb1 (some (w.heap.size+10))) tLOC (by omega)
 obtain ⟨_,_,_,lr⟩:=u0a (q:=w.heap.size+1+1) (u0d hb1 (some (w.heap.size+10))) tLOC (by omega)
 have HB1:=hid (show Below w.heap.size w w1 from (show Below w.heap.size w _ from tBEL).trans (hb1.mono tSZ))
 have hz1:=hb1.size
 simp only [u0e] at hz1 hg1 hg2
 have HC:=hid hc
 clear hb1 hc
 go_wp2_with fail
 go_loop [12] (fun i=>∃ k:Nat,k≤L.length∧i=.int .i64 k∧L.lookup s=(L.drop k).lookup s) (fun i=>L.length - (intOf i).toNat)
 case atStart=>exact ⟨0,Nat.zero_le _,rfl,by simp⟩
 case round =>
  obtain ⟨k,hk,rfl,hn⟩:=hrel
  obtain ⟨x,hx,he,hne⟩:=lookup_at hn HLK.out
  obtain ⟨d1,d2⟩:=HC.out k x hx
  have hlt:=(List.getElem?_eq_some_iff.1 hx).1
  have hin:(0:Int)≤k∧(k:Int)<L.length:=⟨by omega,by omega⟩
  obtain ⟨y,hy⟩:∃ y,x.1=y:=⟨_,rfl⟩
  obtain ⟨z,hz⟩:∃ z,x.2=z:=⟨_,rfl⟩
  rw [hy] at d1 he hne
  rw [hz] at d2 he
  have HNE:=hid hne
  clear hn hne hy hz hx
  by_cases hs:y=s
  ·have hz:=he hs
   have hq:((bs y).toList == (bs s).toList)=true:=by rw [beq_bs]; simp [hs]
   clear he
   subst hs
   subst hz
   cases p1
   ·cases p2
    ·go_wp2_with fail
     go_region
     generalize hW:World.drew _=W
     have F1:W.heap[w.heap.size+1+1]? = some (Obj.cells #[.int .i64 4,.int .i64 z,.int .i32 0,.string ⟨#[]⟩,.slice (some ⟨w1.heap.size,0,none⟩) 2 2] 34 (0,0)):=by rw [← hW]; exact tRESD
     have F2:W.heap[w1.heap.size]? = some (Obj.cells #[.int .i64 ak,.int .i64 ao,.int .i32 an,.string (bs ax),.slice aA am ac,.int .i64 bk,.int .i64 bo,.int .i32 bn,.string (bs bx),.slice bA bm bc] 34 (0,0)):=by rw [← hW]; exact tRESD
     have F3:Below w.heap.size w W:=by rw [← hW]; exact HB1.out.trans tBELD
     clear hW
     go_wp2
     refine ret_xb rfl rfl rfl rfl F1 ?_
     exact ⟨w1.heap.size,F3,by omega,rfl,F2⟩
    ·go_wp2_with fail
     go_region
     generalize hW:World.drew _=W
     have F1:W.heap[w.heap.size+1+1]? = some (Obj.cells #[.int .i64 4,.int .i64 z,.int .i32 0,.string ⟨#[]⟩,.slice (some ⟨w1.heap.size,0,none⟩) 2 2] 34 (0,0)):=by rw [← hW]; exact tRESD
     have F2:W.heap[w1.heap.size]? = some (Obj.cells #[.int .i64 bk,.int .i64 bo,.int .i32 bn,.string (bs bx),.slice bA bm bc,.int .i64 ak,.int .i64 ao,.int .i32 an,.string (bs ax),.slice aA am ac] 34 (0,0)):=by rw [← hW]; exact tRESD
     have F3:Below w.heap.size w W:=by rw [← hW]; exact HB1.out.trans tBELD
     clear hW
     go_wp2
     refine ret_xb rfl rfl rfl rfl F1 ?_
     exact ⟨w1.heap.size,F3,by omega,rfl,F2⟩
   ·go_wp2_with fail
    go_region
    generalize hW:World.drew _=W
    have F1:W.heap[w.heap.size+1+1]? = some (Obj.cells #[.int .i64 4,.int .i64 z,.int .i32 0,.string ⟨#[]⟩,.slice (some ⟨w1.heap.size,0,none⟩) 2 2] 34 (0,0)):=by rw [← hW]; exact tRESD
    have F2:W.heap[w1.heap.size]? = some (Obj.cells #[.int .i64 bk,.int .i64 bo,.int .i32 bn,.string (bs bx),.slice bA bm bc,.int .i64 ak,.int .i64 ao,.int .i32 an,.string (bs ax),.slice aA am ac] 34 (0,0)):=by rw [← hW]; exact tRESD
    have F3:Below w.heap.size w W:=by rw [← hW]; exact HB1.out.trans tBELD
    clear hW
    go_wp2
    refine ret_xb rfl rfl rfl rfl F1 ?_
    exact ⟨w1.heap.size,F3,by omega,rfl,F2⟩
  ·have hq:((bs y).toList == (bs s).toList)=false:=by rw [beq_bs]; simp [hs]
   go_wp2_with fail
   go_round
   case rel=>exact ⟨k+1,by omega,by go_num,HNE.out hs⟩
   case measure=>simp [intOf]; omega
end Go.Proofs.YtbkhnilbgocpnaaGreatDoor.SynC
