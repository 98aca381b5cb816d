import Derived.Test.YtbkhnilbgocpnaaGreatDoorY0
import Derived.Test.YtbkhnilbgocpnaaGreatDoorY40
import Derived.Test.YtbkhnilbgocpnaaGreatDoorY37
import Derived.Test.YtbkhnilbgocpnaaGreatDoorY34
import Derived.Test.YtbkhnilbgocpnaaGreatDoorY22
set_option linter.unusedVariables false
set_option linter.unusedSimpArgs false
set_option maxRecDepth 100000
set_option maxHeartbeats 2000000
open Go.Lib (hid)
namespace Go.Proofs.YtbkhnilbgocpnaaGreatDoor.SynC
open Go.Proofs.YtbkhnilbgocpnaaGreatDoor.LexC
open Go Go.ChangeShapes Go.WideShapes Go.ChangeAt Go.RowKit Go.Deep
theorem prim_rest {l:List K} (ho:Other l) (h1:hit [109,105,110] l=false) (h2:hit [109,97,120] l=false) (h3:∀ k,k<4→hit (spL.getD k []) l=false) :
  PE .prim l=(u1k [40] l).bind fun _ r=>(PE (.ex 1) r).bind fun e r2=>(u1k [41] r2).bind fun _ r3=>.ok e r3:=by
 cases h0:hit [40] l
 ·rw [prim_none ho h0 h1 h2 h3]
  cases l with
  | nil=>rfl
  | cons t r=>unfold u1k need; simp only [hit] at h0; simp [h0]; rfl
 ·obtain ⟨n,r,rfl⟩:=hit_cons h0
  rw [prim_paren]
  unfold parenR
  simp only [u0x]
  rfl
theorem rprim_rest {E:Rv} (hE:E.Ok) (w:World) (i:Nat) (hL:∀ j,i<j→RxC E j false) (hp0:Rp E w i false) (t:Tok) (ht:nxt E i false=t) (hk1:(t.kind == 1)=false) (hk0:(t.kind == 0)=false∨((t.kind == 0)=true∧t.text=[])) (hm:hitB E i false [109,105,110]=false) (hx:hitB E i false [109,97,120]=false) :
  Calls Tryz.prog 147 #[.pointer (some ⟨E.b,0,none⟩)] w (Ro E w (at0 E i false (PE .prim)) (RxV w.heap.size)):=by
 have hsz:=hp0.sz
 have hlt:=hE.lt
 have hi:=hp0.hi
 have hlen:=hE.len
 have HL:=hid (rx_any hE hL)
 have HT:=hid ht
 have ho:Other (E.ks.drop i):=by
  refine nxt_other hE hi ht (by rw [hk1]; rfl) ?_
  rcases hk0 with h | ⟨h,hx⟩
  ·rw [h]; rfl
  ·rw [hx]; simp
 have HM:=hid hm
 have HX:=hid hx
 have HOT:=hid ho
 clear hm hx ho
 have hcc:(t.kind == 0)=false∨((t.kind == 0)=true∧(bs t.text).toList.isEmpty=true):=by
  rcases hk0 with h | ⟨h,hx⟩
  ·exact .inl h
  ·exact .inr ⟨h,by rw [bs_isE]; simp [hx]⟩
 obtain ⟨c0,c1,c2,_,_⟩:=(hp0.keepB hE (u0j w (.cells #[.int .i64 0,.int .i64 0,.int .i32 0,.string ⟨#[]⟩,.slice none 0 0] 34))).c
 have HP:=hid hp0
 clear hp0 ht hL hk0
 rcases hcc with hk0 | ⟨hk0,hq⟩
 all_goals
  go_enter Tryz.func147,Tryz.ntmps147
  go_wp2_with fail
  refine (rnext hE _ i false (HP.out.keep hE tBEL) t HT.out).mono ?_
  rintro e w1 ⟨rfl,hb1⟩
  have hg1:=u0d hb1 (some E.b)
  have hp1:=((HP.out.keep hE (show Below E.base w (w.alloc (.cells #[.int .i64 0,.int .i64 0,.int .i32 0,.string ⟨#[]⟩,.slice none 0 0] 34)) from tBEL)).keepB hE hb1).keepB hE (u0j w1 (.cells #[.int .i64 t.kind,.int .i64 t.pos,.string (bs t.text),.int .i32 t.num] 67))
  have hz1:=hg1.size
  (try simp only [u0e,u0h,u0m] at hz1)
  obtain ⟨_,_,_,l1'⟩:=u0a (q:=w.heap.size) hg1 tLOC tSZ
  have l1:=u0g (o:=.cells #[.int .i64 t.kind,.int .i64 t.pos,.string (bs t.text),.int .i32 t.num] 67) tSZ l1'
  go_wp2_with fail
  refine (ris hE _ i false hp1 [109,105,110] _ HM.out).mono ?_
  rintro e w2 ⟨rfl,hb2⟩
  have hg2:=u0d hb2 (some E.b)
  have hp2:=hp1.keepB hE hb2
  have hz2:=hg2.size
  obtain ⟨_,_,_,l2⟩:=u0a (q:=w.heap.size) hg2 l1 tSZ
  go_wp2_with fail
  refine (ris hE _ i false hp2 [109,97,120] _ HX.out).mono ?_
  rintro e w3 ⟨rfl,hb3⟩
  have hg3:=u0d hb3 (some E.b)
  have hp3:=hp2.keepB hE hb3
  have hz3:=hg3.size
  obtain ⟨_,_,_,l3⟩:=u0a (q:=w.heap.size) hg3 l2 tSZ
  go_wp2_with fail
  refine (u8m _).mono ?_
  rintro e w4 ⟨rfl,rfl⟩
  have HP3:=hid (hp3.keepB hE (u0j w3 (.cells #[.string (bs [116,105,100]),.string (bs [98,105,100]),.string (bs [100,105,109]),.string (bs [103,114,105,100])] 9)))
  have HG3:=hid (show w.grownBy (w3.alloc (.cells #[.string (bs [116,105,100]),.string (bs [98,105,100]),.string (bs [100,105,109]),.string (bs [103,114,105,100])] 9)) (some E.b) from tGB)
  have l4:=u0g (o:=.cells #[.string (bs [116,105,100]),.string (bs [98,105,100]),.string (bs [100,105,109]),.string (bs [103,114,105,100])] 9) tSZ l3
  have s4:=u0c w3 (.cells #[.string (bs [116,105,100]),.string (bs [98,105,100]),.string (bs [100,105,109]),.string (bs [103,114,105,100])] 9)
  have hz4:(w3.alloc (.cells #[.string (bs [116,105,100]),.string (bs [98,105,100]),.string (bs [100,105,109]),.string (bs [103,114,105,100])] 9)).heap.size=w3.heap.size+1:=u0e _ _
  have HL4:=hid l4
  have HS4:=hid s4
  clear l4 s4 hg1 hg2 hg3 hp1 hp2 hp3 l1 l1' l2 l3 hb1 hb2 hb3 c0 c1 c2
  go_wp2_with fail
  go_loopw [8] (fun n wr=>∃ k:Nat,k≤4∧n=.int .i64 k∧(∀ m,m<k→hitB E i false (spL.getD m [])=false)∧w.grownBy wr (some E.b)∧Rp E wr i false∧wr.heap[w.heap.size]? = some (.cells #[.int .i64 0,.int .i64 0,.int .i32 0,.string ⟨#[]⟩,.slice none 0 0] 34 (0,0))∧wr.heap[w3.heap.size]? = some (.cells #[.string (bs [116,105,100]),.string (bs [98,105,100]),.string (bs [100,105,109]),.string (bs [103,114,105,100])] 9 (0,0))) (fun n _=>4 - (intOf n).toNat)
  case atStart=>exact ⟨0,Nat.zero_le _,rfl,fun m hm=>absurd hm (Nat.not_lt_zero m),HG3.out,HP3.out,HL4.out,HS4.out⟩
  case round =>
   obtain ⟨k,hk,rfl,hno,hgr,hp,hq,hs⟩:=hrel
   have HK:=hid hno
   have hz0:=hgr.size
   have HPR:=hid hp
   clear hno hp
   by_cases hlt4:k<4
   ·obtain ⟨g,hg⟩:∃ g,spL.getD k []=g:=⟨_,rfl⟩
    have HG:=hid hg
    have hin:(0:Int)≤k∧(k:Int)<4:=⟨by omega,by omega⟩
    have dk:wr.cell? ⟨w3.heap.size,k,none⟩=some (.string (bs g)):=by
     rw [cell_of_row _ _ k _ _ _ hs,← hg]
     have:k=0∨k=1∨k=2∨k=3:=by omega
     rcases this with rfl | rfl | rfl | rfl <;> rfl
    clear hg
    go_wp2_with fail
    refine (reat hE _ i false HPR.out g).mono ?_
    rintro e y1 ⟨gy1,⟨hh,rfl,py1⟩ | ⟨hh,rfl,py1⟩⟩
    all_goals (have HH:=hid hh; clear hh; have zy1:=gy1.size; obtain ⟨_,_,_,ly1⟩:=u0a (q:=w.heap.size) gy1 hq (by omega); obtain ⟨_,_,_,sy1⟩:=u0a (q:=w3.heap.size) gy1 hs (by omega))
    ·obtain ⟨_,h1,_⟩:=u2n HH.out
     rw [← HG.out] at h1
     obtain ⟨nn,hd⟩:=u6p hi h1
     have HR:=hid (show PE .prim (E.ks.drop i)=.ok (.mk 2 k 0 [] []) (E.ks.drop (i+1)) by rw [hd]; exact prim_sp k hlt4)
     clear hd h1
     go_wp2
     refine u3c rfl rfl rfl tRES ?_
     exact ⟨tGB,false,i+1,_,.mk 2 k 0 [] [],by rw [u0l,HR.out]; rfl,py1.keep hE tBEL,rfl,u8p (name:=[]) u5p⟩
    ·go_wp2
     go_roundw
     case rel=>exact ⟨k+1,by omega,by go_num,fun m hm=>(by
      by_cases e:m=k
      ·rw [e,HG.out]; exact HH.out
      ·exact HK.out m (by omega)),tGB,py1,ly1,sy1⟩
     case measure=>simp [intOf]; omega
   ·have HR0:=hid (prim_rest HOT.out (by have:=HM.out; simpa [hitB] using this) (by have:=HX.out; simpa [hitB] using this) (fun m hm=>by have:=HK.out m (by omega); simpa [hitB] using this))
    go_wp2_with fail
    refine (rneed hE _ i false HPR.out [40]).mono ?_
    rintro e x1 ⟨gg1,d1,k1,v1,u1,hR,pp1,rfl,rfl⟩
    have S1:=hid hR
    clear hR
    have zz1:=gg1.size
    obtain ⟨_,_,_,y1⟩:=u0a (q:=w.heap.size) gg1 hq tSZ
    go_wp2_with fail
    refine (HL.out k1 d1 (fun h=>by have:=rS_adv pp1.hi S1.out h; omega) 1 _ (by decide) (by decide) pp1).mono ?_
    rintro e x2 ⟨gg2,d2,k2,v2,a2,hR,pp2,rfl,⟨ak,ao,an,ax,aA,am,ac,rfl,ha2⟩⟩
    have S2:=hid hR
    clear hR
    have zz2:=gg2.size
    obtain ⟨_,_,_,y2⟩:=u0a (q:=w.heap.size) gg2 y1 tSZ
    go_wp2_with fail
    refine (rneed hE _ k2 d2 (pp2.keep hE tBEL) [41]).mono ?_
    rintro e x3 ⟨gg3,d3,k3,v3,u3,hR,pp3,rfl,rfl⟩
    have S3:=hid hR
    clear hR
    have zz3:=gg3.size
    (try simp only [u0e,u0h,u0m] at zz3)
    obtain ⟨_,_,_,y3⟩:=u0a (q:=w.heap.size) gg3 tLOC tSZ
    obtain ⟨_,_,_,t3⟩:=u0a (q:=x2.heap.size) gg3 tLOC tSZ
    go_wp2
    refine u3c rfl rfl rfl tRES ?_
    refine ⟨tGB,d3,k3,_,a2,?_,pp3.keep hE tBEL,rfl,⟨ak,ao,an,ax,aA,am,ac,rfl,u1s ha2 tKP tSZ tSZ⟩⟩
    rw [u0l,HR0.out,← u0l (E:=E) (f:=fun l=>(u1k [40] l).bind fun _ r=>(PE (.ex 1) r).bind fun e r2=>(u1k [41] r2).bind fun _ r3=>.ok e r3)]
    rw [u1y S1.out,u1i S2.out,u1i S3.out]
    exact u3j fun _=>a2
theorem rprimary {E:Rv} (hE:E.Ok) (i:Nat) (hL:∀ j,i<j→RxC E j false):RpC E i false:=by
 intro w hp
 obtain ⟨t,ht⟩:∃ t,nxt E i false=t:=⟨_,rfl⟩
 cases hk1:(t.kind == 1)
 ·by_cases hN:(t.kind == 0)=true∧t.text≠[]
  ·exact rprim_name hE w i hL hp t ht hN.1 hN.2
  ·have hk0:(t.kind == 0)=false∨((t.kind == 0)=true∧t.text=[]):=by
    cases h:(t.kind == 0)
    ·exact .inl rfl
    ·exact .inr ⟨rfl,by
      by_cases hx:t.text=[]
      ·exact hx
      ·exact absurd ⟨h,hx⟩ hN⟩
   cases hm:hitB E i false [109,105,110]
   ·cases hx:hitB E i false [109,97,120]
    ·exact rprim_rest hE w i hL hp t ht hk1 hk0 hm hx
    ·exact rprim_max hE w i hL hp t ht hk1 hk0 hx
   ·exact rprim_min hE w i hL hp t ht hk1 hk0 hm
 ·exact rprim_int hE w i hp t ht hk1
theorem rlevels {E:Rv} (hE:E.Ok) (i:Nat) (hU:RuC E i false) (hL:∀ j,i<j→RxC E j false):∀ d n:Nat,n+d=11→1≤n→∀ w,Rp E w i false→Calls Tryz.prog 49 #[.pointer (some ⟨E.b,0,none⟩),.int .i64 n] w (Ro E w (at0 E i false (PE (.ex n))) (RxV w.heap.size))
 | 0,n,h,h1,w,hp=>by
  have:n=11:=by omega
  subst this
  exact rexpr_11 hE i hU w hp
 | d+1,n,h,h1,w,hp=>by
  refine rexpr_lv hE n h1 (by omega) w i (fun j hj w' hp'=>?_) hp
  by_cases e:i=j
  ·subst e
   have:=rlevels hE i hU hL d (n+1) (by omega) (by omega) w' hp'
   rwa [show (((n+1:Nat)):Int)=(n:Int)+1 by omega] at this
  ·have:=hL j (by omega) (n+1) w' (by omega) (by omega) hp'
   rwa [show (((n+1:Nat)):Int)=(n:Int)+1 by omega] at this
theorem rrules {E:Rv} (hE:E.Ok):∀ (m i:Nat),E.L.length - i<m→RxC E i false∧RuC E i false
 | 0,_,h=>absurd h (Nat.not_lt_zero _)
 | m+1,i,h=>by
  have up:∀ j,i<j→RxC E j false∧RuC E j false:=fun j hj=>by
   by_cases hl:i<E.L.length
   ·exact rrules hE m j (by omega)
   ·exact ⟨fun n w _ _ hp=>absurd hp.hi (by omega),fun w hp=>absurd hp.hi (by omega)⟩
  have hu:RuC E i false:=fun w hp=>runary hE w i false (fun j hj=>(up j hj).2) (rprimary hE i fun j hj=>(up j hj).1) hp
  exact ⟨fun n w h1 h2 hp=>rlevels hE i hu (fun j hj=>(up j hj).1) (11 - n) n (by omega) h1 w hp,hu⟩
theorem rx_all {E:Rv} (hE:E.Ok) (i:Nat) (b:Bool):RxC E i b:=by
 cases b
 ·exact (rrules hE _ i (Nat.lt_succ_self _)).1
 ·exact rexpr_bad hE i
def posR (L:List Tok) (n j:Nat):Int:=match L[j]? with
 | some t=>t.pos
 | none=>n
theorem posR_at {L:List Tok} {n j:Nat} (hj:j≤L.length) (r:List K) (hr:r.length=L.length - j):posAt L n r=posR L n j:=by
 unfold posAt posR
 rw [hr,show L.length - (L.length - j)=j by omega,List.getD_eq_getElem?_getD]
 by_cases h:j<L.length
 ·rw [List.getElem?_append_left h,List.getElem?_eq_getElem h]; rfl
 ·have:j=L.length:=by omega
  subst this
  rw [List.getElem?_append_right (Nat.le_refl _),Nat.sub_self,List.getElem?_eq_none (Nat.le_refl _)]; rfl
theorem rwhere {E:Rv} (hE:E.Ok) (w:World) (j:Nat) (b:Bool) (h:Rp E w j b) (s:ByteArray) (hs:s.size≤maxLen) :
  Calls Tryz.prog 43 #[.pointer (some ⟨E.b,0,none⟩),.string s] w fun e w'=>e=.returned (.int .i64 (posR E.L s.size j))∧Below w.heap.size w w':=by
 unfold maxLen at hs
 obtain ⟨c0,c1,c2,_,_⟩:=h.c
 have hlen:=hE.len
 have hj:=h.hi
 by_cases hl:j<E.L.length
 ·obtain ⟨t,ht⟩:∃ t,E.L[j]? = some t:=⟨_,List.getElem?_eq_getElem hl⟩
  obtain ⟨k0,k1,k2,k3⟩:=h.tok ht
  have hA:=hE.A (by intro e; rw [e] at ht; simp at ht)
  rw [hA] at c0
  have hR:posR E.L s.size j=t.pos:=by unfold posR; rw [ht]
  rw [hR]
  have hx:(0:Int)≤j∧(j:Int)<E.L.length:=⟨by omega,by omega⟩
  clear h ht hA hR
  go_enter Tryz.func43,Tryz.ntmps43
  go_wp2
  go_quiet (fail)
  go_wp2
  go_quiet (fail)
  go_wp2
  go_ret
  exact ⟨rfl,tBELD⟩
 ·have hR:posR E.L s.size j=s.size:=by unfold posR; rw [List.getElem?_eq_none (by omega)]
  rw [hR]
  have hd:decide ((j:Int)<E.L.length)=false:=by simp; omega
  have hx:¬ (j:Int)<E.L.length:=by omega
  clear h hR
  go_enter Tryz.func43,Tryz.ntmps43
  go_wp2
  go_quiet (fail)
  go_wp2
  go_ret
  exact ⟨rfl,tBELD⟩
theorem one_any:OneAny:=by
 intro s hs i hi w
 cases hl:letN (s[i].toNat:Int)
 ·cases hd:digN (s[i].toNat:Int)
  ·exact one_sign s hs i hi hl hd w
  ·exact one_int s hs i hi hl hd w
 ·exact one_word s hs i hi hl w
theorem own_tok {w:World} {B:Nat} {v:Value} {L:List Tok} (h:OwnT w B v L):∃ (A:Option Addr) (c x:Nat),v=.slice A L.length c∧(L≠[]→A=some ⟨x,0,none⟩)∧(x<w.heap.size∨x=0)∧∀ j u,(u5f L)[j]? = some u→w.cell? ⟨x,j,none⟩=some u:=by
 rcases h.2 with ⟨hv,hn⟩ | ⟨g,cap,cur,hv,hb,hgg,_⟩
 ·have:L=[]:=List.eq_nil_of_length_eq_zero hn
  subst this
  exact ⟨none,0,0,hv,fun h=>absurd rfl h,.inr rfl,fun j u hu=>by simp [u5f] at hu⟩
 ·refine ⟨some ⟨g,0,none⟩,cap,g,hv,fun _=>rfl,.inl (Array.getElem?_eq_some_iff.1 hgg).1,fun j u hu=>?_⟩
  have:=World.ownsRow.cells h (g:=g) (by rw [hv]; rfl) j u hu
  have e:(⟨g,0,none⟩:Addr).add j=⟨g,j,none⟩:=by unfold Addr.add; split <;> simp_all
  rwa [e] at this
end Go.Proofs.YtbkhnilbgocpnaaGreatDoor.SynC
