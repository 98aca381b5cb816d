import Derived.Deep.RegionHeld3
import Derived.Handy
import Derived.BigQuiet
import Derived.Test.YtbkhnilbgocpnaaGreatDoorY22
import Derived.Test.YtbkhnilbgocpnaaGreatDoorY0
import Derived.Test.YtbkhnilbgocpnaaGreatDoorY29
import Derived.Test.YtbkhnilbgocpnaaGreatDoorY1
import Derived.Test.YtbkhnilbgocpnaaGreatDoorY14
set_option linter.unusedVariables false
set_option linter.unusedSimpArgs false
set_option maxRecDepth 100000
set_option maxHeartbeats 2000000
open Go.Lib (hid)
namespace Go.Proofs.YtbkhnilbgocpnaaGreatDoor.SynC
open Go.Proofs.YtbkhnilbgocpnaaGreatDoor.LexC
open Go Go.ChangeShapes Go.WideShapes Go.ChangeAt Go.RowKit Go.Deep
theorem add_bs2 (a b:List UInt8) (h:a.length+b.length≤100000):∀ w:World,(Op.stringOp .add (bs a) (bs b)).run Tryz.prog w=.ok (.string (bs (a++b))) w:=fun w=>by
 rw [run_string_add_sum w _ _ (by rw [u3t,u3t]; omega),bs_append]
theorem digits_low (n:Nat) (hn:n<10) (w:World):Calls Tryz.prog 163 #[.int .i64 n] w fun e w'=>e=.returned (.string (bs (digL n)))∧Below w.heap.size w w':=by
 have hd:digL n=[UInt8.ofNat (48+n)]:=by rw [digL,dif_pos hn]
 have hcv:(convert 47 9 (.slice (some ⟨w.heap.size,0,none⟩) 1 1)).run Tryz.prog (w.alloc (.cells #[.int .u8 (48+(n:Int))] 5))=.ok (.string (bs [UInt8.ofNat (48+n)])) (w.alloc (.cells #[.int .u8 (48+(n:Int))] 5)):=by
  have h:=run_convert_bytes_back (P:=Tryz.prog) (w.alloc (.cells #[.int .u8 (48+(n:Int))] 5)) 47 9 5 ⟨w.heap.size,0,none⟩ 1 [UInt8.ofNat (48+n)] Tryz.underlying47 Tryz.underlying5 Tryz.underlying9 (fun j hj=>by
   have:j=0:=by simp at hj; omega
   subst this
   show World.cell? _ ⟨w.heap.size,0,none⟩=_
   rw [cell_of_row _ _ 0 _ _ _ (u0c _ _)]
   have e:=dig_byte hn
   simp only [List.getElem_cons_zero,e]
   simp)
  exact h
 rw [hd]
 obtain ⟨S,hS⟩:∃ S,bs [UInt8.ofNat (48+n)]=S:=⟨_,rfl⟩
 rw [hS] at hcv ⊢
 clear hd hS
 go_enter Tryz.func163,Tryz.ntmps163
 go_wp2
 go_ret
 exact ⟨rfl,u0j _ _⟩
theorem digits_any (n:Nat):n≤4294967296→∀ w:World,Calls Tryz.prog 163 #[.int .i64 n] w fun e w'=>e=.returned (.string (bs (digL n)))∧Below w.heap.size w w':=by
 induction n using Nat.strongRecOn with
 | ind n ih =>
  intro hn w
  by_cases h:n<10
  ·exact digits_low n h w
  have h1:Int.tdiv (n:Int) 10=((n / 10:Nat):Int):=by rw [Int.tdiv_eq_ediv_of_nonneg (by omega)]; omega
  have h2:Int.tmod (n:Int) 10=((n % 10:Nat):Int):=by rw [Int.tmod_eq_emod_of_nonneg (by omega)]; omega
  have HA:=hid (ih (n / 10) (by omega) (by omega))
  have HB:=hid (digits_low (n % 10) (by omega))
  have hl:=digL_len 10 (n / 10) (by omega)
  have hd:digL n=digL (n / 10)++digL (n % 10):=by rw [digL,dif_neg h]; rw [digL.eq_def (n % 10),dif_pos (by omega)]
  have hl2:(digL (n % 10)).length≤11:=digL_len 10 _ (by omega)
  rw [hd]
  have hadd:=add_bs2 (digL (n / 10)) (digL (n % 10)) (by omega)
  clear hd ih
  go_enter Tryz.func163,Tryz.ntmps163
  go_wp2_with fail
  refine (HA.out _).mono ?_
  rintro e w1 ⟨rfl,hb1⟩
  have HB1:=hid hb1
  clear hb1
  go_wp2_with fail
  refine (HB.out _).mono ?_
  rintro e w2 ⟨rfl,hb2⟩
  have HB2:=hid (seq HB1.out hb2)
  clear hb2
  go_wp2
  go_ret
  exact ⟨rfl,HB2.out⟩
theorem whole_110 (n:Int) (hn:-2147483648≤n∧n≤2147483647) (w:World):Calls Tryz.prog 110 #[.int .i32 n] w fun e w'=>e=.returned (.string (bs (dgL n)))∧Below w.heap.size w w':=by
 have HA:=hid (digits_any n.natAbs (by omega))
 unfold dgL
 by_cases h:n<0
 ·have e:(n.natAbs:Int) = -n:=by omega
  rw [e] at HA
  go_enter Tryz.func110,Tryz.ntmps110
  go_wp2_with fail
  refine (HA.out _).mono ?_
  rintro e w1 ⟨rfl,hb1⟩
  have HB1:=hid hb1
  clear hb1
  go_wp2
  go_ret
  exact ⟨rfl,HB1.out⟩
 ·have e:(n.natAbs:Int)=n:=by omega
  rw [e] at HA
  go_enter Tryz.func110,Tryz.ntmps110
  go_wp2_with fail
  refine (HA.out _).mono ?_
  rintro e w1 ⟨rfl,hb1⟩
  have HB1:=hid hb1
  clear hb1
  go_wp2
  go_ret
  exact ⟨rfl,HB1.out⟩
theorem unText_112 (op:Int) (h0:0≤op) (h1:op<3) (w:World):Calls Tryz.prog 112 #[.int .i64 op] w fun e w'=>e=.returned (.string (bs (u7y op)))∧Below w.heap.size w w':=by
 have HU:=hid (ref_un op)
 rw [show decide (0≤op∧op<3)=true by simp; omega] at HU
 have h:op=0∨op=1∨op=2:=by omega
 rcases h with rfl | rfl | rfl
 all_goals
  go_enter Tryz.func112,Tryz.ntmps112
  go_wp2_with fail
  refine (HU.out _).mono ?_
  rintro e w1 ⟨rfl,rfl⟩
  go_wp2
  go_ret
  exact ⟨rfl,u0j _ _⟩
theorem opText_113 (op:Int) (h0:0≤op) (h1:op<20) (w:World):Calls Tryz.prog 113 #[.int .i64 op] w fun e w'=>e=.returned (.string (bs (u5h op)))∧Below w.heap.size w w':=by
 have HU:=hid (ref_bin op)
 rw [show decide (0≤op∧op<20)=true by simp; omega] at HU
 have h:op=0∨op=1∨op=2∨op=3∨op=4∨op=5∨op=6∨op=7∨op=8∨op=9∨op=10∨op=11∨op=12∨op=13∨op=14∨op=15∨op=16∨op=17∨op=18∨op=19:=by omega
 rcases h with rfl | rfl | rfl | rfl | rfl | rfl | rfl | rfl | rfl | rfl | rfl | rfl | rfl | rfl | rfl | rfl | rfl | rfl | rfl | rfl
 all_goals
  go_enter Tryz.func113,Tryz.ntmps113
  go_wp2_with fail
  refine (HU.out _).mono ?_
  rintro e w1 ⟨rfl,rfl⟩
  go_wp2
  go_ret
  exact ⟨rfl,u0j _ _⟩
theorem u8m (w:World):Calls Tryz.prog 111 #[] w fun e w'=>e=.returned (.slice (some ⟨w.heap.size,0,none⟩) 4 4)∧w'=w.alloc (.cells #[.string (bs [116,105,100]),.string (bs [98,105,100]),.string (bs [100,105,109]),.string (bs [103,114,105,100])] 9):=by
 go_enter Tryz.func111,Tryz.ntmps111
 go_wp2
 go_ret
 first | exact ⟨rfl,rfl⟩
def sv (t:List UInt8):Value:=.string (bs t)
def OwnS (w:World) (base:Nat) (v:Value) (L:List (List UInt8)):Prop:=w.ownsRow base 9 1 v L.length (L.map sv)
theorem OwnS.nil (w:World) (base:Nat):OwnS w base (.slice none 0 0) []:=⟨rfl,.inl ⟨rfl,rfl⟩⟩
theorem OwnS.below {w w':World} {base:Nat} {v:Value} {L:List (List UInt8)} (h:OwnS w base v L) (hb:Below w.heap.size w w'):OwnS w' base v L:=by
 refine ⟨h.1,?_⟩
 rcases h.2 with hv | ⟨g,cap,cur,hv,h1,h2,h3⟩
 ·exact .inl hv
 ·exact .inr ⟨g,cap,cur,hv,h1,(hb.block g (Array.getElem?_eq_some_iff.1 h2).1).trans h2,h3⟩
theorem u2q {ops:Array Oper} {rest:List Oper} {o:Oper} {a:Act} {W:World} {Q:Exit→Act→World→Prop} (hgd:o.guard=none) (s x:Operand)
  (ho:o.op=.call { callee:=.builtin .append,args:=#[s,x],argTypes:=#[68,68] }) (base:Nat) (v:Value) (L:List (List UInt8)) (t:List UInt8)
  (hs:a.eval s=v) (hown:OwnS W base v L) (g:Nat) (hg:g=W.heap.size) (hx:a.eval x=.slice (some ⟨g,0,none⟩) 1 1) (hl:L.length≤1000000) (hbase:base≤W.heap.size)
  (h:∀ v' w',OwnS w' base v' (L++[t])→Below base W w'→wpList Tryz.prog ops Q rest (a.put o.dst v') w') :
  wpList Tryz.prog ops Q (o :: rest) a (W.alloc (.cells #[.string (bs t)] 9)):=by
 subst hg
 obtain ⟨i,hi,hz,hs1,hb⟩:=info_parts info9
 have hown':(W.alloc (.cells #[.string (bs t)] 9)).ownsRow base 9 1 v L.length (L.map sv) :=
  hown.below ((Below.refl _ _).alloc (Nat.le_refl _) _)
 refine wpList_append_own _ hgd s x 68 ho base 9 i _ 1 16 Tryz.underlying68 hi hz hs1 hb rfl (by decide) v L.length (L.map sv) hs hown' ⟨W.heap.size,0,none⟩ 1 1 [.string (bs t)] hx rfl ?_ (fun u hu=>by simp at hu; subst hu; rfl) (by unfold maxLen; omega) (by omega) (by simp; omega) ?_
 ·intro j u hu
  have hadd:(⟨W.heap.size,0,none⟩:Addr).add j=⟨W.heap.size,j,none⟩:=by unfold Addr.add; split <;> simp_all
  rw [hadd,cell_of_row _ _ j #[.string (bs t)] 9 (0,0) (by show (W.heap.push _)[W.heap.size]? = _; simp)]
  rw [← hu]
  simp
 ·intro v' w' h1 h2 _
  have e:L.map sv++[.string (bs t)]=(L++[t]).map sv:=by simp [sv]
  rw [e] at h1
  have hall:W.grownBy w' v.ownBlock:=(World.grownBy_alloc _ _ _).trans h2
  refine h v' w' ?_ ((Below.refl base W).grown hall hbase (fun k hk=>((World.ownsRow.lt hown) k hk).1))
  unfold OwnS
  rw [List.length_append]
  exact h1
theorem OwnS.open_ {w:World} {base:Nat} {v:Value} {L:List (List UInt8)} (h:OwnS w base v L):∃ A c,v=.slice A L.length c∧∀ i t,L[i]? = some t→∃ g,A=some ⟨g,0,none⟩∧base≤g∧g<w.heap.size∧w.cell? ⟨g,i,none⟩=some (.string (bs t)):=by
 obtain ⟨h0,h1⟩:=h
 rcases h1 with ⟨hv,hl⟩ | ⟨g,cap,cur,hv,hb,hq,hn,_,hsz,ht⟩
 ·exact ⟨none,0,by rw [hv,hl],fun i t hi=>by
   have:=(List.getElem?_eq_some_iff.1 hi).1
   omega⟩
 ·refine ⟨some ⟨g,0,none⟩,cap,hv,fun i t hi=>⟨g,rfl,hb,(Array.getElem?_eq_some_iff.1 hq).1,?_⟩⟩
  rw [cell_of_row _ _ i _ _ _ hq]
  have hi':(L.map sv)[i]? = some (sv t):=by simp [hi]
  have hlt:=(List.getElem?_eq_some_iff.1 hi).1
  rw [← ht,List.getElem?_take,if_pos (by omega),Array.getElem?_toList] at hi'
  exact hi'
theorem u3m (a b:List UInt8) (h:a.length+b.length≤10000000):∀ w:World,(Op.stringOp .add (bs a) (bs b)).run Tryz.prog w=.ok (.string (bs (a++b))) w:=fun w=>by
 rw [run_string_add_sum w _ _ (by rw [u3t,u3t]; omega),bs_append]
theorem u1z (a b:List UInt8) (s:ByteArray) (hs:bs b=s) (h:a.length+b.length≤10000000):∀ w:World,(Op.stringOp .add (bs a) s).run Tryz.prog w=.ok (.string (bs (a++b))) w:=hs ▸ u3m a b h
theorem add_r3 (a b:List UInt8) (s:ByteArray) (hs:bs a=s) (h:a.length+b.length≤10000000):∀ w:World,(Op.stringOp .add s (bs b)).run Tryz.prog w=.ok (.string (bs (a++b))) w:=hs ▸ u3m a b h
theorem commasL_take {L:List (List UInt8)} {k:Nat} {t:List UInt8} (h:L[k]? = some t):u1c (L.take (k+1))=(if 0<k then u1c (L.take k)++[32,44] else [])++32 :: t:=by
 cases L with
 | nil=>simp at h
 | cons a r =>
  cases k with
  | zero=>simp at h; subst h; simp [u1c]
  | succ k =>
   have hr:r[k]? = some t:=by simpa using h
   have e:r.take (k+1)=r.take k++[t]:=by rw [List.take_add_one,hr]; rfl
   rw [List.take_succ_cons,List.take_succ_cons,u1c,u1c,if_pos (by omega),e,List.flatMap_append]
   simp
theorem commasL_le {L:List (List UInt8)} (k:Nat):(u1c (L.take k)).length≤(u1c L).length:=by
 cases L with
 | nil=>simp
 | cons a r =>
  cases k with
  | zero=>simp [u1c]
  | succ k =>
   rw [List.take_succ_cons,u1c,u1c]
   have h:((r.take k).flatMap fun u=>(32:UInt8) :: 44 :: 32 :: u).length≤(r.flatMap fun u=>(32:UInt8) :: 44 :: 32 :: u).length:=by
    conv=>rhs; rw [← List.take_append_drop k r,List.flatMap_append,List.length_append]
    omega
   simp only [List.length_cons,List.length_append]
   omega
theorem commas_103 (L:List (List UInt8)) (hL:(u1c L).length≤1000000) (hn:L.length≤1000000) (w:World) (base:Nat) (v:Value) (hv:OwnS w base v L) :
  Calls Tryz.prog 103 #[v] w fun e w'=>e=.returned (.string (bs (u1c L)))∧Below w.heap.size w w':=by
 obtain ⟨A,c,rfl,hat⟩:=hv.open_
 have HA:=hid hat
 clear hat hv
 go_enter Tryz.func103,Tryz.ntmps103
 go_wp2_with fail
 go_loopw [3,4] (fun s i wr=>∃ (k:Nat),k≤L.length∧i=.int .i64 k∧s=.string (bs (u1c (L.take k)))∧Below w.heap.size w wr) (fun _ i _=>L.length - (intOf i).toNat)
 case atStart=>exact ⟨0,Nat.zero_le _,rfl,rfl,Below.refl _ _⟩
 case round =>
  obtain ⟨k,hk,rfl,rfl,hbr⟩:=hrel
  obtain ⟨wo,rfl⟩:∃ z,z=wr:=⟨_,rfl⟩
  have HBR:=hid hbr
  by_cases hlt:k<L.length
  ·obtain ⟨t,ht⟩:∃ t,L[k]? = some t:=⟨L[k],List.getElem?_eq_getElem hlt⟩
   obtain ⟨g,rfl,_,hg,hc⟩:=HA.out k t ht
   have d0:wo.cell? ⟨g,k,none⟩=some (.string (bs t)):=(hbr.cell hg).trans hc
   have hin:(0:Int)≤k∧(k:Int)<L.length:=⟨by omega,by omega⟩
   have hT:=commasL_take ht
   have hle:=commasL_le (L:=L) (k+1)
   by_cases h0:0<k
   ·rw [if_pos h0] at hT
    have hle2:=hle
    rw [hT] at hle2
    simp only [List.length_append,List.length_cons,List.length_nil] at hle2
    have a1:=u1z (u1c (L.take k)) [32,44] ⟨#[32,44]⟩ rfl (by simp; omega)
    have a2:=u1z (u1c (L.take k)++[32,44]) [32] ⟨#[32]⟩ rfl (by simp; omega)
    have a3:=u3m (u1c (L.take k)++[32,44]++[32]) t (by simp; omega)
    have hT:u1c (L.take (k+1))=u1c (L.take k)++[32,44]++[32]++t:=by rw [hT]; simp
    obtain ⟨P0,hP0⟩:∃ P,u1c (L.take k)=P:=⟨_,rfl⟩
    rw [hP0] at a1 a2 a3 hT ⊢
    obtain ⟨P1,hP1⟩:∃ P,P0++[32,44]=P:=⟨_,rfl⟩
    rw [hP1] at a1 a2 a3 hT
    obtain ⟨P2,hP2⟩:∃ P,P1++[32]=P:=⟨_,rfl⟩
    rw [hP2] at a2 a3 hT
    obtain ⟨P3,hP3⟩:∃ P,P2++t=P:=⟨_,rfl⟩
    rw [hP3] at a3 hT
    have HT:=hid hT
    clear hbr hc ht hT hle hle2 hP0 hP1 hP2 hP3
    go_wp2
    go_roundw
    case rel=>exact ⟨k+1,by omega,by go_num,by rw [HT.out],HBR.out⟩
    case measure=>simp [intOf]; omega
   ·have hk0:k=0:=by omega
    subst hk0
    rw [if_neg h0] at hT
    have hle2:=hle
    rw [hT] at hle2
    simp only [List.length_append,List.length_cons,List.length_nil] at hle2
    have e0:u1c (L.take 0)=[]:=by simp [u1c]
    have a2:=u1z [] [32] ⟨#[32]⟩ rfl (by simp)
    have a3:=u3m [32] t (by simp; omega)
    have hT:u1c (L.take (0+1))=[32]++t:=by rw [hT]; simp
    have e1:([]:List UInt8)++[32]=[32]:=rfl
    rw [e1] at a2
    obtain ⟨E0,hE0⟩:∃ P,bs []=P:=⟨_,rfl⟩
    obtain ⟨P2,hP2⟩:∃ P,bs [32]=P:=⟨_,rfl⟩
    obtain ⟨P3,hP3⟩:∃ P,[32]++t=P:=⟨_,rfl⟩
    rw [e0]
    rw [hP2] at a2 a3
    rw [hP3] at a3 hT
    rw [hE0] at a2 ⊢
    have HT:=hid hT
    clear hbr hc ht hT hle hle2 e0 e1 hP2 hP3 hE0
    go_wp2
    go_roundw
    case rel=>exact ⟨1,by omega,by go_num,by rw [HT.out],HBR.out⟩
    case measure=>simp [intOf]; omega
  ·have ht:L.take k=L:=List.take_of_length_le (by omega)
   rw [ht]
   clear hbr
   go_wp2
   go_ret
   exact ⟨rfl,HBR.out⟩
def GT (e:Ex):Prop:=∀ (w:World) (bk bo bn:Int) (bx:List UInt8) (bA:Option Addr) (bm bc:Nat),okE u0f e=true→(gE e).length≤1000000→RE w (fun g=>g<w.heap.size) [.int .i64 bk,.int .i64 bo,.int .i32 bn,.string (bs bx),.slice bA bm bc] e→rgE e →
 Calls Tryz.prog 58 #[.agg #[.int .i64 bk,.int .i64 bo,.int .i32 bn,.string (bs bx),.slice bA bm bc]] w fun e' w'=>e'=.returned (.string (bs (gE e)))∧Below w.heap.size w w'
theorem commasL_mem {L:List (List UInt8)} {t:List UInt8} (h:t∈L):t.length≤(u1c L).length:=by
 obtain ⟨k,hk,he⟩:=List.getElem_of_mem h
 have h1:=commasL_take (show L[k]? = some t by rw [List.getElem?_eq_getElem hk,he])
 have h2:=commasL_le (L:=L) (k+1)
 rw [h1] at h2
 simp only [List.length_append,List.length_cons] at h2
 omega
theorem kid_len {nm:List UInt8→Bool} {kind op num:Int} {x:List UInt8} {L:List (List UInt8)} (h:u1h nm kind op num x L.length=true):∀ t∈L,t.length≤(u9e kind op num x L).length:=by
 intro t ht
 have h6:=commasL_mem ht
 have one:L.length=1→t=L.getD 0 []:=fun hl=>by
  match L,hl with
  | [a],_=>simpa using ht
 have two:L.length=2→t=L.getD 0 []∨t=L.getD 1 []:=fun hl=>by
  match L,hl with
  | [a,b],_=>simpa using ht
 have hne:L.length≠0:=fun h0=>by
  have:=List.eq_nil_of_length_eq_zero h0
  subst this; cases ht
 unfold u1h at h
 unfold u9e
 repeat' split at h
 all_goals (try (cases h; done))
 all_goals (simp only [Bool.and_eq_true,beq_iff_eq,decide_eq_true_eq] at h)
 all_goals (try (exact absurd h.2 hne))
 ·rename_i h0 h1 h2 h3
  rw [if_neg h0,if_neg h2,if_pos h3,one h.2]
  simp only [List.length_append,List.length_cons]; omega
 ·rename_i h0 h1 h2 h3 h4
  rw [if_neg h0,if_neg h2,if_neg h3,if_pos h4]
  split
  ·simp only [List.length_append,List.length_cons]; omega
  ·rcases two h.2 with e | e <;> rw [e] <;> simp only [List.length_append,List.length_cons] <;> omega
 ·rename_i h0 h1 h2 h3 h4 h5
  rw [if_neg h0,if_neg h2,if_neg h3,if_neg h4,if_pos h5,one h.2]
  simp only [List.length_append,List.length_cons]; omega
 ·rename_i h0 h1 h2 h3 h4 h5 h6'
  rw [if_neg h0,if_neg h2,if_neg h3,if_neg h4,if_neg h5,if_pos h6']
  simp only [List.length_append,List.length_cons]; omega
theorem gt_loop (kind op num:Int) (name:List UInt8) (kids:List Ex) (hK:∀ a∈kids,GT a) (w:World) (A:Option Addr) (c:Nat) (hok:okEs u0f kids=true) (hsh:u1h u0f kind op num name kids.length=true)
  (hlen:(u9e kind op num name (kids.map gE)).length≤1000000) (hs:SlE w (fun g=>g<w.heap.size) (.slice A kids.length c) kids) (hg:rgEs kids) (hn:-2147483648≤num∧num≤2147483647) (h456:kind<4) :
  Calls Tryz.prog 58 #[.agg #[.int .i64 kind,.int .i64 op,.int .i32 num,.string (bs name),.slice A kids.length c]] w fun e' w'=>e'=.returned (.string (bs (u9e kind op num name (kids.map gE))))∧Below w.heap.size w w':=by
 have h6:=shape_len hsh
 have hkl:∀ a∈kids,(gE a).length≤1000000:=fun a ha=>by
  have:=kid_len (nm:=u0f) (kind:=kind) (op:=op) (num:=num) (x:=name) (L:=kids.map gE) (by rw [List.length_map]; exact hsh) (gE a) (List.mem_map_of_mem ha)
  omega
 rw [u5d] at hok
 have hok:=List.all_eq_true.1 hok
 have HK:=hid hK
 have HKL:=hid hkl
 have HOK:=hid hok
 have HS:=hid hs
 have HG:=hid hg
 clear hK hkl hok hs hg
 go_enter Tryz.func58,Tryz.ntmps58
 go_wp2_with fail
 go_loopw [3,4] (fun s i wr=>∃ (k:Nat) (v:Value),k≤kids.length∧i=.int .i64 k∧s=v∧OwnS wr (w.heap.size+1) v ((kids.take k).map gE)∧Below (w.heap.size+1) (w.alloc (.cells #[.int .i64 kind,.int .i64 op,.int .i32 num,.string (bs name),.slice A kids.length c] 34)) wr) (fun _ i _=>kids.length - (intOf i).toNat)
 case atStart=>exact ⟨0,_,Nat.zero_le _,rfl,rfl,OwnS.nil _ _,Below.refl _ _⟩
 case round =>
  obtain ⟨k,v,hk,rfl,rfl,hown,hbr⟩:=hrel
  obtain ⟨wo,rfl⟩:∃ z,z=wr:=⟨_,rfl⟩
  have hzr:=hbr.size
  simp only [u0e] at hzr
  have le2:wo.heap[w.heap.size]? = some (.cells #[.int .i64 kind,.int .i64 op,.int .i32 num,.string (bs name),.slice A kids.length c] 34 (0,0)):=(hbr.block _ (by omega)).trans (u0c _ _)
  have xe4:=cell_of_row _ _ 4 _ _ _ le2
  have hbw:Below w.heap.size w wo:=(u0j _ _).trans (hbr.mono (by omega))
  have HBR:=hid hbr
  have HBW:=hid hbw
  have HOWN:=hid hown
  have HLE:=hid le2
  by_cases hlt:k<kids.length
  ·obtain ⟨a,ha⟩:∃ a,kids[k]? = some a:=⟨kids[k],List.getElem?_eq_getElem hlt⟩
   have hmem:=List.mem_of_getElem? ha
   obtain ⟨g,oo,rfl,_,hPg,hrows⟩:=u3n (u7z HS.out hbw) (by omega)
   obtain ⟨yk,yo,yn,yx,yA,ym,yc,⟨d0,d1,d2,d3,d4⟩,hrx⟩:=hrows k a ha
   have hin:(0:Int)≤k∧(k:Int)<kids.length:=⟨by omega,by omega⟩
   have hC:=HK.out a hmem wo _ _ _ _ _ _ _ (HOK.out a hmem) (HKL.out a hmem) hrx (u7v HG.out a hmem)
   have hT:(kids.take (k+1)).map gE=(kids.take k).map gE++[gE a]:=by rw [List.take_add_one,ha,List.map_append]; rfl
   have HC:=hid hC
   have HT:=hid hT
   clear hrows hrx ha hT hC hbr hbw hown le2 hmem
   go_wp2_with fail
   refine HC.out.mono ?_
   rintro e w3 ⟨rfl,hb3⟩
   have HB3:=hid hb3
   have hz3:=hb3.size
   have HOWN3:=hid (OwnS.below HOWN.out hb3)
   clear hb3
   go_wp2_with (refine u2q rfl _ _ rfl (w.heap.size+1) _ ((kids.take k).map gE) (gE a) rfl (by exact HOWN3.out) w3.heap.size rfl rfl (by rw [List.length_map,List.length_take]; omega) (by omega) ?_; intro v' w4 ho4 hb4; have HO4:=hid ho4; have HB4:=hid hb4; clear ho4 hb4)
   go_roundw
   case rel=>exact ⟨k+1,_,by omega,by go_num,rfl,by rw [HT.out]; exact HO4.out,HBR.out.trans ((HB3.out.mono (by omega)).trans HB4.out)⟩
   case measure=>simp [intOf]; omega
  ·have ht:kids.take k=kids:=List.take_of_length_le (by omega)
   rw [ht] at HOWN
   obtain ⟨B,cc,rfl,hat⟩:=HOWN.out.open_
   have hqz:w.heap.size<wo.heap.size:=by omega
   have xe0:=cell_of_row _ _ 0 _ _ _ le2
   have xe1:=cell_of_row _ _ 1 _ _ _ le2
   have xe2:=cell_of_row _ _ 2 _ _ _ le2
   have xe3:=cell_of_row _ _ 3 _ _ _ le2
   have hlm:(kids.map gE).length=kids.length:=List.length_map _
   have hkind:kind=0∨kind=1∨kind=2∨kind=3∨kind=4∨kind=5∨kind=6:=by
    rcases Decidable.em (kind=0∨kind=1∨kind=2∨kind=3∨kind=4∨kind=5∨kind=6) with h | h
    ·exact h
    ·simp only [not_or] at h
     obtain ⟨a0,a1,a2,a3,a4,a5,a6⟩:=h
     unfold u1h at hsh
     rw [if_neg a0,if_neg a1,if_neg a2,if_neg a3,if_neg a4,if_neg a5,if_neg a6] at hsh
     cases hsh
   clear hbr hbw hown
   rcases hkind with rfl | rfl | rfl | rfl | rfl | rfl | rfl
   ·go_wp2_with fail
    refine (whole_110 num hn _).mono ?_
    rintro e w1 ⟨rfl,hb1⟩
    have HB1:=hid hb1
    clear hb1
    go_wp2
    go_ret
    exact ⟨rfl,seq HBW.out HB1.out⟩
   ·go_wp2
    go_ret
    exact ⟨rfl,HBW.out⟩
   ·have ho:op=0∨op=1∨op=2∨op=3:=by
     unfold u1h at hsh
     simp at hsh
     omega
    rcases ho with rfl | rfl | rfl | rfl
    ·go_wp2_with fail
     go_region_with ((first | (go_at_call 111; refine (u8m _).mono ?_; rintro e w' ⟨rfl,rfl⟩)))
     all_goals
      go_wp2
      go_ret
      exact ⟨rfl,seq HBW.out (u0j _ _).drew⟩
    ·go_wp2_with fail
     go_region_with ((first | (go_at_call 111; refine (u8m _).mono ?_; rintro e w' ⟨rfl,rfl⟩)))
     all_goals
      go_wp2
      go_ret
      exact ⟨rfl,seq HBW.out (u0j _ _).drew⟩
    ·go_wp2_with fail
     go_region_with ((first | (go_at_call 111; refine (u8m _).mono ?_; rintro e w' ⟨rfl,rfl⟩)))
     all_goals
      go_wp2
      go_ret
      exact ⟨rfl,seq HBW.out (u0j _ _).drew⟩
    ·go_wp2_with fail
     go_region_with ((first | (go_at_call 111; refine (u8m _).mono ?_; rintro e w' ⟨rfl,rfl⟩)))
     all_goals
      go_wp2
      go_ret
      exact ⟨rfl,seq HBW.out (u0j _ _).drew⟩
   ·have ho:(0≤op∧op<3)∧kids.length=1:=by
     unfold u1h at hsh
     simp at hsh
     omega
    obtain ⟨t0,ht0⟩:∃ t,(kids.map gE)[0]? = some t:=⟨(kids.map gE)[0]'(by omega),List.getElem?_eq_getElem (by omega)⟩
    obtain ⟨g,rfl,_,hg0,hc0⟩:=hat 0 t0 ht0
    have hb:u9e 3 op num name (kids.map gE)=u7y op++[32]++t0:=by
     unfold u9e
     simp [List.getD_eq_getElem?_getD,ht0]
    rw [hb] at hlen
    rw [hlm,ho.2]
    simp only [List.length_append] at hlen
    have a1:=u1z (u7y op) [32] ⟨#[32]⟩ rfl (by simp; omega)
    have a2:=u3m (u7y op++[32]) t0 (by simp; omega)
    have HU:=hid (unText_112 op ho.1.1 ho.1.2)
    obtain ⟨P1,hP1⟩:∃ P,u7y op++[32]=P:=⟨_,rfl⟩
    rw [hP1] at a1 a2 hb
    obtain ⟨P2,hP2⟩:∃ P,P1++t0=P:=⟨_,rfl⟩
    rw [hP2] at a2 hb
    have HBD:=hid hb
    clear hb hlen hP1 hP2 hat ht0 HK HKL HOK hsh ho hok
    go_wp2_with fail
    go_region_with ((first | (go_at_call 112; refine (HU.out _).mono ?_; rintro e w1 ⟨rfl,hb1⟩; have y0:=(hb1.cell hg0).trans hc0; have y1:=(hb1.cell hqz).trans xe1; have HB1:=hid hb1; clear hb1)))
    all_goals
     go_wp2
     go_ret
     rw [HBD.out]
     exact ⟨rfl,by first | exact seq HBW.out HB1.out | exact (seq HBW.out HB1.out).drew | exact seq HBW.out (seq (Below.refl _ _).drew HB1.out) | exact (seq HBW.out (seq (Below.refl _ _).drew HB1.out)).drew | exact seq HBW.out (seq (Below.refl _ _).drew.drew HB1.out)⟩
   all_goals omega
end Go.Proofs.YtbkhnilbgocpnaaGreatDoor.SynC
