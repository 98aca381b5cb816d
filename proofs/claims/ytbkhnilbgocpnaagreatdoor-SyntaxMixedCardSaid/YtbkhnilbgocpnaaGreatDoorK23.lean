import Derived.StillTailTactics
import Derived.Deep.QuietTactic
import Derived.Test.YtbkhnilbgocpnaaGreatDoorK0
import Derived.Test.YtbkhnilbgocpnaaGreatDoorK22
set_option linter.unusedVariables false
set_option linter.unusedSimpArgs false
set_option maxRecDepth 100000
set_option maxHeartbeats 2000000
open Go.Lib (hid)
namespace Go.Proofs.YtbkhnilbgocpnaaGreatDoor.SynC
open Go.Proofs.YtbkhnilbgocpnaaGreatDoor.LexC
open Go Go.ChangeShapes Go.WideShapes Go.ChangeAt Go.RowKit Go.Deep
def SmE (a:Ex):Prop:=∀ (w:World) (bk bo bn:Int) (bx:List UInt8) (bA:Option Addr) (bm bc:Nat) (yk yo yn:Int) (yx:List UInt8) (yA:Option Addr) (ym yc:Nat),RE w (fun g=>g<w.heap.size) [.int .i64 bk,.int .i64 bo,.int .i32 bn,.string (bs bx),.slice bA bm bc] a→RE w (fun g=>g<w.heap.size) [.int .i64 yk,.int .i64 yo,.int .i32 yn,.string (bs yx),.slice yA ym yc] a→rgE a →
 Calls Tryz.prog 20 #[.agg #[.int .i64 bk,.int .i64 bo,.int .i32 bn,.string (bs bx),.slice bA bm bc],.agg #[.int .i64 yk,.int .i64 yo,.int .i32 yn,.string (bs yx),.slice yA ym yc]] w fun e w'=>e=.returned (.bool true)∧Below w.heap.size w w'
def SmEs (l:List Ex):Prop:=∀ (w:World) (A:Option Addr) (m c:Nat) (B:Option Addr) (mb cb:Nat),SlE w (fun g=>g<w.heap.size) (.slice A m c) l→SlE w (fun g=>g<w.heap.size) (.slice B mb cb) l→rgEs l→l.length≤1125899906842624 →
 Calls Tryz.prog 50 #[.slice A m c,.slice B mb cb] w fun e w'=>e=.returned (.bool true)∧Below w.heap.size w w'
theorem sl_bel {w w':World} {v:Value} {l:List Ex} (h:SlE w (fun g=>g<w.heap.size) v l) (k:Below w.heap.size w w'):SlE w' (fun g=>g<w'.heap.size) v l:=h.keeps (u0z k fun _ hb=>hb) (fun _ hb=>Nat.lt_of_lt_of_le hb k.size)
theorem same_exprs (l:List Ex) (hl:∀ a∈l,SmE a):SmEs l:=by
 intro w A m c B mb cb hA hB hg hll
 have hm1:=slE_len hA
 have hm2:=slE_len hB
 subst hm1
 subst hm2
 have HA:=hid hA
 have HB:=hid hB
 have HG:=hid hg
 have HL:=hid hl
 clear hA hB hg hl
 go_enter Tryz.func50,Tryz.ntmps50
 go_wp2_with fail
 go_loopw [5] (fun i wr=>∃ (k:Nat),k≤l.length∧i=.int .i64 k∧Below w.heap.size w wr) (fun i _=>l.length - (intOf i).toNat)
 case atStart=>exact ⟨0,Nat.zero_le _,rfl,Below.refl _ _⟩
 case round =>
  obtain ⟨k,hk,rfl,hbr⟩:=hrel
  have HBR:=hid hbr
  by_cases hlt:k<l.length
  ·obtain ⟨a,ha⟩:∃ a,l[k]? = some a:=⟨l[k],List.getElem?_eq_getElem hlt⟩
   obtain ⟨g,o,rfl,_,hPg,hrows⟩:=u4j (sl_bel HA.out hbr) (by omega)
   obtain ⟨g2,o2,rfl,_,hPg2,hrows2⟩:=u4j (sl_bel HB.out hbr) (by omega)
   obtain ⟨bk,bo,bn,bx,bA,bm,bc,⟨b0,b1,b2,b3,b4⟩,hrb⟩:=hrows k a ha
   obtain ⟨yk,yo,yn,yx,yA,ym,yc,⟨y0,y1,y2,y3,y4⟩,hrd⟩:=hrows2 k a ha
   have hin:(0:Int)≤k∧(k:Int)<l.length:=⟨by omega,by omega⟩
   have HRB:=hid hrb
   have HRD:=hid hrd
   have hmem:=List.mem_of_getElem? ha
   have HC:Hid (Calls Tryz.prog 20 #[.agg #[.int .i64 bk,.int .i64 bo,.int .i32 bn,.string (bs bx),.slice bA bm bc],.agg #[.int .i64 yk,.int .i64 yo,.int .i32 yn,.string (bs yx),.slice yA ym yc]] wr.drew fun e w'=>e=.returned (.bool true)∧Below wr.drew.heap.size wr.drew w') :=
    hid (HL.out a hmem wr.drew _ _ _ _ _ _ _ _ _ _ _ _ _ _ (re_bel hrb ((Below.refl _ _).drew)) (re_bel hrd ((Below.refl _ _).drew)) (rgEs_at HG.out a hmem))
   clear hrows hrows2 hrb hrd ha hbr
   go_wp2_with fail
   go_still_tail 8,(by kernel_rfl)
   go_wp2_with fail
   refine HC.out.mono ?_
   rintro e w2 ⟨rfl,hb2⟩
   have HB2:=hid (HBR.out.trans (((Below.refl wr.heap.size wr).drew.trans hb2).mono HBR.out.size))
   clear hb2
   go_wp2
   go_roundw
   case rel=>exact ⟨k+1,by omega,by go_num,HB2.out⟩
   case measure=>simp [intOf]; omega
  ·go_wp2
   go_ret
   exact ⟨rfl,HBR.out⟩
theorem same_expr (kind op num:Int) (name:List UInt8) (kids:List Ex) (hk:SmEs kids):SmE (.mk kind op num name kids):=by
 intro w bk bo bn bx bA bm bc yk yo yn yx yA ym yc hb hy hg
 rw [RE_eq] at hb hy
 obtain ⟨K,hc,hK⟩:=hb
 cases hc
 obtain ⟨K2,hc2,hK2⟩:=hy
 cases hc2
 rw [rgE] at hg
 have HK:=hid hk
 have HK1:=hid hK
 have HK2:=hid hK2
 have HG:=hid hg
 have e1:((kind:Int) == kind)=true:=by simp
 have e2:((op:Int) == op)=true:=by simp
 have e3:((num:Int) == num)=true:=by simp
 have e4:((bs name).toList == (bs name).toList)=true:=by simp
 clear hk hK hK2 hg
 go_enter Tryz.func20,Tryz.ntmps20
 go_wp2_with fail
 have hba:Below w.heap.size w ((w.alloc (.cells #[.int .i64 kind,.int .i64 op,.int .i32 num,.string (bs name),.slice bA bm bc] 34)).alloc (.cells #[.int .i64 kind,.int .i64 op,.int .i32 num,.string (bs name),.slice yA ym yc] 34)):=((Below.refl _ _).alloc tSZ _).alloc tSZ _
 refine (HK.out _ _ _ _ _ _ _ (sl_bel HK1.out hba) (sl_bel HK2.out hba) HG.out.2.2.2 HG.out.2.2.1).mono ?_
 rintro e w1 ⟨rfl,hb1⟩
 have HB1:=hid (seq hba hb1)
 clear hb1
 go_wp2
 go_ret
 exact ⟨rfl,HB1.out⟩
mutual
theorem sm_all:(a:Ex)→SmE a
 | .mk kind op num name kids=>same_expr kind op num name kids (same_exprs kids (sms_all kids))
theorem sms_all:(l:List Ex)→∀ a∈l,SmE a
 | [],_,h=>by cases h
 | e :: r,a,h=>by
  rcases List.mem_cons.1 h with h1 | h1
  ·rw [h1]; exact sm_all e
  ·exact sms_all r a h1
end
theorem u6r {B:Nat} {a w:World} (h:Below B a w) (n:Nat):Below B a (w.drewN n):=⟨h.os,h.tape,h.output,h.size,h.block⟩
theorem same_texts (l:List (List UInt8)) (w:World) (A:Option Addr) (m c:Nat) (B:Option Addr) (mb cb:Nat) (hA:SlR rdN 1 (fun g=>g<w.heap.size) w (.slice A m c) l) (hB:SlR rdN 1 (fun g=>g<w.heap.size) w (.slice B mb cb) l) (hll:l.length≤1125899906842624) :
  Calls Tryz.prog 86 #[.slice A m c,.slice B mb cb] w fun e w'=>e=.returned (.bool true)∧Below w.heap.size w w':=by
 have hm1:=hA.len
 have hm2:=hB.len
 subst hm1
 subst hm2
 have HA:=hid hA
 have HB:=hid hB
 clear hA hB
 go_enter Tryz.func86,Tryz.ntmps86
 go_wp2_with fail
 go_loopw [5] (fun i wr=>∃ (k:Nat),k≤l.length∧i=.int .i64 k∧Below w.heap.size w wr) (fun i _=>l.length - (intOf i).toNat)
 case atStart=>exact ⟨0,Nat.zero_le _,rfl,Below.refl _ _⟩
 case round =>
  obtain ⟨k,hk,rfl,hbr⟩:=hrel
  have HBR:=hid hbr
  by_cases hlt:k<l.length
  ·obtain ⟨a,ha⟩:∃ a,l[k]? = some a:=⟨l[k],List.getElem?_eq_getElem hlt⟩
   obtain ⟨g,o,rfl,_,hPg,hrows⟩:=u2i (by decide) (fun P w cs a h=>⟨.string (bs a),by unfold rdN at h; subst h; rfl⟩) (HA.out.keeps u4a (u0z hbr fun _ hb=>hb) (fun _ hb=>hb)) (by omega)
   obtain ⟨g2,o2,rfl,_,hPg2,hrows2⟩:=u2i (by decide) (fun P w cs a h=>⟨.string (bs a),by unfold rdN at h; subst h; rfl⟩) (HB.out.keeps u4a (u0z hbr fun _ hb=>hb) (fun _ hb=>hb)) (by omega)
   obtain ⟨cs,hcs,hrd⟩:=hrows k a ha
   obtain ⟨cs2,hcs2,hrd2⟩:=hrows2 k a ha
   have hrd:cs=[.string (bs a)]:=hrd
   have hrd2:cs2=[.string (bs a)]:=hrd2
   subst hrd
   subst hrd2
   have c0:=hcs 0 _ rfl
   have y0:=hcs2 0 _ rfl
   simp only [Nat.mul_one,Nat.add_zero] at c0 y0
   have hin:(0:Int)≤k∧(k:Int)<l.length:=⟨by omega,by omega⟩
   have e1:((bs a).toList != (bs a).toList)=false:=by simp
   clear hrows hrows2 hcs hcs2 ha hbr
   go_wp2_with fail
   go_quiet (fail)
   go_wp2
   go_roundw
   case rel=>exact ⟨k+1,by omega,by go_num,by first | exact u6r HBR.out _ | exact HBR.out.drew⟩
   case measure=>simp [intOf]; omega
  ·go_wp2
   go_ret
   exact ⟨rfl,HBR.out⟩
theorem same_params (l:List (List UInt8 × Bool)) (w:World) (A:Option Addr) (m c:Nat) (B:Option Addr) (mb cb:Nat) (hA:SlR rdP 2 (fun g=>g<w.heap.size) w (.slice A m c) l) (hB:SlR rdP 2 (fun g=>g<w.heap.size) w (.slice B mb cb) l) (hll:l.length≤1125899906842624) :
  Calls Tryz.prog 88 #[.slice A m c,.slice B mb cb] w fun e w'=>e=.returned (.bool true)∧Below w.heap.size w w':=by
 have hm1:=hA.len
 have hm2:=hB.len
 subst hm1
 subst hm2
 have HA:=hid hA
 have HB:=hid hB
 clear hA hB
 go_enter Tryz.func88,Tryz.ntmps88
 go_wp2_with fail
 go_loopw [5] (fun i wr=>∃ (k:Nat),k≤l.length∧i=.int .i64 k∧Below w.heap.size w wr) (fun i _=>l.length - (intOf i).toNat)
 case atStart=>exact ⟨0,Nat.zero_le _,rfl,Below.refl _ _⟩
 case round =>
  obtain ⟨k,hk,rfl,hbr⟩:=hrel
  have HBR:=hid hbr
  by_cases hlt:k<l.length
  ·obtain ⟨a,ha⟩:∃ a,l[k]? = some a:=⟨l[k],List.getElem?_eq_getElem hlt⟩
   obtain ⟨g,o,rfl,_,hPg,hrows⟩:=u2i (by decide) (fun P w cs a h=>⟨.string (bs a.1),by unfold rdP at h; subst h; rfl⟩) (HA.out.keeps u3d (u0z hbr fun _ hb=>hb) (fun _ hb=>hb)) (by omega)
   obtain ⟨g2,o2,rfl,_,hPg2,hrows2⟩:=u2i (by decide) (fun P w cs a h=>⟨.string (bs a.1),by unfold rdP at h; subst h; rfl⟩) (HB.out.keeps u3d (u0z hbr fun _ hb=>hb) (fun _ hb=>hb)) (by omega)
   obtain ⟨cs,hcs,hrd⟩:=hrows k a ha
   obtain ⟨cs2,hcs2,hrd2⟩:=hrows2 k a ha
   have hrd:cs=[.string (bs a.1),.bool a.2]:=hrd
   have hrd2:cs2=[.string (bs a.1),.bool a.2]:=hrd2
   subst hrd
   subst hrd2
   have c0:=hcs 0 _ rfl
   have y0:=hcs2 0 _ rfl
   have c1:=hcs 1 _ rfl
   have y1:=hcs2 1 _ rfl
   simp only [Nat.mul_one,Nat.add_zero] at c0 y0 c1 y1
   have hin:(0:Int)≤k∧(k:Int)<l.length:=⟨by omega,by omega⟩
   obtain ⟨x,v⟩:=a
   simp only at c0 c1 y0 y1
   clear hrows hrows2 hcs hcs2 ha hbr
   go_wp2_with fail
   go_quiet (fail)
   go_wp2
   go_roundw
   case rel=>exact ⟨k+1,by omega,by go_num,by first | exact u6r HBR.out _ | exact HBR.out.drew⟩
   case measure=>simp [intOf]; omega
  ·go_wp2
   go_ret
   exact ⟨rfl,HBR.out⟩
theorem same_arrays (l:List (List UInt8 × Int)) (w:World) (A:Option Addr) (m c:Nat) (B:Option Addr) (mb cb:Nat) (hA:SlR rdA 2 (fun g=>g<w.heap.size) w (.slice A m c) l) (hB:SlR rdA 2 (fun g=>g<w.heap.size) w (.slice B mb cb) l) (hll:l.length≤1125899906842624) :
  Calls Tryz.prog 89 #[.slice A m c,.slice B mb cb] w fun e w'=>e=.returned (.bool true)∧Below w.heap.size w w':=by
 have hm1:=hA.len
 have hm2:=hB.len
 subst hm1
 subst hm2
 have HA:=hid hA
 have HB:=hid hB
 clear hA hB
 go_enter Tryz.func89,Tryz.ntmps89
 go_wp2_with fail
 go_loopw [5] (fun i wr=>∃ (k:Nat),k≤l.length∧i=.int .i64 k∧Below w.heap.size w wr) (fun i _=>l.length - (intOf i).toNat)
 case atStart=>exact ⟨0,Nat.zero_le _,rfl,Below.refl _ _⟩
 case round =>
  obtain ⟨k,hk,rfl,hbr⟩:=hrel
  have HBR:=hid hbr
  by_cases hlt:k<l.length
  ·obtain ⟨a,ha⟩:∃ a,l[k]? = some a:=⟨l[k],List.getElem?_eq_getElem hlt⟩
   obtain ⟨g,o,rfl,_,hPg,hrows⟩:=u2i (by decide) (fun P w cs a h=>⟨.string (bs a.1),by unfold rdA at h; subst h; rfl⟩) (HA.out.keeps u4g (u0z hbr fun _ hb=>hb) (fun _ hb=>hb)) (by omega)
   obtain ⟨g2,o2,rfl,_,hPg2,hrows2⟩:=u2i (by decide) (fun P w cs a h=>⟨.string (bs a.1),by unfold rdA at h; subst h; rfl⟩) (HB.out.keeps u4g (u0z hbr fun _ hb=>hb) (fun _ hb=>hb)) (by omega)
   obtain ⟨cs,hcs,hrd⟩:=hrows k a ha
   obtain ⟨cs2,hcs2,hrd2⟩:=hrows2 k a ha
   have hrd:cs=[.string (bs a.1),.int .i64 a.2]:=hrd
   have hrd2:cs2=[.string (bs a.1),.int .i64 a.2]:=hrd2
   subst hrd
   subst hrd2
   have c0:=hcs 0 _ rfl
   have y0:=hcs2 0 _ rfl
   have c1:=hcs 1 _ rfl
   have y1:=hcs2 1 _ rfl
   simp only [Nat.mul_one,Nat.add_zero] at c0 y0 c1 y1
   have hin:(0:Int)≤k∧(k:Int)<l.length:=⟨by omega,by omega⟩
   obtain ⟨x,v⟩:=a
   simp only at c0 c1 y0 y1
   clear hrows hrows2 hcs hcs2 ha hbr
   go_wp2_with fail
   go_quiet (fail)
   go_wp2
   go_roundw
   case rel=>exact ⟨k+1,by omega,by go_num,by first | exact u6r HBR.out _ | exact HBR.out.drew⟩
   case measure=>simp [intOf]; omega
  ·go_wp2
   go_ret
   exact ⟨rfl,HBR.out⟩
end Go.Proofs.YtbkhnilbgocpnaaGreatDoor.SynC
