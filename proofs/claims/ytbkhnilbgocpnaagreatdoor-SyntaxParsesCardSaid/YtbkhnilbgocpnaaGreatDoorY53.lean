import Derived.Deep.RegionHeld3
import Derived.BigQuiet
import Derived.Handy
import Derived.OwnWalk
import Derived.Test.YtbkhnilbgocpnaaGreatDoorY49
import Derived.Test.YtbkhnilbgocpnaaGreatDoorY51
import Derived.Test.YtbkhnilbgocpnaaGreatDoorY0
import Derived.Test.YtbkhnilbgocpnaaGreatDoorY46
import Derived.Test.YtbkhnilbgocpnaaGreatDoorY9
set_option linter.unusedVariables false
set_option linter.unusedSimpArgs false
set_option maxRecDepth 100000
set_option maxHeartbeats 2000000
open Go.Lib (hid)
namespace Go.Proofs.YtbkhnilbgocpnaaGreatDoor.SynC
open Go.Proofs.YtbkhnilbgocpnaaGreatDoor.LexC
open Go Go.ChangeShapes Go.WideShapes Go.ChangeAt Go.RowKit Go.Deep
theorem name16 {x:List UInt8} (h:u0f x=true):x.length≤16:=u6a (by rw [← nm_eq]; exact h)
theorem fn_facts {q:Pg} {f:Fn} (hf:fitP q=true) (h:f∈q.fns):f.name.length≤16∧f.params.length≤6∧(∀ y∈f.params,y.length≤16)∧okSs u0f f.body=true∧u0r f.body≤400:=by
 unfold fitP at hf
 rw [Bool.and_eq_true] at hf
 obtain ⟨p',h0,h1⟩:=fitFs_at q.fns 0 (Int.le_refl _) hf.1 f h
 have h2:=fitF_le h1
 unfold fitF at h1
 simp only [Bool.and_eq_true,decide_eq_true_eq,List.all_eq_true] at h1
 exact ⟨name16 h1.1.1.1,h1.1.1.2,fun y hy=>name16 (h1.1.2 y hy),fitSs_ok h1.2,by omega⟩
theorem kr_facts {q:Pg} {f:Kr} (hf:fitP q=true) (h:f∈q.krs):f.name.length≤16∧f.params.length≤6∧(∀ y∈f.params,y.1.length≤16)∧f.shared.length≤4∧(∀ y∈f.shared,y.1.length≤16∧1≤y.2∧y.2≤64)∧okSs u0f f.body=true∧u0r f.body≤400:=by
 unfold fitP at hf
 rw [Bool.and_eq_true] at hf
 obtain ⟨p',h0,h1⟩:=fitKs_at q.krs _ (sumP_pos _) hf.2 f h
 have h2:=fitK_le h1
 unfold fitK at h1
 simp only [Bool.and_eq_true,decide_eq_true_eq,List.all_eq_true,parB,arrB] at h1
 exact ⟨name16 h1.1.1.1.1.1,h1.1.1.1.1.2,fun y hy=>name16 (h1.1.1.1.2 y hy),h1.1.1.2,fun y hy=>⟨name16 (h1.1.2 y hy).1.1,(h1.1.2 y hy).1.2,(h1.1.2 y hy).2⟩,fitSs_ok h1.2,by omega⟩
theorem flat_small {n:Nat}:∀ r:List (List UInt8),(∀ t∈r,t.length≤n)→(r.flatMap fun u=>(32:UInt8) :: 44 :: 32 :: u).length≤(n+3) * r.length
 | [],_=>by simp
 | t :: r,h=>by
  have h1:=flat_small r fun x hx=>h x (by simp [hx])
  have h2:=h t (by simp)
  rw [List.flatMap_cons,List.length_append,show (t :: r).length=r.length+1 from rfl,Nat.mul_add]
  simp only [List.length_cons]
  omega
theorem commas_small {L:List (List UInt8)} {n k:Nat} (h:∀ t∈L,t.length≤n) (hl:L.length≤k):(u1c L).length≤(n+3) * k:=by
 have hm:(n+3) * L.length≤(n+3) * k:=Nat.mul_le_mul_left _ hl
 cases L with
 | nil=>simp [u1c]
 | cons a r =>
  have h1:=flat_small r fun x hx=>h x (by simp [hx])
  have h2:=h a (by simp)
  rw [u1c]
  rw [List.length_cons,Nat.mul_add] at hm
  simp only [List.length_cons,List.length_append]
  omega
theorem OwnS.bel {w w':World} {base:Nat} {v:Value} {L:List (List UInt8)} (h:OwnS w base v L) (hb:Below w.heap.size w w'):OwnS w' base v L:=h.below hb
theorem slice_one (x:UInt8) (r:List UInt8) (W:World):(Instr.slice 9 (.string (bs (x :: r))) (some (.int .i64 1)) none none).run Tryz.prog W=.ok (.string (bs ((x :: r).drop 1))) W:=by
 rw [run_slice_string_l (P:=Tryz.prog) W 9 (bs (x :: r)) Tryz.underlying9 .i64 1 (by omega) (by rw [u3t]; simp; omega),extract_bs,u3g,u3t]
 congr 2
 rw [show (1:Int).toNat=1 from rfl,List.take_of_length_le (by simp)]
theorem text_55 (q:Pg) (w:World) (A:Option Addr) (m c:Nat) (B:Option Addr) (mb cb:Nat) (hp:PgAr w A m c B mb cb q) (hf:fitP q=true) (hl:q.fns.length+q.krs.length≤4001) :
  Calls Tryz.prog 55 #[.agg #[.slice A m c,.slice B mb cb]] w fun e w'=>e=.returned (.string (bs (writ q)))∧Below w.heap.size w w':=by
 have htot:(q.its.flatMap gI).length≤5000001:=by
  have h1:=(fit_room hf hl).2
  unfold writ at h1
  rw [gP_txt (fitP_ok hf),List.length_drop] at h1
  omega
 have hwr:writ q=(q.its.flatMap gI).drop 1:=by unfold writ; rw [gP_txt (fitP_ok hf)]
 rw [its_gI] at htot hwr
 have hff:=fun f h=>fn_facts (f:=f) hf h
 have hkf:=fun f h=>kr_facts (f:=f) hf h
 obtain ⟨fns,krs⟩:=q
 obtain ⟨h1,h2,hgf,hgk,hlf,hlk⟩:=hp
 simp only at *
 have z1:=h1.len
 have z2:=h2.len
 subst z1; subst z2
 have HF:=hid h1
 have HK:=hid h2
 have HGF:=hid hgf
 have HGK:=hid hgk
 have HFF:=hid hff
 have HKF:=hid hkf
 have HWR:=hid hwr
 obtain ⟨FT,hFT⟩:∃ FT,fns.flatMap gF=FT:=⟨_,rfl⟩
 rw [hFT] at htot HWR
 have HFT:=hid hFT
 simp only [List.length_append] at htot
 clear h1 h2 hgf hgk hff hkf hwr hf hFT
 go_enter Tryz.func55,Tryz.ntmps55
 go_wp2_with fail
 go_loopw [3,4] (fun s i wr=>∃ (k:Nat) (P:List UInt8),k≤fns.length∧i=.int .i64 k∧s=.string (bs P)∧(fns.take k).flatMap gF=P∧Below (w.heap.size+1) (w.alloc (.cells #[.slice A fns.length c,.slice B krs.length cb] 26)) wr) (fun _ i _=>fns.length - (intOf i).toNat)
 case atStart=>exact ⟨0,[],Nat.zero_le _,rfl,rfl,rfl,Below.refl _ _⟩
 case round =>
  obtain ⟨k,S0,hk,rfl,rfl,hP,hbr⟩:=hrel
  obtain ⟨wo,rfl⟩:∃ z,z=wr:=⟨_,rfl⟩
  have hzr:=hbr.size
  simp only [u0e] at hzr
  have hbo:Below w.heap.size w wo:=(u0j _ _).trans (hbr.mono (by omega))
  have lx:wo.heap[w.heap.size]? = some (.cells #[.slice A fns.length c,.slice B krs.length cb] 26 (0,0)):=(hbr.block _ (by omega)).trans (u0c _ _)
  have xb0:=cell_of_row _ _ 0 _ _ _ lx
  have xb1:=cell_of_row _ _ 1 _ _ _ lx
  have HBR:=hid hbr
  have HBO:=hid hbo
  by_cases hlt:k<fns.length
  ·obtain ⟨a,ha⟩:∃ a,fns[k]? = some a:=⟨fns[k],List.getElem?_eq_getElem hlt⟩
   obtain ⟨g,o,rfl,_,hPg,hrows⟩:=u2c (by decide) (fun P w cs a h=>⟨.string (bs a.name),by obtain ⟨_,_,_,_,_,_,h,_⟩:=h; subst h; rfl⟩) (u1m u4c hbo HF.out) (by omega)
   obtain ⟨cs,hcs,fA,fm,fc,fB,fm',fc',rfl,hfp,hfb⟩:=hrows k a ha
   have hmem:=List.mem_of_getElem? ha
   have hga:=HGF.out a hmem
   obtain ⟨n1,n2,n3,n4,n5⟩:=HFF.out a hmem
   have hm2:=hfp.len
   have hm3:=u4g hfb
   subst hm2
   subst hm3
   have c0:=hcs 0 _ rfl
   have c1:=hcs 1 _ rfl
   have c2':=hcs 2 _ rfl
   simp only [Nat.add_zero] at c0
   have hin:(0:Int)≤k∧(k:Int)<fns.length:=⟨by omega,by omega⟩
   have hle:=fm_le gF fns (k+1)
   rw [HFT.out] at hle
   have hb:=fm_take gF fns k a ha
   rw [hP,gF_eq] at hb
   have hcs1:(u1c a.params).length≤(16+3) * 6:=commas_small n3 n2
   have hbd:Below wo.heap.size wo ((wo.alloc (.cells #[.string (bs a.name),.slice fA a.params.length fc,.slice fB a.body.length fc'] 71)).drew):=((Below.refl _ _).alloc (Nat.le_refl _) _).drew
   have HC1:=hid (commas_sl a.params (by omega) (by omega) _ fA a.params.length fc (hfp.keeps u2t (u0w hbd fun b hb=>by have:b<w.heap.size:=hb; omega) (fun b hb=>by have:b<w.heap.size:=hb; have:=hbd.size; omega)))
   have HST:=hid (fun w' (h:Below wo.heap.size wo w')=>stmtsText_104 a.body w' fB a.body.length fc' n4 n5 (hfb.keeps (u0w h fun b hb=>by have:b<w.heap.size:=hb; omega) (fun b hb=>by have:b<w.heap.size:=hb; have:=h.size; omega)) hga.2.2.2.2 hga.2.2.2.1)
   obtain ⟨nm,hnm⟩:∃ t,a.name=t:=⟨_,rfl⟩
   obtain ⟨cm,hcm⟩:∃ t,u1c a.params=t:=⟨_,rfl⟩
   obtain ⟨b0,hb0⟩:∃ t,gSs a.body=t:=⟨_,rfl⟩
   rw [hcm] at HC1 hb hcs1
   rw [hb0] at HST hb
   rw [hnm] at hb HC1 hbd c0
   rw [hb] at hle
   simp only [← List.append_assoc] at hb
   simp only [List.length_append,List.length_cons,List.length_nil] at hle
   have a1:=u1z S0 [32,102,117,110,99,32] ⟨#[32,102,117,110,99,32]⟩ rfl (by first | omega | (simp; omega))
   obtain ⟨P1,hP1⟩:∃ P,S0++[32,102,117,110,99,32]=P:=⟨_,rfl⟩
   have l1:P1.length=S0.length+([32,102,117,110,99,32]:List UInt8).length:=by rw [← hP1,List.length_append]
   (try simp only [List.length_cons,List.length_nil] at l1)
   rw [hP1] at a1 hb
   have a2:=u3m P1 nm (by first | omega | (simp; omega))
   obtain ⟨P2,hP2⟩:∃ P,P1++nm=P:=⟨_,rfl⟩
   have l2:P2.length=P1.length+nm.length:=by rw [← hP2,List.length_append]
   (try simp only [List.length_cons,List.length_nil] at l2)
   rw [hP2] at a2 hb
   have a3:=u1z P2 [32,40] ⟨#[32,40]⟩ rfl (by first | omega | (simp; omega))
   obtain ⟨P3,hP3⟩:∃ P,P2++[32,40]=P:=⟨_,rfl⟩
   have l3:P3.length=P2.length+([32,40]:List UInt8).length:=by rw [← hP3,List.length_append]
   (try simp only [List.length_cons,List.length_nil] at l3)
   rw [hP3] at a3 hb
   have a4:=u3m P3 cm (by first | omega | (simp; omega))
   obtain ⟨P4,hP4⟩:∃ P,P3++cm=P:=⟨_,rfl⟩
   have l4:P4.length=P3.length+cm.length:=by rw [← hP4,List.length_append]
   (try simp only [List.length_cons,List.length_nil] at l4)
   rw [hP4] at a4 hb
   have a5:=u1z P4 [32,41,32,123] ⟨#[32,41,32,123]⟩ rfl (by first | omega | (simp; omega))
   obtain ⟨P5,hP5⟩:∃ P,P4++[32,41,32,123]=P:=⟨_,rfl⟩
   have l5:P5.length=P4.length+([32,41,32,123]:List UInt8).length:=by rw [← hP5,List.length_append]
   (try simp only [List.length_cons,List.length_nil] at l5)
   rw [hP5] at a5 hb
   have a6:=u3m P5 b0 (by first | omega | (simp; omega))
   obtain ⟨P6,hP6⟩:∃ P,P5++b0=P:=⟨_,rfl⟩
   have l6:P6.length=P5.length+b0.length:=by rw [← hP6,List.length_append]
   (try simp only [List.length_cons,List.length_nil] at l6)
   rw [hP6] at a6 hb
   have a7:=u1z P6 [32,125] ⟨#[32,125]⟩ rfl (by first | omega | (simp; omega))
   obtain ⟨P7,hP7⟩:∃ P,P6++[32,125]=P:=⟨_,rfl⟩
   have l7:P7.length=P6.length+([32,125]:List UInt8).length:=by rw [← hP7,List.length_append]
   (try simp only [List.length_cons,List.length_nil] at l7)
   rw [hP7] at a7 hb
   have HBB:=hid hb
   have HBD:=hid hbd
   clear hrows hcs ha hfp hfb hmem hga hbr hbo lx hb hle hnm hcm hb0 hbd hP n1 n2 n3 n4 n5 hcs1 hP1 l1 hP2 l2 hP3 l3 hP4 l4 hP5 l5 hP6 l6 hP7 l7
   go_wp2_with fail
   go_region_held3 (fun w'=>w'.cell? ⟨wo.heap.size,0,none⟩=some (.string (bs nm))∧w'.cell? ⟨wo.heap.size,1,none⟩=some (.slice fA a.params.length fc)∧w'.cell? ⟨wo.heap.size,2,none⟩=some (.slice fB a.body.length fc')) (first | exact ⟨by simp,by simp,by simp⟩ | exact ⟨(qc 0).trans rfl,(qc 1).trans rfl,(qc 2).trans rfl⟩ | exact ⟨(qd 0).trans rfl,(qd 1).trans rfl,(qd 2).trans rfl⟩) ((first | (go_at_call 103; refine HC1.out.mono ?_; rintro e w4 ⟨rfl,hb4⟩; obtain ⟨qc,_,_,l4⟩:=u0a (q:=wo.heap.size) (u0d hb4 (some (wo.heap.size+10))) (u2d (u0c _ _)) (by omega)) | (go_at_call 104; refine (HST.out w4 (seq HBD.out hb4)).mono ?_; rintro e w5 ⟨rfl,hb5⟩; obtain ⟨qd,_,_,l5⟩:=u0a (q:=wo.heap.size) (u0d hb5 (some (wo.heap.size+10))) l4 (by omega))))
   have HB5:=hid (seq (seq HBD.out hb4) hb5)
   clear hb4 hb5 qc qd l4 l5
   go_wp2
   go_roundw
   case rel=>exact ⟨k+1,_,by omega,by go_num,rfl,HBB.out,HBR.out.trans (HB5.out.mono (by omega))⟩
   case measure=>simp [intOf]; omega
  ·have hPe:S0=FT:=by rw [← hP,← HFT.out,List.take_of_length_le (by omega)]
   subst hPe
   clear hP hbr hbo lx
   go_wp2_with fail
   clear hlt xb0
   go_loopw [3,6] (fun s i wr=>∃ (k:Nat) (P:List UInt8),k≤krs.length∧i=.int .i64 k∧s=.string (bs P)∧S0++(krs.take k).flatMap gK=P∧Below (w.heap.size+1) (w.alloc (.cells #[.slice A fns.length c,.slice B krs.length cb] 26)) wr) (fun _ i _=>krs.length - (intOf i).toNat)
   case atStart=>exact ⟨0,S0,Nat.zero_le _,rfl,rfl,by simp,HBR.out⟩
   case round =>
    clear HBR HBO xb1 hzr hk
    obtain ⟨k,T0,hk,rfl,rfl,hP,hbr⟩:=hrel
    obtain ⟨wo,rfl⟩:∃ z,z=wr:=⟨_,rfl⟩
    have hzr:=hbr.size
    simp only [u0e] at hzr
    have hbo:Below w.heap.size w wo:=(u0j _ _).trans (hbr.mono (by omega))
    have lx:wo.heap[w.heap.size]? = some (.cells #[.slice A fns.length c,.slice B krs.length cb] 26 (0,0)):=(hbr.block _ (by omega)).trans (u0c _ _)
    have xb1:=cell_of_row _ _ 1 _ _ _ lx
    have HBR:=hid hbr
    have HBO:=hid hbo
    by_cases hlt:k<krs.length
    ·obtain ⟨a,ha⟩:∃ a,krs[k]? = some a:=⟨krs[k],List.getElem?_eq_getElem hlt⟩
     obtain ⟨g,o,rfl,_,hPg,hrows⟩:=u2c (by decide) (fun P w cs a h=>⟨.string (bs a.name),by obtain ⟨_,_,_,_,_,_,_,_,_,h,_⟩:=h; subst h; rfl⟩) (u1m u4j hbo HK.out) (by omega)
     obtain ⟨cs,hcs,fA,fm,fc,fB,fm',fc2,fC,fm'',fc3,rfl,hfp,hfd,hfb⟩:=hrows k a ha
     have hmem:=List.mem_of_getElem? ha
     have hga:=HGK.out a hmem
     obtain ⟨n1,n2,n3,n4,n5,n6,n7⟩:=HKF.out a hmem
     have hm2:=hfp.len
     have hm4:=hfd.len
     have hm3:=u4g hfb
     subst hm2
     subst hm4
     subst hm3
     have c0:=hcs 0 _ rfl
     have c1:=hcs 1 _ rfl
     have c2':=hcs 2 _ rfl
     have c3:=hcs 3 _ rfl
     simp only [Nat.add_zero] at c0
     have hin:(0:Int)≤k∧(k:Int)<krs.length:=⟨by omega,by omega⟩
     have hle:=fm_le gK krs (k+1)
     have hbt:=fm_take gK krs k a ha
     rw [gK_eq] at hbt
     have hle2:(T0++(hK a++a.shared.flatMap u7e++gSs a.body++[32,125])).length≤5000001:=by
      rw [← hP,List.append_assoc,← hbt,List.length_append]; omega
     have hbt2:S0++(krs.take (k+1)).flatMap gK=T0++hK a++a.shared.flatMap u7e++gSs a.body++[32,125]:=by rw [hbt,← hP]; simp only [List.append_assoc]
     have hcs1:(u1c (a.params.map u8a)).length≤(30+3) * 6:=commas_small (fun t ht=>by
      obtain ⟨y,hy,rfl⟩:=List.mem_map.1 ht
      have:=n3 y hy
      unfold u8a
      split <;> simp [u7u,wInt] <;> omega) (by rw [List.length_map]; exact n2)
     have hST:=fun w' (h:Below wo.heap.size wo w')=>stmtsText_104 a.body w' fC a.body.length fc3 n6 n7 (hfb.keeps (u0w h fun b hb=>by have:b<w.heap.size:=hb; omega) (fun b hb=>by have:b<w.heap.size:=hb; have:=h.size; omega)) hga.2.2.2.2.2.2 hga.2.2.2.2.2.1
     have HST:=hid hST
     have HFP:=hid hfp
     have HFD:=hid hfd
     have HBT:=hid hbt2
     have HLE:=hid hle2
     have HN3:=hid n3
     have HN5:=hid n5
     have hb1:Below wo.heap.size wo (wo.alloc (.cells #[.string (bs a.name),.slice fA a.params.length fc,.slice fB a.shared.length fc2,.slice fC a.body.length fc3] 75)):=u0j _ _
     have HB1:=hid hb1
     clear hrows hcs ha hfp hfd hfb hmem hga hbr hbo lx hbt hbt2 hle hle2 hP hST n3 n5 n6 n7 hb1
     go_wp2_with fail
     go_loopw [8,9] (fun s i wr=>∃ (j:Nat) (v:Value),j≤a.params.length∧i=.int .i64 j∧s=v∧OwnS wr (wo.heap.size+1) v ((a.params.take j).map u8a)∧Below (wo.heap.size+1) (wo.alloc (.cells #[.string (bs a.name),.slice fA a.params.length fc,.slice fB a.shared.length fc2,.slice fC a.body.length fc3] 75)) wr) (fun _ i _=>a.params.length - (intOf i).toNat)
     case atStart=>exact ⟨0,_,Nat.zero_le _,rfl,rfl,OwnS.nil _ _,Below.refl _ _⟩
     case round =>
      obtain ⟨j,v,hj,rfl,rfl,hown,hbi⟩:=hrel
      obtain ⟨wi,rfl⟩:∃ z,z=wr:=⟨_,rfl⟩
      have hzi:=hbi.size
      simp only [u0e] at hzi
      have li:wi.heap[wo.heap.size]? = some (.cells #[.string (bs a.name),.slice fA a.params.length fc,.slice fB a.shared.length fc2,.slice fC a.body.length fc3] 75 (0,0)):=(hbi.block _ (by omega)).trans (u0c _ _)
      have xi0:=cell_of_row _ _ 0 _ _ _ li
      have xi1:=cell_of_row _ _ 1 _ _ _ li
      have hbw:Below wo.heap.size wo wi:=HB1.out.trans (hbi.mono (by omega))
      have HBI:=hid hbi
      have HOWN:=hid hown
      have HLI:=hid li
      have HBW:=hid hbw
      by_cases hlt2:j<a.params.length
      ·obtain ⟨y,hj2⟩:∃ y,a.params[j]? = some y:=⟨a.params[j],List.getElem?_eq_getElem hlt2⟩
       obtain ⟨g2,o2,rfl,_,hPg2,hrows2⟩:=u2c (by decide) (fun P w cs a h=>⟨.string (bs a.1),by unfold rdP at h; subst h; rfl⟩) (HFP.out.keeps u2l (u0w hbw fun b hb=>by have:b<w.heap.size:=hb; omega) (fun b hb=>hb)) (by omega)
       obtain ⟨cs2,hcs2,hrd2⟩:=hrows2 j y hj2
       have hrd2:cs2=[.string (bs y.1),.bool y.2]:=hrd2
       subst hrd2
       have d0:=hcs2 0 _ rfl
       have d1:=hcs2 1 _ rfl
       simp only [Nat.add_zero] at d0
       have hin2:(0:Int)≤j∧(j:Int)<a.params.length:=⟨by omega,by omega⟩
       have hy16:=HN3.out y (List.mem_of_getElem? hj2)
       obtain ⟨y,bf⟩:=y
       simp only at d0 d1 hy16
       clear hrows2 hcs2 hbi hown li hbw
       cases bf
       ·have a1:=add_r3 [105,110,116,32] y ⟨#[105,110,116,32]⟩ rfl (by simp; omega)
        obtain ⟨t,ht⟩:∃ t,[105,110,116,32]++y=t:=⟨_,rfl⟩
        rw [ht] at a1
        have hT:(a.params.take (j+1)).map u8a=(a.params.take j).map u8a++[t]:=by rw [List.take_add_one,hj2,List.map_append,← ht]; rfl
        have HT:=hid hT
        clear hT ht hj2
        go_wp2_with (refine u2q rfl _ _ rfl (wo.heap.size+1) _ ((a.params.take j).map u8a) t rfl (by exact HOWN.out) wi.heap.size rfl rfl (by rw [List.length_map,List.length_take]; omega) (by omega) ?_; intro v' w4 ho4 hb4; have HO4:=hid ho4; have HB4:=hid hb4; clear ho4 hb4)
        go_roundw
        case rel=>exact ⟨j+1,_,by omega,by go_num,rfl,by rw [HT.out]; exact HO4.out,HBI.out.trans HB4.out⟩
        case measure=>simp [intOf]; omega
       ·have a1:=add_r3 [98,117,102,102,101,114,32] y ⟨#[98,117,102,102,101,114,32]⟩ rfl (by simp; omega)
        obtain ⟨t,ht⟩:∃ t,[98,117,102,102,101,114,32]++y=t:=⟨_,rfl⟩
        rw [ht] at a1
        have hT:(a.params.take (j+1)).map u8a=(a.params.take j).map u8a++[t]:=by rw [List.take_add_one,hj2,List.map_append,← ht]; rfl
        have HT:=hid hT
        clear hT ht hj2
        go_wp2_with (refine u2q rfl _ _ rfl (wo.heap.size+1) _ ((a.params.take j).map u8a) t rfl (by exact HOWN.out) wi.heap.size rfl rfl (by rw [List.length_map,List.length_take]; omega) (by omega) ?_; intro v' w4 ho4 hb4; have HO4:=hid ho4; have HB4:=hid hb4; clear ho4 hb4)
        go_roundw
        case rel=>exact ⟨j+1,_,by omega,by go_num,rfl,by rw [HT.out]; exact HO4.out,HBI.out.trans HB4.out⟩
        case measure=>simp [intOf]; omega
      ·have ht:a.params.take j=a.params:=List.take_of_length_le (by omega)
       rw [ht] at HOWN
       have hb:T0++hK a=T0++[32,107,101,114,110,101,108,32]++a.name++[32,40]++u1c (a.params.map u8a)++[32,41,32,123]:=by unfold hK; simp only [List.append_assoc]
       have hle:=HLE.out
       have hbe:Below wi.heap.size wi wi.drew:=(Below.refl _ _).drew
       have HC1:=hid (commas_103 (a.params.map u8a) (by omega) (by rw [List.length_map]; omega) wi.drew (wo.heap.size+1) _ (HOWN.out.below hbe))
       have HBE:=hid hbe
       obtain ⟨nm,hnm⟩:∃ t,a.name=t:=⟨_,rfl⟩
       obtain ⟨cm,hcm⟩:∃ t,u1c (a.params.map u8a)=t:=⟨_,rfl⟩
       rw [hcm] at HC1 hb hcs1
       rw [hnm] at hb xi0 n1 HLI
       simp only [List.length_append] at hle
       have hh:=congrArg List.length hb
       simp only [List.length_append,List.length_cons,List.length_nil] at hh
       have a1:=u1z T0 [32,107,101,114,110,101,108,32] ⟨#[32,107,101,114,110,101,108,32]⟩ rfl (by first | omega | (simp; omega))
       obtain ⟨P1,hP1⟩:∃ P,T0++[32,107,101,114,110,101,108,32]=P:=⟨_,rfl⟩
       have l1:P1.length=T0.length+([32,107,101,114,110,101,108,32]:List UInt8).length:=by rw [← hP1,List.length_append]
       (try simp only [List.length_cons,List.length_nil] at l1)
       rw [hP1] at a1 hb
       have a2:=u3m P1 nm (by first | omega | (simp; omega))
       obtain ⟨P2,hP2⟩:∃ P,P1++nm=P:=⟨_,rfl⟩
       have l2:P2.length=P1.length+nm.length:=by rw [← hP2,List.length_append]
       (try simp only [List.length_cons,List.length_nil] at l2)
       rw [hP2] at a2 hb
       have a3:=u1z P2 [32,40] ⟨#[32,40]⟩ rfl (by first | omega | (simp; omega))
       obtain ⟨P3,hP3⟩:∃ P,P2++[32,40]=P:=⟨_,rfl⟩
       have l3:P3.length=P2.length+([32,40]:List UInt8).length:=by rw [← hP3,List.length_append]
       (try simp only [List.length_cons,List.length_nil] at l3)
       rw [hP3] at a3 hb
       have a4:=u3m P3 cm (by first | omega | (simp; omega))
       obtain ⟨P4,hP4⟩:∃ P,P3++cm=P:=⟨_,rfl⟩
       have l4:P4.length=P3.length+cm.length:=by rw [← hP4,List.length_append]
       (try simp only [List.length_cons,List.length_nil] at l4)
       rw [hP4] at a4 hb
       have a5:=u1z P4 [32,41,32,123] ⟨#[32,41,32,123]⟩ rfl (by first | omega | (simp; omega))
       obtain ⟨P5,hP5⟩:∃ P,P4++[32,41,32,123]=P:=⟨_,rfl⟩
       have l5:P5.length=P4.length+([32,41,32,123]:List UInt8).length:=by rw [← hP5,List.length_append]
       (try simp only [List.length_cons,List.length_nil] at l5)
       rw [hP5] at a5 hb
       have HBB:=hid hb
       clear hbi hown li hbw ht hnm hcm hle hh hb hbe hP1 l1 hP2 l2 hP3 l3 hP4 l4 hP5 l5
       go_wp2_with fail
       go_region_held3 (fun w'=>w'.cell? ⟨wo.heap.size,0,none⟩=some (.string (bs nm))) (first | exact xi0 | exact (qc 0).trans rfl) ((first | (go_at_call 103; refine HC1.out.mono ?_; rintro e w4 ⟨rfl,hb4⟩; obtain ⟨qc,_,_,l4⟩:=u0a (q:=wo.heap.size) (u0d hb4 (some (wo.heap.size+wi.heap.size+10))) (u2d HLI.out) (by omega))))
       have HB4:=hid (HBI.out.trans ((seq HBE.out hb4).mono hzi))
       clear hb4 qc l4
       go_wp2_with fail
       go_loopw [3,10] (fun s i wr=>∃ (j:Nat) (Pj:List UInt8),j≤a.shared.length∧i=.int .i64 j∧s=.string (bs Pj)∧P5++(a.shared.take j).flatMap u7e=Pj∧Below (wo.heap.size+1) (wo.alloc (.cells #[.string (bs a.name),.slice fA a.params.length fc,.slice fB a.shared.length fc2,.slice fC a.body.length fc3] 75)) wr) (fun _ i _=>a.shared.length - (intOf i).toNat)
       case atStart=>exact ⟨0,P5,Nat.zero_le _,rfl,rfl,by simp,HB4.out⟩
       case round =>
        clear HBI HOWN HLI HBW HBE HB4 HC1 xi0 xi1 hzi hj hlt2
        obtain ⟨j,S1,hj,rfl,rfl,hP,hbi⟩:=hrel
        obtain ⟨wi,rfl⟩:∃ z,z=wr:=⟨_,rfl⟩
        have hzi:=hbi.size
        simp only [u0e] at hzi
        have li:wi.heap[wo.heap.size]? = some (.cells #[.string (bs a.name),.slice fA a.params.length fc,.slice fB a.shared.length fc2,.slice fC a.body.length fc3] 75 (0,0)):=(hbi.block _ (by omega)).trans (u0c _ _)
        have xi2:=cell_of_row _ _ 2 _ _ _ li
        have xi3:=cell_of_row _ _ 3 _ _ _ li
        have hbw:Below wo.heap.size wo wi:=HB1.out.trans (hbi.mono (by omega))
        have HBI:=hid hbi
        have HLI:=hid li
        have HBW:=hid hbw
        have hle:=HLE.out
        have hh:=congrArg List.length HBB.out
        have hS1:=congrArg List.length hP
        have hfl:=fm_le u7e a.shared j
        simp only [List.length_append] at hle hh hS1
        by_cases hlt3:j<a.shared.length
        ·obtain ⟨y,hj2⟩:∃ y,a.shared[j]? = some y:=⟨a.shared[j],List.getElem?_eq_getElem hlt3⟩
         obtain ⟨g3,o3,rfl,_,hPg3,hrows3⟩:=u2c (by decide) (fun P w cs a h=>⟨.string (bs a.1),by unfold rdA at h; subst h; rfl⟩) (HFD.out.keeps u2z (u0w hbw fun b hb=>by have:b<w.heap.size:=hb; omega) (fun b hb=>hb)) (by omega)
         obtain ⟨cs3,hcs3,hrd3⟩:=hrows3 j y hj2
         have hrd3:cs3=[.string (bs y.1),.int .i64 y.2]:=hrd3
         subst hrd3
         have d0:=hcs3 0 _ rfl
         have d1:=hcs3 1 _ rfl
         simp only [Nat.add_zero] at d0
         have hin3:(0:Int)≤j∧(j:Int)<a.shared.length:=⟨by omega,by omega⟩
         obtain ⟨y1,y2,y3⟩:=HN5.out y (List.mem_of_getElem? hj2)
         obtain ⟨sy,n⟩:=y
         simp only at d0 d1 y1 y2 y3
         have hb:P5++(a.shared.take (j+1)).flatMap u7e=S1++[32,115,104,97,114,101,100,32]++sy++[32,91,32]++decL n++[32,93,32,59]:=by
          rw [fm_take u7e a.shared j _ hj2,← List.append_assoc,hP,sharedG_eq sy n (by omega)]; simp only [List.append_assoc]
         have hsl:(decL n).length≤11:=by unfold decL; rw [if_neg (by omega)]; exact digL_len 10 n.toNat (by omega)
         have hbe:Below wi.heap.size wi wi.drew:=(Below.refl _ _).drew
         have HC1:=hid (digits_105 wi.drew n (by omega) (by omega))
         have HBE:=hid hbe
         have hPg4:g3<wi.drew.heap.size:=by have:g3<w.heap.size:=hPg3; have:=hbe.size; omega
         have e0:wi.drew.cell? ⟨g3,o3+j * 2,none⟩=some (.string (bs sy)):=d0
         have e1:wi.drew.cell? ⟨g3,o3+j * 2+1,none⟩=some (.int .i64 n):=d1
         obtain ⟨sd,hsd⟩:∃ t,decL n=t:=⟨_,rfl⟩
         rw [hsd] at hb HC1 hsl
         have a1:=u1z S1 [32,115,104,97,114,101,100,32] ⟨#[32,115,104,97,114,101,100,32]⟩ rfl (by first | omega | (simp; omega))
         obtain ⟨P1,hP1⟩:∃ P,S1++[32,115,104,97,114,101,100,32]=P:=⟨_,rfl⟩
         have l1:P1.length=S1.length+([32,115,104,97,114,101,100,32]:List UInt8).length:=by rw [← hP1,List.length_append]
         (try simp only [List.length_cons,List.length_nil] at l1)
         rw [hP1] at a1 hb
         have a2:=u3m P1 sy (by first | omega | (simp; omega))
         obtain ⟨P2,hP2⟩:∃ P,P1++sy=P:=⟨_,rfl⟩
         have l2:P2.length=P1.length+sy.length:=by rw [← hP2,List.length_append]
         (try simp only [List.length_cons,List.length_nil] at l2)
         rw [hP2] at a2 hb
         have a3:=u1z P2 [32,91,32] ⟨#[32,91,32]⟩ rfl (by first | omega | (simp; omega))
         obtain ⟨P3,hP3⟩:∃ P,P2++[32,91,32]=P:=⟨_,rfl⟩
         have l3:P3.length=P2.length+([32,91,32]:List UInt8).length:=by rw [← hP3,List.length_append]
         (try simp only [List.length_cons,List.length_nil] at l3)
         rw [hP3] at a3 hb
         have a4:=u3m P3 sd (by first | omega | (simp; omega))
         obtain ⟨P4,hP4⟩:∃ P,P3++sd=P:=⟨_,rfl⟩
         have l4:P4.length=P3.length+sd.length:=by rw [← hP4,List.length_append]
         (try simp only [List.length_cons,List.length_nil] at l4)
         rw [hP4] at a4 hb
         have a5:=u1z P4 [32,93,32,59] ⟨#[32,93,32,59]⟩ rfl (by first | omega | (simp; omega))
         obtain ⟨P5,hP5⟩:∃ P,P4++[32,93,32,59]=P:=⟨_,rfl⟩
         have l5:P5.length=P4.length+([32,93,32,59]:List UInt8).length:=by rw [← hP5,List.length_append]
         (try simp only [List.length_cons,List.length_nil] at l5)
         rw [hP5] at a5 hb
         have HB3:=hid hb
         clear hrows3 hcs3 hbi li hbw hP hb hbe hle hh hS1 hfl hsd hP1 l1 hP2 l2 hP3 l3 hP4 l4 hP5 l5
         go_wp2_with fail
         go_region_held3 (fun w'=>w'.cell? ⟨wo.heap.size,2,none⟩=some (.slice (some ⟨g3,o3,none⟩) a.shared.length fc2)∧w'.cell? ⟨g3,o3+j * 2,none⟩=some (.string (bs sy))∧w'.cell? ⟨g3,o3+j * 2+1,none⟩=some (.int .i64 n)) (first | exact ⟨xi2,d0,d1⟩ | exact ⟨(qc 2).trans rfl,(hb4.cell hPg4).trans e0,(hb4.cell hPg4).trans e1⟩) ((first | (go_at_call 105; refine HC1.out.mono ?_; rintro e w4 ⟨rfl,hb4⟩; obtain ⟨qc,_,_,l4⟩:=u0a (q:=wo.heap.size) (u0d hb4 (some (wo.heap.size+wi.heap.size+10))) (u2d HLI.out) (by omega))))
         have HB4:=hid (HBI.out.trans ((seq HBE.out hb4).mono hzi))
         clear hb4 qc l4
         go_wp2
         go_roundw
         case rel=>exact ⟨j+1,_,by omega,by go_num,rfl,HB3.out,HB4.out⟩
         case measure=>simp [intOf]; omega
        ·have hPx:P5++a.shared.flatMap u7e=S1:=by rw [← hP,List.take_of_length_le (by omega)]
         have hb:S0++(krs.take (k+1)).flatMap gK=S1++gSs a.body++[32,125]:=by rw [HBT.out,HBB.out,hPx]
         have HS2:=hid (HST.out _ hbw)
         obtain ⟨b0,hb0⟩:∃ t,gSs a.body=t:=⟨_,rfl⟩
         rw [hb0] at hb HS2 hle
         have a1:=u3m S1 b0 (by first | omega | (simp; omega))
         obtain ⟨P1,hP1⟩:∃ P,S1++b0=P:=⟨_,rfl⟩
         have l1:P1.length=S1.length+b0.length:=by rw [← hP1,List.length_append]
         (try simp only [List.length_cons,List.length_nil] at l1)
         rw [hP1] at a1 hb
         have a2:=u1z P1 [32,125] ⟨#[32,125]⟩ rfl (by first | omega | (simp; omega))
         obtain ⟨P2,hP2⟩:∃ P,P1++[32,125]=P:=⟨_,rfl⟩
         have l2:P2.length=P1.length+([32,125]:List UInt8).length:=by rw [← hP2,List.length_append]
         (try simp only [List.length_cons,List.length_nil] at l2)
         rw [hP2] at a2 hb
         have HB3:=hid hb
         clear hbi li hbw hP hb hle hh hS1 hfl hPx hb0 hP1 l1 hP2 l2
         go_wp2_with fail
         refine HS2.out.mono ?_
         rintro e w5 ⟨rfl,hb5⟩
         have HB5:=hid (HBR.out.trans ((seq HBW.out hb5).mono hzr))
         clear hb5
         go_wp2
         go_roundw
         case rel=>exact ⟨k+1,_,by omega,by go_num,rfl,HB3.out,HB5.out⟩
         case measure=>simp [intOf]; omega
    ·have hPe:T0=S0++krs.flatMap gK:=by rw [← hP,List.take_of_length_le (by omega)]
     have HPE:=hid hPe
     clear hP hbr hbo lx hPe
     cases T0 with
     | nil =>
      have he:((bs ([]:List UInt8)).toList).isEmpty=true:=by simp [bs]
      go_wp2
      go_ret
      rw [HWR.out,← HPE.out]
      exact ⟨rfl,HBO.out⟩
     | cons x r =>
      have he:((bs (x :: r)).toList).isEmpty=false:=by rw [u2v]; rfl
      have hse:=fun W:World=>slice_one x r W
      obtain ⟨X,hX⟩:∃ X,bs (x :: r)=X:=⟨_,rfl⟩
      rw [hX] at he hse ⊢
      clear hX
      go_wp2
      go_ret
      rw [HWR.out,← HPE.out]
      exact ⟨rfl,HBO.out⟩
theorem gI_long (i:It):5≤(gI i).length:=by
 cases i <;> simp [gI,u8z,u7t,u8u] <;> omega
theorem flat_long:∀ l:List It,5 * l.length≤(l.flatMap gI).length
 | []=>by simp
 | i :: l=>by
  have h1:=flat_long l
  have h2:=gI_long i
  rw [List.flatMap_cons,List.length_append,List.length_cons]
  omega
theorem valid_few {q:Pg} (h:u2p q=true):q.fns.length≤1000∧q.krs.length≤1000:=by
 have h1:=valid_len h
 have h2:=fitP_ok (validP_fit h)
 unfold writ at h1
 rw [gP_txt h2,List.length_drop] at h1
 have h3:=flat_long q.its
 rw [its_len] at h3
 omega
theorem fldm2:∀ (a b c:Value) (w:World),(Instr.field 101 (.agg #[a,b,c]) 2).run Tryz.prog w=.ok c w:=fun _ _ _ _=>by kernel_rfl
def VB (q:Pg) (w:World) (A:Option Addr) (m c:Nat) (B:Option Addr) (mb cb:Nat) (b:Bool):Prop :=
 Calls Tryz.prog 27 #[.agg #[.slice A m c,.slice B mb cb]] w fun e w'=>e=.returned (.bool b)∧Below w.heap.size w w'
theorem rvalid_27 (q:Pg) (w:World) (A:Option Addr) (m c:Nat) (B:Option Addr) (mb cb:Nat) (hp:PgAr w A m c B mb cb q):VB q w A m c B mb cb (u2p q):=by
 have z1:=hp.f.len
 have z2:=hp.k.len
 subst z1; subst z2
 have HS:=hid (fun w' (h:Below w.heap.size w w')=>sized_56 q w' A q.fns.length c B q.krs.length cb (hp.below h))
 have HB0:=hid (u0j w (.cells #[.slice A q.fns.length c,.slice B q.krs.length cb] 26))
 obtain ⟨sp,sd,sr,hsz⟩:∃ sp sd sr,szP q=⟨sp,sd,sr⟩:=⟨_,_,_,rfl⟩
 have hsr:sr=fitP q:=by
  cases hf:fitP q
  ·have:=szP_wrong hf; rw [hsz] at this; exact this
  ·have:=szP_right hf; rw [hsz] at this; injection this
 rw [hsz] at HS
 have hfd:=fldm2
 have HP:=hid hp
 clear hp hsz
 unfold VB
 by_cases h1:q.fns.length≤1000
 rotate_left 1
 ·have hv:u2p q=false:=by
   cases h:u2p q
   ·rfl
   ·exact absurd (valid_few h).1 h1
  rw [hv]
  clear HS hv hsr
  go_enter Tryz.func27,Tryz.ntmps27
  go_wp2
  go_ret
  exact ⟨rfl,HB0.out⟩
 by_cases h2:q.krs.length≤1000
 rotate_left 1
 ·have hv:u2p q=false:=by
   cases h:u2p q
   ·rfl
   ·exact absurd (valid_few h).2 h2
  rw [hv]
  clear HS hv hsr
  go_enter Tryz.func27,Tryz.ntmps27
  go_wp2
  go_ret
  exact ⟨rfl,HB0.out⟩
 cases hf:fitP q
 ·have hv:u2p q=false:=by unfold u2p; rw [hf]; rfl
  rw [hf] at hsr
  subst hsr
  rw [hv]
  clear hv hf
  go_enter Tryz.func27,Tryz.ntmps27
  go_wp2_with fail
  refine (HS.out _ HB0.out).mono ?_
  rintro e w1 ⟨rfl,hb1⟩
  have HB1:=hid (seq HB0.out hb1)
  clear hb1
  go_wp2
  go_ret
  exact ⟨rfl,HB1.out⟩
 ·have hv:u2p q=decide ((writ q).length≤4000):=by unfold u2p; rw [hf]; rfl
  have HT:=hid (fun w' (h:Below w.heap.size w w')=>text_55 q w' A q.fns.length c B q.krs.length cb (HP.out.below h) hf (by omega))
  rw [hf] at hsr
  subst hsr
  rw [hv]
  have hd:decide (((bs (writ q)).size:Int)≤4000)=decide ((writ q).length≤4000):=by rw [u3t]; by_cases h:(writ q).length≤4000 <;> simp [h] <;> omega
  obtain ⟨b,hb⟩:∃ b,decide ((writ q).length≤4000)=b:=⟨_,rfl⟩
  rw [hb] at hd ⊢
  obtain ⟨X,hX⟩:∃ X,bs (writ q)=X:=⟨_,rfl⟩
  rw [hX] at hd HT
  clear hv hf hb hX
  go_enter Tryz.func27,Tryz.ntmps27
  go_wp2_with fail
  refine (HS.out _ HB0.out).mono ?_
  rintro e w1 ⟨rfl,hb1⟩
  obtain ⟨_,_,_,l1⟩:=u0a (q:=w.heap.size) (u0d hb1 (some (w.heap.size+10))) (u0c _ _) (by omega)
  have HB1:=hid (seq HB0.out hb1)
  clear hb1
  go_wp2_with fail
  refine (HT.out _ HB1.out).mono ?_
  rintro e w2 ⟨rfl,hb2⟩
  have HB2:=hid (seq HB1.out hb2)
  clear hb2
  go_wp2
  go_ret
  first | exact ⟨rfl,HB2.out⟩ | (refine ⟨?_,HB2.out⟩; rw [← hd]; simp; done) | (refine ⟨?_,HB2.out⟩; simp [hd]; done)
theorem rtext_23 (q:Pg) (w:World) (A:Option Addr) (m c:Nat) (B:Option Addr) (mb cb:Nat) (hp:PgAr w A m c B mb cb q) :
  Calls Tryz.prog 23 #[.agg #[.slice A m c,.slice B mb cb]] w fun e w'=>e=.returned (.tuple #[.string (bs (u6w q).1),.int .i64 (u6w q).2])∧Below w.heap.size w w':=by
 have HB0:=hid (u0j w (.cells #[.slice A m c,.slice B mb cb] 26))
 have HV:=hid (rvalid_27 q _ A m c B mb cb (hp.below HB0.out))
 unfold VB at HV
 cases hv:u2p q
 ·rw [textP_bad hv]
  rw [hv] at HV
  clear hv hp
  go_enter Tryz.func23,Tryz.ntmps23
  go_wp2_with fail
  refine HV.out.mono ?_
  rintro e w1 ⟨rfl,hb1⟩
  have HB1:=hid (seq HB0.out hb1)
  clear hb1
  go_wp2
  go_ret2
  exact ⟨rfl,HB1.out⟩
 ·have hfew:=valid_few hv
  have HT:=hid (fun w' (h:Below w.heap.size w w')=>text_55 q w' A m c B mb cb (hp.below h) (validP_fit hv) (by omega))
  rw [textP_ok hv]
  rw [hv] at HV
  clear hv hp hfew
  go_enter Tryz.func23,Tryz.ntmps23
  go_wp2_with fail
  refine HV.out.mono ?_
  rintro e w1 ⟨rfl,hb1⟩
  obtain ⟨_,_,_,l1⟩:=u0a (q:=w.heap.size) (u0d hb1 (some (w.heap.size+10))) (u0c _ _) (by omega)
  have HB1:=hid (seq HB0.out hb1)
  clear hb1
  go_wp2_with fail
  refine (HT.out _ HB1.out).mono ?_
  rintro e w2 ⟨rfl,hb2⟩
  have HB2:=hid (seq HB1.out hb2)
  clear hb2
  go_wp2
  go_ret2
  exact ⟨rfl,HB2.out⟩
theorem sizeP_bad {q:Pg} (h:u2p q=false):sizeP q=(0,0,1):=by unfold sizeP; rw [h]; rfl
theorem sizeP_ok {q:Pg} (h:u2p q=true):sizeP q=(u9j q,depthP q,0):=by unfold sizeP; rw [h]; rfl
theorem rsize_25 (q:Pg) (w:World) (A:Option Addr) (m c:Nat) (B:Option Addr) (mb cb:Nat) (hp:PgAr w A m c B mb cb q) :
  Calls Tryz.prog 25 #[.agg #[.slice A m c,.slice B mb cb]] w fun e w'=>e=.returned (.tuple #[.int .i64 (sizeP q).1,.int .i64 (sizeP q).2.1,.int .i64 (sizeP q).2.2])∧Below w.heap.size w w':=by
 have HB0:=hid (u0j w (.cells #[.slice A m c,.slice B mb cb] 26))
 have HV:=hid (rvalid_27 q _ A m c B mb cb (hp.below HB0.out))
 unfold VB at HV
 cases hv:u2p q
 ·rw [sizeP_bad hv]
  rw [hv] at HV
  clear hv hp
  go_enter Tryz.func25,Tryz.ntmps25
  go_wp2_with fail
  refine HV.out.mono ?_
  rintro e w1 ⟨rfl,hb1⟩
  have HB1:=hid (seq HB0.out hb1)
  clear hb1
  go_wp2
  go_ret3
  exact ⟨rfl,HB1.out⟩
 ·have HT:=hid (fun w' (h:Below w.heap.size w w')=>sized_56 q w' A m c B mb cb (hp.below h))
  rw [szP_right (validP_fit hv)] at HT
  rw [sizeP_ok hv]
  rw [hv] at HV
  obtain ⟨pp,hpp⟩:∃ x,u9j q=x:=⟨_,rfl⟩
  obtain ⟨dd,hdd⟩:∃ x,depthP q=x:=⟨_,rfl⟩
  rw [hpp,hdd] at HT ⊢
  clear hv hp hpp hdd
  go_enter Tryz.func25,Tryz.ntmps25
  go_wp2_with fail
  refine HV.out.mono ?_
  rintro e w1 ⟨rfl,hb1⟩
  obtain ⟨_,_,_,l1⟩:=u0a (q:=w.heap.size) (u0d hb1 (some (w.heap.size+10))) (u0c _ _) (by omega)
  have HB1:=hid (seq HB0.out hb1)
  clear hb1
  go_wp2_with fail
  refine (HT.out _ HB1.out).mono ?_
  rintro e w2 ⟨rfl,hb2⟩
  have HB2:=hid (seq (seq HB1.out hb2) (u0j w2 (.cells #[.int .i64 pp,.int .i64 dd,.bool true] 101)))
  clear hb2
  go_wp2_with fail
  go_quiet (fail)
  go_wp2
  go_ret3
  exact ⟨rfl,by first | exact HB2.out | exact u2w HB2.out _⟩
theorem size_24 (q:Pg) (w:World) (A:Option Addr) (m c:Nat) (B:Option Addr) (mb cb:Nat) (hG:Gl w) (hp:PgAr w A m c B mb cb q) (hsm:fitP q=true→q.fns.length+q.krs.length≤4001) :
  Calls Tryz.prog 24 #[.agg #[.slice A m c,.slice B mb cb]] w fun e w'=>e=.returned (.tuple #[.int .i64 (sizeP q).1,.int .i64 (sizeP q).2.1,.int .i64 (sizeP q).2.2])∧Below w.heap.size w w':=by
 have HB0:=hid (u0j w (.cells #[.slice A m c,.slice B mb cb] 26))
 have HV:=hid (valid_ar q _ A m c B mb cb (hG.bel HB0.out) (hp.below HB0.out) hsm)
 have HM:=hid (fun w1 (h1:Below w.heap.size w w1)=>u6r q w1 A m c B mb cb (hG.bel h1).z (hG.bel h1).tabs (hp.below h1).f (hp.below h1).k hp.gf hp.gk hp.lf hp.lk)
 cases hv:u2p q
 ·rw [sizeP_bad hv]
  rw [hv] at HV
  clear hv hp hsm
  go_enter Tryz.func24,Tryz.ntmps24
  go_wp2_with fail
  refine HV.out.mono ?_
  rintro e w1 ⟨rfl,hb1⟩
  have HB1:=hid (seq HB0.out hb1)
  clear hb1
  go_wp2
  go_ret3
  exact ⟨rfl,HB1.out⟩
 ·have hf:=validP_fit hv
  rw [sizeP_ok hv]
  rw [hv] at HV
  have HF:=hid hf
  clear hv hp hsm hf
  go_enter Tryz.func24,Tryz.ntmps24
  go_wp2_with fail
  refine HV.out.mono ?_
  rintro e w1 ⟨rfl,hb1⟩
  obtain ⟨_,_,_,l1⟩:=u0a (q:=w.heap.size) (u0d hb1 (some (w.heap.size+10))) (u0c _ _) (by omega)
  have HB1:=hid (seq HB0.out hb1)
  clear hb1
  go_wp2_with fail
  refine (HM.out _ HB1.out).mono ?_
  rintro e w2 ⟨hb2,p2,d2,rfl,hpd⟩
  obtain ⟨rfl,rfl⟩:=hpd HF.out
  rw [HF.out]
  obtain ⟨pp,hpp⟩:∃ x,u9j q=x:=⟨_,rfl⟩
  obtain ⟨dd,hdd⟩:∃ x,depthP q=x:=⟨_,rfl⟩
  rw [hpp,hdd]
  have HB2:=hid (seq (seq HB1.out hb2) (u0j w2 (.cells #[.int .i64 pp,.int .i64 dd] 96)))
  have HPP:=hid hpp
  have HDD:=hid hdd
  clear hb2 hpd hpp hdd
  go_wp2_with fail
  go_quiet (fail)
  go_wp2
  go_ret3
  rw [HPP.out,HDD.out]
  exact ⟨rfl,by first | exact HB2.out | exact u2w HB2.out _⟩
theorem texts_walk (q:Pg) (w:World) (A:Option Addr) (m c:Nat) (B:Option Addr) (mb cb:Nat) (hG:Gl w) (hp:PgAr w A m c B mb cb q) :
  Calls Tryz.prog 5 #[.agg #[.slice A m c,.slice B mb cb]] w fun e w'=>e=.returned (.bool true)∧Below w.heap.size w w':=by
 have HG:=hid hG
 have HP:=hid hp
 have HW0:=hid (u0j w (.cells #[.slice A m c,.slice B mb cb] 26))
 clear hG hp
 go_enter Tryz.func5,Tryz.ntmps5
 go_wp2_with fail
 refine (great_21 q _ A m c B mb cb (HP.out.below HW0.out)).mono ?_
 rintro e w1 ⟨⟨g,rfl,hgr⟩,hb1⟩
 obtain ⟨_,_,_,l1⟩:=u0a (q:=w.heap.size) (u0d hb1 (some (w.heap.size+10))) (u0c _ _) (by omega)
 have HB1:=hid (seq HW0.out hb1)
 have hz1:w.heap.size+1≤w1.heap.size:=by have:=hb1.size; simpa using this
 clear hb1
 cases g
 rotate_left 1
 ·clear hgr
  go_wp2_with fail
  refine (awake_any _ (HG.out.bel HB1.out)).mono ?_
  rintro e w9 ⟨rfl,hb9⟩
  have HB9:=hid (seq HB1.out hb9)
  clear hb9
  go_wp2
  go_ret
  exact ⟨rfl,HB9.out⟩
 have hsm:fitP q=true→q.fns.length+q.krs.length≤4001:=fun hf=>by have:=hgr rfl hf; omega
 clear hgr
 obtain ⟨tp,ep,htp⟩:∃ tp ep,u6w q=(tp,ep):=⟨_,_,rfl⟩
 obtain ⟨sp,sd,se,hsp⟩:∃ a b c,sizeP q=(a,b,c):=⟨_,_,_,rfl⟩
 obtain ⟨vp,hvp⟩:∃ v,u2p q=v:=⟨_,rfl⟩
 have H22:=hid (text_ar q w1 A m c B mb cb (HG.out.bel HB1.out) (HP.out.below HB1.out) hsm)
 have H23:=hid (fun w' (h:Below w.heap.size w w')=>rtext_23 q w' A m c B mb cb (HP.out.below h))
 have H24:=hid (fun w' (h:Below w.heap.size w w')=>size_24 q w' A m c B mb cb (HG.out.bel h) (HP.out.below h) hsm)
 have H25:=hid (fun w' (h:Below w.heap.size w w')=>rsize_25 q w' A m c B mb cb (HP.out.below h))
 have H26:=hid (fun w' (h:Below w.heap.size w w')=>valid_ar q w' A m c B mb cb (HG.out.bel h) (HP.out.below h) hsm)
 have H27:=hid (fun w' (h:Below w.heap.size w w')=>(rvalid_27 q w' A m c B mb cb (HP.out.below h):Calls Tryz.prog 27 #[.agg #[.slice A m c,.slice B mb cb]] w' fun e w2=>e=.returned (.bool (u2p q))∧Below w'.heap.size w' w2))
 have HAW:=hid (fun w' (h:Below w.heap.size w w')=>awake_any w' (HG.out.bel h))
 rw [htp] at H22 H23
 rw [hsp] at H24 H25
 rw [hvp] at H26 H27
 simp only at H22 H23 H24 H25
 clear htp hsp hvp hsm
 go_wp2_with fail
 refine H22.out.mono ?_
 rintro e w2 ⟨rfl,hb2⟩
 obtain ⟨_,_,_,l2⟩:=u0a (q:=w.heap.size) (u0d hb2 (some (w.heap.size+w1.heap.size+10))) l1 (by omega)
 have HB2:=hid (seq HB1.out hb2)
 clear hb2
 go_wp2_with fail
 refine (H23.out _ HB2.out).mono ?_
 rintro e w3 ⟨rfl,hb3⟩
 obtain ⟨_,_,_,l3⟩:=u0a (q:=w.heap.size) (u0d hb3 (some (w.heap.size+w2.heap.size+10))) l2 (by omega)
 have HB3:=hid (seq HB2.out hb3)
 clear hb3
 go_wp2_with fail
 refine (H24.out _ HB3.out).mono ?_
 rintro e w4 ⟨rfl,hb4⟩
 obtain ⟨_,_,_,l4⟩:=u0a (q:=w.heap.size) (u0d hb4 (some (w.heap.size+w3.heap.size+10))) l3 (by omega)
 have HB4:=hid (seq HB3.out hb4)
 clear hb4
 go_wp2_with fail
 refine (H25.out _ HB4.out).mono ?_
 rintro e w5 ⟨rfl,hb5⟩
 obtain ⟨q5,_,_,l5⟩:=u0a (q:=w.heap.size) (u0d hb5 (some (w.heap.size+w4.heap.size+10))) l4 (by omega)
 have HB5:=hid (seq HB4.out hb5)
 have HBD:=hid (seq HB5.out ((Below.refl w5.heap.size w5).drew))
 have e1:((bs tp).toList == (bs tp).toList)=true:=by simp
 have e2:(ep == ep)=true:=by simp
 have e3:(sp == sp)=true:=by simp
 have e4:(sd == sd)=true:=by simp
 have e5:(se == se)=true:=by simp
 have e6:(vp == vp)=true:=by simp
 have H26D:=hid (H26.out w5.drew HBD.out)
 have L5:=hid (u2d l5)
 have q50:=q5 0
 have q51:=q5 1
 clear hb5 q5 H22 H23 H24 H25 H26
 go_wp2_with fail
 go_region_held3 (fun w'=>w'.cell? ⟨w.heap.size,0,none⟩=some (.slice A m c)∧w'.cell? ⟨w.heap.size,1,none⟩=some (.slice B mb cb)) (first | exact ⟨q50,q51⟩ | exact ⟨(qc 0).trans rfl,(qc 1).trans rfl⟩ | exact ⟨(qd 0).trans rfl,(qd 1).trans rfl⟩ | exact ⟨(qe 0).trans rfl,(qe 1).trans rfl⟩) ((first | (go_at_call 26; refine H26D.out.mono ?_; rintro e w6 ⟨rfl,hb6⟩; obtain ⟨qc,_,_,l6⟩:=u0a (q:=w.heap.size) (u0d hb6 (some (w.heap.size+10))) L5.out (by omega)) | (go_at_call 27; refine (H27.out w6 (seq HBD.out hb6)).mono ?_; rintro e w7 ⟨rfl,hb7⟩; obtain ⟨qd,_,_,l7⟩:=u0a (q:=w.heap.size) (u0d hb7 (some (w.heap.size+10))) l6 (by omega)) | (go_at_call 14; refine (HAW.out w7 (seq (seq HBD.out hb6) hb7)).mono ?_; rintro e w8 ⟨rfl,hb8⟩; obtain ⟨qe,_,_,l8⟩:=u0a (q:=w.heap.size) (u0d hb8 (some (w.heap.size+10))) l7 (by omega))))
 have HB8:=hid (seq (seq (seq HBD.out hb6) hb7) hb8)
 clear hb6 hb7 hb8 qc qd qe l6 l7 l8
 go_wp2
 go_ret
 exact ⟨rfl,HB8.out⟩
end Go.Proofs.YtbkhnilbgocpnaaGreatDoor.SynC
