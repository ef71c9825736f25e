/- The walk of VehicleTakes. -/
import Derived.Test.YthmekfcgdfckaaaGreatDoorWtXVTl
import Derived.Deep.DeepCutAuto
set_option maxRecDepth 1000000
set_option maxHeartbeats 0
namespace Go.Proofs.YthmekfcgdfckaaaGreatDoor
section
open Go.RowKit
attribute [local go_sem ↓] Go.wp_at_zero Go.wp_at_succ zhy zhp zhu exH_ld exH_st exH_al exG_ld
attribute [local go_sem] zgl zgn zgi rdF_V wrF_V zuu zup rdF_H wrF_H zur zgj zli World.setRow_alloc_new
theorem zv9 (x:Int) (l:List Hp) (a:Option Addr) (n c:Nat) (w:World) (hT:Tab w) (hx: -9223372036854775808≤x∧x≤9223372036854775807) (h:RIn HR w (fun _=>False) a n c l) (hB: ∀y∈l,-9223372036854775808≤y.j∧y.j≤9223372036854775807):
    Calls Tryz.prog 6 #[.int .i64 x,.slice a n c] w fun e w' =>e=.returned (.bool true)∧Below w.heap.size w w' :=by
  have HT:=hide hT;have HS:=hide h;have HB:=hide hB;have HAt:=hide (at_any x 4 w (by decide) (by decide) hx);clear h hB;go_enter Tryz.func6,Tryz.ntmps6;go_wp2_with fail;refine(zae HAt).mono ?_;rintro e w0 ⟨rfl,h0⟩;replace h0:=h0.symm;subst h0;obtain ⟨U,hU⟩: ∃U:Nat,(U:Int)=x % 4:=⟨(x % 4).toNat,Int.toNat_of_nonneg (Int.emod_nonneg _ (by decide))⟩;have hU4:U<4:=by have:=Int.emod_lt_of_pos x (show(0:Int)<4 by decide);omega
  have HU:=hide hU4;rw [←hU];have HF:Hid (Calls Tryz.prog 23 #[.int .i64 (1+(U:Int)),.int .i64 50] w (zh8 w (U+1) 50)):=by
    show Calls _ _ _ _ _
    rw [show(1:Int)+(U:Int)= ((U+1:Nat):Int) by omega];exact zpb (U+1) 50 w HT.out (facOk_50 hU4)
  have hUI: (U:Int)<4:=by omega
  clear hU HAt hT hx hU4;go_wp2_with fail;refine(zae HF).mono ?_;rintro e w1 ⟨⟨m,oa,no,oc,rfl,hv1,ho1⟩,hb1⟩;clear HF;rw [show nwV (outF (U+1) 50 4).ss (outF (U+1) 50 4).sg rtF (outF (U+1) 50 4).fst=facN (U+1) 50 from rfl] at hv1⊢;have HC:=hide (facC_ok U HU.out).1;obtain rfl:no=3:=by rw [←ho1.len];exact fac_len HC.out
  have HTk:=hide (tk_first HU.out 50 (.inl rfl));have hb2:Below w1.heap.size w1 (w1.alloc (.cells (vhC (facN (U+1) 50) m) 40)):=bA1;have hown:=heap_alloc_last w1 (.cells (vhC (facN (U+1) 50) m) 40);have hv2:VIn _ (fun b=>b=w1.heap.size) m (facN (U+1) 50):=(hv1.wide (K' :=fun b=>b=w1.heap.size) fun b e=>.inr (Nat.le_of_eq e.symm)).below hb2;have hw2:=bT hb1 hb2;have HB1:=hide hb1.size;have HD:=hide (zqf _ (HT.out.below hw2));have HO1:=hide ho1;have HH1:=hide (HS.out);have HL1:Hid (RIn HR w1 (fun _=>False) a n c l):=by
    obtain ⟨vs,r1,r2,r3⟩:=HS.out.row;exact⟨⟨vs,IsRow.chg r1 (.of hb1 _) r3,r2.mono (HR.below hb1),r3⟩,HS.out.len,HS.out.cap,HS.out.max⟩
  unfold vhv;clear hv1 ho1 hb1 HS HH1;generalize facN (U+1) 50=F at *;obtain ⟨os,hos⟩: ∃os,os=facO (U+1) 50:=⟨_,rfl⟩;rw [←hos] at HO1;have HOs:=hide hos;clear hos;go_wp2_with fail;generalize w1.alloc (.cells (vhC F m) 40)=W2 at *;refine(zae HD).mono ?_;rintro e w3 ⟨rfl,hb3⟩;have hb13:=bT hb2 hb3;have HOf:=hide (zvv l a n c os _ oa oc w1 w3 HL1.out HO1.out hb13 HB.out);have HV3:=hide (hv2.below hb3);have HW3:=hide ((bT hw2 hb3));have HOw:=hide (zab hown hb3);have HB13:=hide hb13;clear HD hb2 hb3 hv2 hw2 hown hb13 HL1 HB;go_wp2_with fail;refine(zae HOf).mono ?_;rintro e w4 ⟨sa,ns,sc,rfl,hsl,hsj⟩;have hbL:w1.heap.size<w3.heap.size:=zak HOw.out;have HI0:Hid (TL w w1 w3 w1.heap.size (.slice sa ns sc) (offL os l) F m w4):=by
    obtain ⟨vs,h1,h2⟩:=hsj.row;exact⟨HW3.out.trans (hsj.bel.mono HW3.out.size),HB13.out.trans (hsj.bel.mono HB13.out.size),zab HOw.out hsj.bel,HV3.out.below hsj.bel,vs,h1,h2⟩
  have HSL:=hide hsl;have HIn:Hid (∀y∈offL os l,y.k=1→y.o∈os):=off_in HO1.out.len;have HBL:=hide hbL;have hs160:ns≤160:=by rw [←hsl];unfold offL;rw [List.length_map,List.length_take];omega
  have hcs:ns≤sc:=by obtain ⟨vs,h1,-⟩:=hsj.row;rw [hsl] at h1;exact zlo h1
  generalize offL os l=L at *;clear HOf hsj hsl HV3 HW3 HOw HB13 hbL;go_wp2_with fail
  go_loopw [39] (fun i wq=>∃(k:Nat) (vk:Vh) (mk:VA),k≤ns∧i=.int .i64 k∧Hid (TL w w1 w3 w1.heap.size (.slice sa ns sc) L vk mk wq)∧Hid (TkI (U+1) 50 vk)) (fun i _=>ns - (intOf i).toNat)
  case atStart=>exact⟨0,F,m,by omega,rfl,HI0,HTk⟩
  case round=>
    clear HI0 HTk;obtain ⟨wq,rfl⟩: ∃wq:World,wq=wr:=⟨_,rfl⟩;obtain ⟨k,vk,mk,hk,rfl,hI,hP⟩:=hrel
    by_cases hkn:k<ns
    {
    have hkI: (k:Int)<ns:=by omega
    obtain ⟨b,off,mo,rfl,hbo,hrd⟩:=hI.out.hap rfl HSL.out hkn;have HXm:=hide (HIn.out _ (List.getElem_mem (show k<L.length by rw [HSL.out];exact hkn)));generalize L[k]'(by rw [HSL.out];exact hkn)=y at *;rw [HOs.out] at HXm;have HK:Hid (k<ns):=hkn;have hW:Below wq.heap.size wq (wq.alloc (.cells (hpC y mo) 49)):=bA1;have hI2:=hI.out.keep hW;have bw:=bk_v hI2.own;have bh:=hide (heap_alloc_last wq (.cells (hpC y mo) 49));have HDo:=hide (do_any vk mk y mo _ (hI2.veh.wide fun _ e=>e.elim) (HT.out.below hI2.bel) (hbo.below hW));unfold vhv at HDo;rw [hpv_eq] at HDo;have HWl:=hide hW;clear hI2 hbo hkn hk hW;go_upto_region 7 with fail
    generalize wq.alloc (.cells (hpC y mo) 49)=W at *;have bhy:bk W wq.heap.size=some (.cells (hpC y mo) 49 (0,0)):=bh.out;go_wp2_with fail;refine(zae HDo).mono ?_;rintro e w5 ⟨⟨m5,rfl,hv5⟩,hb5⟩;unfold vhv;clear HDo bw bhy hrd;have HSt:=hide (fun h0=>tk_step (U:=U+1) (u:=50) (v:=vk) (x:=y) HC.out hP.out HXm.out h0);have hb6:Below w5.heap.size w5 (w5.alloc (.cells (vhC (doS' vk y).1 m5) 40)):=bA1;have HB5:=hide ((bT hb5 hb6));have HV5:=hide (hv5.below hb6);have hn6:=hide (heap_alloc_last w5 (.cells (vhC (doS' vk y).1 m5) 40));clear hv5 hb5 hb6;generalize doS' vk y=r at *;obtain ⟨rv,re⟩:=r;dsimp only at HSt HB5 HV5 hn6⊢
    by_cases hz:re=0
    {
    subst hz;have HS2:=hide (HSt.out rfl);clear HSt;have HTL:=hide ((hI.out.keep HWl.out).keep HB5.out);go_upto_region 9 with fail
    have HBh:=hide (zab bh.out HB5.out);generalize w5.alloc (.cells (vhC rv m5) 40)=W6 at *;have g1:=zve HTL.out.own;have HR1:=hide (zh0 vk.g mk.g W6 HTL.out.veh.g);have HR2:=hide (fun W' (hW' :Below W6.heap.size W6 W')=>zh0 rv.g m5.g W' (HV5.out.below hW').g);rw [zud,zt2 HS2.out.2.ok0] at HR1;rw [zud,zt2 HS2.out.2.ok] at HR2;have HRc:=hide (fun W' (hW' :Below W6.heap.size W6 W')=>zvz m5.g.a m5.g.n m5.g.c rv.g.ws rv.g.fu W' (HV5.out.below hW').g.ws.at_ HV5.out.g.ws.len HV5.out.g.ws.cap HV5.out.g.ws.max);rw [recs_ok (zrp HS2.out.2.ok).1] at HRc;have HF:Hid (((gOf vk.g.ws).n≤(gOf rv.g.ws).n∧(gOf rv.g.ws).n≤(gOf vk.g.ws).n+1)∧vk.g.t.ver≤rv.g.t.ver∧((gOf vk.g.ws).n< (gOf rv.g.ws).n→y.k=1∧y.o.v≠3∧vk.now≤50∧(gOf rv.g.ws).v=y.o.v∧((gOf vk.g.ws).n=0∨(gOf vk.g.ws).en=true))∧(0≤(gOf vk.g.ws).n∧(gOf vk.g.ws).n≤8)∧(logR rv.g.ws).length≤16):=⟨HS2.out.2.up,HS2.out.2.ver,HS2.out.2.new,(zrr _).n,HS2.out.2.few⟩;have HT2:=hide HS2.out.1;generalize gOf vk.g.ws=s at *;generalize gOf rv.g.ws=t at *;generalize logR rv.g.ws=rl at *;unfold gsv at HR1 HR2;clear HS2;go_wp2_with fail;refine(zae HR1).mono ?_;rintro e w7 ⟨rfl,hb7⟩;clear HR1 g1;have hb8:Below w7.heap.size w7 (w7.alloc (.cells (aS s) 72)):=bA1;have HA:=hide (heap_alloc_last w7 (.cells (aS s) 72));have hb78:=bT hb7 hb8;have g2:=zve (zab hn6.out hb78);have HR3:=hide (HR2.out _ hb78);have HB78:=hide hb78;clear hb7 hb8 HR2 hb78;go_upto_region 10 with fail
    generalize w7.alloc (.cells (aS s) 72)=W7 at *;go_wp2_with fail;refine(zae HR3).mono ?_;rintro e w8 ⟨rfl,hb8⟩;clear HR3 g2;have hb9:Below w8.heap.size w8 (w8.alloc (.cells (aS t) 72)):=bA1;have hT:=heap_alloc_last w8 (.cells (aS t) 72);have hb79:=bT hb8 hb9;have hb69:=HB78.out.trans (hb79.mono HB78.out.size);have hA:=zab HA.out hb79;have hN:=zab hn6.out hb69;have hV:=zab HTL.out.own hb69;have hH:=zab HBh.out hb69;have HB69:=hide hb69;clear hb8 hb9 hb79 HA hb69;go_upto_region 11 with fail
    generalize w8.alloc (.cells (aS t) 72)=W9 at *;have a0:=zaa hA 0 (.int .i64 s.n) rfl;have b0:=zaa hT 0 (.int .i64 t.n) rfl;have v8:=zaa hV 8 (.int .i64 vk.g.t.ver) rfl;have n8:=zaa hN 8 (.int .i64 rv.g.t.ver) rfl;have e1: ¬t.n<s.n:=by have:=HF.out.1;omega
    have e2: ¬s.n+1<t.n:=by have:=HF.out.1;omega
    have e3: ¬rv.g.t.ver<vk.g.t.ver:=by have:=HF.out.2.1;omega
    have e4:0≤s.n∧s.n≤8:=HF.out.2.2.2.1;go_upto_region 13 with fail
    clear e1 e2 e3 v8 n8
    go_cut [135] (fun z wc=>z=.bool false∧wc=W9)
    case first=>
      by_cases hn:s.n<t.n
      {
      obtain ⟨y1,y2,y3,y4,y5⟩:=HF.out.2.2.1 hn;have h0:=zaa hH 0 (.int .i64 y.k) rfl;have h5:=zaa hH 5 (.int .i64 y.o.v) rfl;have v14:=zaa hV 14 (.int .i64 vk.now) rfl;have b1:=zaa hT 1 (.int .i64 t.v) rfl;have a4:=zaa hA 4 (.bool s.en) rfl;rw [y1] at h0;rw [y4] at b1;have d2: (y.o.v==3)=false:=by simpa using y2
      have d3: ¬(50:Int)<vk.now:=by omega
      clear y1 y2 y3 y4
      by_cases hs0:s.n=0
      {
      have d4: ¬(0:Int)<s.n:=by omega
      clear hs0 y5;go_wp2_with fail
      go_meet
      case rel=>exact⟨rfl,rfl⟩
      }
      {
      have d4: (0:Int)<s.n:=by omega
      rw [y5.resolve_left hs0] at a4;clear hs0 y5;go_wp2_with fail
      go_meet
      case rel=>exact⟨rfl,rfl⟩
      }
      }
      {
      go_wp2_with fail
      go_meet
      case rel=>exact⟨rfl,rfl⟩
      }
    case rest=>
      obtain ⟨rfl,hwc⟩:=hcut;replace hwc:=hwc.symm;subst hwc;have n2:=zaa hN 2 (.slice m5.g.a m5.g.n m5.g.c) rfl;have n3:=zaa hN 3 (.int .i64 rv.g.fu) rfl;have HRd:=hide (HRc.out _ HB69.out);have HN:=hide hN;clear hA hH hV hT hN a0 b0 HRc e4;go_wp2_with fail;refine(zae HRd).mono ?_;rintro e w10 ⟨⟨ra,rn,rc,rfl,-,hrn,-,-⟩,hb10⟩;dsimp only at hrn⊢;have hb610:=HB69.out.trans (hb10.mono HB69.out.size);have kN:=bk_v (zab hn6.out hb610);have kV:=bk_v (zab HTL.out.own hb610);have HPt:=hide (hI.out.put HWl.out (HB5.out.trans (hb610.mono HB5.out.size)) (Nat.le_refl _) HB1.out HBL.out (HV5.out.below hb610));have h16: ¬(16:Int)<rn:=by have:=HF.out.2.2.2.2;omega
      clear HRd n2 n3 hrn hb10 hb610 HN;go_wp2_with fail
      go_roundw
      case rel=>exact⟨k+1,rv,m5,HK.out,by go_num,HPt,HT2⟩
      case measure=>have:=HK.out;simp [intOf];omega
    }
    {
    have d: (re !=0)=true:=by simpa using hz
    have HN:=hide ((hI.out.keep HWl.out).keep HB5.out);clear hz HSt HV5 hn6;go_wp2_with fail
    go_roundw
    case rel=>exact⟨k+1,vk,mk,HK.out,by go_num,HN,hP⟩
    case measure=>have:=HK.out;simp [intOf];omega
    }
    }
    {
    have HE:=hide hI.out.bel;have hkk: ¬(k:Int)<ns:=by omega
    clear hI hP hk hkn;go_wp2_with fail;go_ret;exact⟨rfl,HE.out⟩
    }
end
end Go.Proofs.YthmekfcgdfckaaaGreatDoor
