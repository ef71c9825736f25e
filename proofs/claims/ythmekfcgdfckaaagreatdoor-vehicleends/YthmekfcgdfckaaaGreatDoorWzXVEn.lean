/- Facts. -/
import Derived.Test.YthmekfcgdfckaaaGreatDoorWz24
set_option maxRecDepth 1000000
set_option maxHeartbeats 0
namespace Go.Proofs.YthmekfcgdfckaaaGreatDoor
open Go.RowKit
section
attribute [local go_sem ↓] kM kO zhy zhp zhu zxe zy3 exU_st exU_al
attribute [local go_sem] zgl zgn zgi rdF_V wrF_V zy9 zy7 rdF_U wrF_U zy8 zgj zli World.setRow_alloc_new
theorem vEnds_law (x:Int) (l:List Hp) (a:oA) (n c:Nat) (w:World) (hT:Tab w) (hx: -9223372036854775808<=x/\x<=9223372036854775807) (h:RIn HR w (fun _=>False) a n c l) (hB: ∀y∈l,-9223372036854775808<=y.j/\y.j<=9223372036854775807):
 Cq 7 #[iV x,.slice a n c] w fun e w' =>e=.returned (.bool true)/\bZ w w' :=by
 have HT:=uH hT;have HS:=uH h;have HB:=uH hB;have HAt:=uH (zy4 x 4 w (by decide) (by decide) hx);clear h hB;go_enter Tryz.func7,Tryz.ntmps7;go_wp2_with fail;refine(zae HAt).mono ?_;rintro e w0 ⟨rfl,h0⟩;replace h0:=h0.symm;subst h0;obtain ⟨U,hU⟩: ∃U:Nat,(U:Int)=x % 4:=⟨(x % 4).toNat,Int.toNat_of_nonneg (Int.emod_nonneg _ (by decide))⟩;have hU4:U<4:=by have:=Int.emod_lt_of_pos x (show(0:Int)<4 by decide);omega
 have HU:=uH hU4;rw [<-hU];have HF:Hd (Cq 23 #[iV (1+(U:Int)),iV 50] w (zh8 w (U+1) 50)):=by
  show Calls _ _ _ _ _
  rw [show(1:Int)+(U:Int)= ((U+1:Nat):Int) by omega];exact zpb (U+1) 50 w HT.o (zzc hU4)
 have hUI: (U:Int)<4:=by omega
 clear hU HAt hT hx hU4;go_wp2_with fail;refine(zae HF).mono ?_;rintro e w1 ⟨⟨m,oa,no,oc,rfl,hv1,ho1⟩,hb1⟩;clear HF;rw [show nwV (outF (U+1) 50 4).ss (outF (U+1) 50 4).sg rtF (outF (U+1) 50 4).fst=facN (U+1) 50 from rfl] at hv1|-;have HC:=uH (zza U HU.o).1;obtain rfl:no=3:=by rw [<-ho1.len];exact zy5 HC.o
 have HIv:=uH (zy2 HU.o (u:=50) (.inl rfl));have hb2:bZ w1 (w1.alloc (.cells (vhC (facN (U+1) 50) m) 40)):=bA1;have hown:=kP w1 (.cells (vhC (facN (U+1) 50) m) 40);have hv2:VIn _ (fun b=>b=w1.heap.size) m (facN (U+1) 50):=(hv1.wide (K' :=fun b=>b=w1.heap.size) fun b e=>.inr (Kg e.symm)).bl hb2;have hw2:=bT hb1 hb2;have HB1:=uH hb1.size;have HD:=uH (zqf _ (HT.o.bl hw2));have HO1:=uH ho1;have HL1:Hd (RIn HR w1 (fun _=>False) a n c l):=by
  obtain ⟨vs,r1,r2,r3⟩:=HS.o.row;exact⟨⟨vs,IsRow.chg r1 (.of hb1 _) r3,r2.mono (HR.bl hb1),r3⟩,HS.o.len,HS.o.cap,HS.o.max⟩
 unfold vhv;clear hv1 ho1 hb1 HS;generalize (outF (U+1) 50 4).fst=Fi at *;generalize facN (U+1) 50=F at *;generalize hos:facO (U+1) 50=os at *;clear hos;go_wp2_with fail;generalize w1.alloc (.cells (vhC F m) 40)=W2 at *;refine(zae HD).mono ?_;rintro e w3 ⟨rfl,hb3⟩;have hb13:=bT hb2 hb3;have HOf:=uH (fun (W:World) (hW:bZ w3 W)=>zvv l a n c os _ oa oc w1 W HL1.o HO1.o (bT hb13 hW) HB.o);have HV3:=uH (hv2.bl hb3);have HW3:=uH (bT hw2 hb3);have HOw:=uH (zab hown hb3);have HB13:=uH hb13;clear HD hb2 hb3 hv2 hw2 hown hb13 HL1 HB;go_upto_region 4 with fail
 have HRun:=uH (fun (W:World) (mm:VA) (sa:oA) (ns sc:Nat) (hV:VIn W (fun b=>b=w1.heap.size) mm F) (hTW:Tab W) (hr:RIn HR W (fun _=>False) sa ns sc (offL os l))=>zy0 F mm (offL os l) sa ns sc W (hV.wide fun _ e=>e.elim) hTW hr);have hle: (offL os l).length<=160:=by unfold offL;rw [Kr,KQ];omega
 have hrs:runS F (offL os l)= ((offL os l).foldl stp F,(runL F (offL os l)).2,0):=by
  unfold runS;rw [KJ (by rw [HIv.o.ok];simp),KJ (by omega),zw9]
 have HIr:=uH (zy1 (offL os l) 10 F HIv.o);rw [hrs] at HRun;have HLe:=uH hle;generalize (offL os l).foldl stp F=R at *;clear hle hrs HIv
 go_cut [9] (fun z wc=>z=iV 0/\∃mr,Hd (bZ w wc/\wc.heap[w1.heap.size]?=some (vhO R mr)/\VIn wc (fun b=>b=w1.heap.size) mr R))
 case first=>
  have kB:=bk_v HOw.o;have hd:=(kS w3.heap.size w3).drew;have HOd:=uH (HOf.o _ hd);have HRd:=uH (fun (w4:World) (hb4:bZ w3 w4) (sa:oA) (ns sc:Nat) (hl: (offL os l).length=ns) (hj:SJ w1 w3.drew (offL os l) (.slice sa ns sc) w4)=>HRun.o w4 m sa ns sc (HV3.o.bl hb4) (HT.o.bl (bT HW3.o hb4)) (by
   obtain ⟨vs,h1,h2⟩:=hj.row;rw [hl] at h1;have hm:ns<=maxLen:=by have:=HLe.o;unfold maxLen;omega
   exact⟨⟨vs,zdd h1,h2.mono (HR.bl (bT HB13.o hb4)),.no⟩,hl,zlo h1,hm⟩))
  have HOb:=uH (fun (w4:World) (hb4:bZ w3 w4)=>bk_v (zab HOw.o hb4));have HFn:=uH (fun (w4 w5:World) (m5:VA) (hb4:bZ w3 w4) (hb5:bZ w4 w5) (hv5:VIn w5 (fun b=>b<w4.heap.size/\Sm w4 b) m5 R)=>by
   have h4:=zab HOw.o hb4;have h5:=zab h4 hb5;have hw5:=(bT HW3.o hb4).trans (hb5.mono (bT HW3.o hb4).size);have ch:=zcv w5 w1.heap.size (vhC R m5);exact(show bZ w (w5.setRow w1.heap.size (vhC R m5))/\(w5.setRow w1.heap.size (vhC R m5)).heap[w1.heap.size]?=some (vhO R m5)/\VIn (w5.setRow w1.heap.size (vhC R m5)) (fun b=>b=w1.heap.size) m5 R from⟨hw5.trans (ch.bl (fun b e=>by have:=HB1.o;omega) hw5.size),setRow_heap w5 w1.heap.size _ (vhC R m5) _ _ h5,(hv5.wide (K' :=fun b=>b=w1.heap.size) fun b e=>.inl (by rw [e];exact⟨zak h4,_,_,h4,by show 15<192;decide⟩)).chg ch⟩))
  clear HOf HRun HIr HOw HV3 HW3 HB13 HT
  go_region_with (first| (go_at_call 24;refine(zae HOd).mono ?_;rintro e w4 ⟨sa,ns,sc,rfl,hsl,hsj⟩;have hb4:bZ w3 w4:=hd.trans (hsj.bel.mono (kQ _));have HR4:=uH (HRd.o w4 hb4 sa ns sc hsl hsj);unfold vhv at HR4;have kB4:=HOb.o w4 hb4)| (go_at_call 21;refine(zae HR4).mono ?_;rintro e w5 ⟨⟨m5,ra,rn,rc,rfl,hv5,-,-⟩,hb5⟩;unfold vhv;have kB5:=HOb.o w5 (bT hb4 hb5);have HF5:=uH (HFn.o w4 w5 m5 hb4 hb5 hv5)))
  all_goals
   go_wp2_with fail
   go_meet
   case rel=>exact⟨rfl,m5,HF5⟩
 case rest=>
  obtain ⟨rfl,mr,HI4⟩:=hcut;obtain ⟨W4,rfl⟩: ∃W4:World,W4=wc:=⟨_,rfl⟩;have hG:10+((offL os l).length:Int)+500<60000:=by have:=HLe.o;omega
  have HTr:=uH (zyw R mr W4 HI4.o.2.2 (fun b e=>by rw [e];exact zak HI4.o.2.1) (HT.o.bl HI4.o.1) HIr.o hG);have HE:=uH (zxf HIr.o hG);have hgt:gtE (tourS R).g=0:=(zw7 HIr.o hG).tr.ts.inv.vg.gt;have hu4: (tourS R).us.length<=4:=(zw7 HIr.o hG).tr.ts.inv.vg.u4.2;generalize tourS R=Y at *;unfold vhv at HTr;have k4:=bk_v HI4.o.2.1;clear hG HIr HRun HOf HOw HV3 HW3 HB13 HT HLe HO1 HC;go_upto_region 7 with fail
  go_wp2_with fail;refine(zae HTr).mono ?_;rintro e w5 ⟨m5,rfl,hv5,hb5⟩;clear HTr k4;have h5:=zab HI4.o.2.1 hb5;have k5:=bk_v h5;have ch:=zcv w5 w1.heap.size (vhC Y m5);have HO6:=uH (setRow_heap w5 w1.heap.size _ (vhC Y m5) _ _ h5);have hw5:=bT HI4.o.1 hb5;have HW6:=uH (hw5.trans (ch.bl (fun b e=>by have:=HB1.o;omega) hw5.size));have HV6:=uH ((hv5.wide (K' :=fun b=>b=w1.heap.size) fun b e=>.inl (.inr e)).chg ch);clear h5 ch hw5 hv5 hb5 HI4;go_upto_region 8 with fail
  generalize w5.setRow w1.heap.size (vhC Y m5)=W6 at *;clear k5;have g1:=zve HO6.o;have HR1:=uH (zh0 Y.g m5.g W6 HV6.o.g);rw [zud,zt2 hgt] at HR1;obtain ⟨B,hB0,hB⟩:=HE.o.us;have HU:=uH hB;generalize gOf Y.g.ws=s at *;unfold gsv at HR1;clear hgt HE hB;go_wp2_with fail;refine(zae HR1).mono ?_;rintro e w7 ⟨rfl,hb7⟩;clear HR1 g1;have hb8:bZ w7 (w7.alloc (.cells (aS s) 72)):=bA1;have HA:=uH (kP w7 (.cells (aS s) 72));have hb78:=bT hb7 hb8;have HW8:=uH (bT HW6.o hb78);have HO8:=uH (zab HO6.o hb78);have HV8:=uH (HV6.o.bl hb78);clear hb7 hb8 hb78 HW6 HO6 HV6;go_upto_region 9 with fail
  generalize w7.alloc (.cells (aS s) 72)=W8 at *;have n11:=zaa HO8.o 11 (.slice m5.au m5.nu m5.cu) rfl;have hnu:=HV8.o.us.len;have hn4: (m5.nu:Int)<=4:=by omega
  go_upto_region 13 with fail
  clear n11 hu4
  go_loopw [11,65] (fun y i wq=>∃(k:Nat) (z:Int),k<=m5.nu/\i=iV k/\y=iV z/\Hd (z<0\/z=B)/\Hd (bZ W8 wq)) (fun _ i _=>m5.nu - (intOf i).toNat)
  case atStart=>exact⟨0,-1,by omega,rfl,rfl,.inl (by decide),kS _ _⟩
  case round=>
   obtain ⟨wq,rfl⟩: ∃wq:World,wq=wr:=⟨_,rfl⟩;obtain ⟨k,z,hk,rfl,rfl,hz,hI⟩:=hrel
   by_cases hkn:k<m5.nu
   {
   have hkI: (k:Int)<m5.nu:=by omega
   have hkJ:0<=(k:Int):=by omega
   have hki:Y.us[k]?=some (Y.us[k]'(by omega)):=kX _;generalize Y.us[k]'(by omega)=u at *;obtain ⟨vs,r1,r2,-⟩:=(HV8.o.bl hI.o).us.row;obtain ⟨b,off,xa,xn,xc,eb,hbw,-,c0,c1,c2,c3,c4⟩:=zdz r1 r2 hki;obtain ⟨y1,yy⟩:=HU.o k u hki;have HY:=uH yy;clear yy;have rd:=zyz wq b (off+k * 5) u xa xn xc (fun j v hv=>by
    match j,hv with
    |0,e=>cases e;exact c0
    |1,e=>cases e;exact c1
    |2,e=>cases e;exact c2
    |3,e=>cases e;exact c3
    |4,e=>cases e;exact c4
    |j+5,hv=>exact absurd (kY.1 hv).1 (by show¬j+5<5;omega))
   have hW:bZ wq (wq.alloc (.cells (unC u xa xn xc) 82)):=bA1;have bu:=kP wq (.cells (unC u xa xn xc) 82);have HRd:=uH (zm7 u xa xn xc _ (hbw.bl hW));rw [zx9,zx1 y1] at HRd;unfold usv at HRd;have HI9:=uH (bT hI.o hW);have HK:Hd (k<m5.nu):=hkn;simp only [eb];clear hkn hk hI hW c0 c1 c2 c3 c4 r1 r2 hki hbw eb y1;generalize stOf u.ws=t at *;go_upto_region 15 with fail
   generalize wq.alloc (.cells (unC u xa xn xc) 82)=W9 at *;have k9:bk W9 wq.heap.size=some (.cells (unC u xa xn xc) 82 (0,0)):=bu;go_wp2_with fail;refine(zae HRd).mono ?_;rintro e w9 ⟨rfl,hb9⟩;clear HRd k9 rd bu;have hb10:bZ w9 (w9.alloc (.cells #[iV t.slot,iV t.by',iV t.rdy] 84)):=bA1;have ht:=kP w9 (.cells #[iV t.slot,iV t.by',iV t.rdy] 84);have hb910:=bT hb9 hb10;have HI10:=uH (bT HI9.o hb910);clear hb9 hb10 hb910 HI9;go_upto_region 16 with fail
   generalize w9.alloc (.cells #[iV t.slot,iV t.by',iV t.rdy] 84)=W10 at *;obtain ⟨y2,y3,y4⟩:=HY.o;have a1:ce W10 w9.heap.size 1=some (iV B):=by rw [<-y3];exact zaa ht 1 _ rfl
   have a2:ce W10 w9.heap.size 2=some (iV 0):=by rw [<-y2];exact zaa ht 2 _ rfl
   have b0:ce W10 w7.heap.size 0=some (iV s.n):=zaa (zab HA.o HI10.o) 0 _ rfl;have b2:ce W10 w7.heap.size 2=some (.bool s.co):=zaa (zab HA.o HI10.o) 2 _ rfl;clear ht y2 y3
   go_cut [101] (fun q wc=>q=.bool false/\wc=W10)
   case first=>
    by_cases hz0:z<0
    {
    have d: ¬(0:Int)<=z:=by omega
    by_cases hco:s.co=true
    {
    rw [<-y4 hco] at b0;rw [hco] at b2;clear y4 hco;go_wp2_with fail
    go_meet
    case rel=>exact⟨rfl,rfl⟩ }
    {
    rw [Bool.not_eq_true] at hco;rw [hco] at b2;clear y4 hco;go_wp2_with fail
    go_meet
    case rel=>exact⟨rfl,rfl⟩ } }
    {
    have d: (0:Int)<=z:=by omega
    obtain rfl:z=B:=hz.o.resolve_left hz0
    by_cases hco:s.co=true
    {
    rw [<-y4 hco] at b0;rw [hco] at b2;clear y4 hco;go_wp2_with fail
    go_meet
    case rel=>exact⟨rfl,rfl⟩ }
    {
    rw [Bool.not_eq_true] at hco;rw [hco] at b2;clear y4 hco;go_wp2_with fail
    go_meet
    case rel=>exact⟨rfl,rfl⟩ } }
   case rest=>
    obtain ⟨rfl,hwc⟩:=hcut;replace hwc:=hwc.symm;subst hwc;clear b0 b2 a2 y4;go_wp2_with fail
    go_roundw
    case rel=>exact⟨k+1,B,HK.o,by go_num,rfl,.inr rfl,HI10⟩
    case measure=>have:=HK.o;simp [intOf];omega }
   {
   have HE:=uH (bT HW8.o hI.o);have hkk: ¬(k:Int)<m5.nu:=by omega
   clear hI hkn hk;go_wp2_with fail;go_ret;exact⟨rfl,HE.o⟩ }
end
end Go.Proofs.YthmekfcgdfckaaaGreatDoor
