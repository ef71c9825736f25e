/- Facts. -/
import Derived.Test.YthmekfcgdfckaaaGreatDoorWz24
set_option maxRecDepth 1000000
set_option maxHeartbeats 0
namespace Go.Proofs.YthmekfcgdfckaaaGreatDoor
open Go.RowKit
section
theorem infoInt: (Tryz.prog.info? 3).map (fun i=>(i.zero,i.size,i.bytes))=some (some (iV 0),1,8):=by kernel_rfl
abbrev KcB (B:Nat) (cv:Value) (b:Nat):Prop:=b=B\/cv.ownBlock=some b
structure HL (w4:World) (B:Nat) (v:Vh) (m:VA) (cv:Value) (cm:LI) (wq:World):Prop where
 chg:Chg (fun b=>b=B) w4 wq
 own:wq.heap[B]?=some (vhO v m)
 veh:VIn wq (KcB B cv) m v
 com:wq.ownsRow w4.heap.size 3 1 cv cm.length (vals cm)
section
variable {w4:World} {B:Nat} {v:Vh} {m:VA} {cv:Value} {cm:LI} {wq w' :World}
theorem HL.keep (h:HL w4 B v m cv cm wq) (hb:bZ wq w'):HL w4 B v m cv cm w' :=⟨h.chg.then hb,zab h.own hb,h.veh.bl hb,zba h.com hb⟩
theorem HL.lt (h:HL w4 B v m cv cm wq) {b:Nat} (e:KcB B cv b):b<wq.heap.size:=by
 rcases e with rfl|e
 { exact zak h.own }
 { exact(h.com.lt b e).2 }
theorem HL.put (h:HL w4 B v m cv cm wq) (hB:B<w4.heap.size) {y:Vh} {m' :VA} (hv:VIn wq (KcB B cv) m' y):HL w4 B y m' cv cm (wq.setRow B (vhC y m')):=by
 have ch:=zcv wq B (vhC y m');exact⟨h.chg.trans ch,setRow_heap wq B _ (vhC y m') _ _ h.own,hv.chg (ch.mono fun _ e=>.inl e),zbt h.com ch (fun g e c=>by have:=(h.com.lt g e).1;have c:g=B:=c;omega)⟩
theorem HL.app (h:HL w4 B v m cv cm wq) (hB:B<w4.heap.size) (hn:cm.length<=1000) (n:Int) {y:Vh} {m' :VA} (hv:VIn wq (KcB B cv) m' y):
 ∃g cap w5,(Builtin.append_ #[26,26] 26 #[cv,sV wq.heap.size 1 1]).run Tryz.prog (wq.alloc (.cells #[iV n] 3))=.ok (sV g (cm.length+1) cap) w5/\
  HL w4 B v m (sV g (cm.length+1) cap) (cm++ [n]) w5/\VIn w5 (KcB B (sV g (cm.length+1) cap)) m' y/\Chg (fun b=>cv.ownBlock=some b) wq w5:=by
 obtain ⟨i,hi,z0,z1,z2⟩:=info_parts infoInt;obtain ⟨g,cap,w5,hr,ho,hc,hN⟩:=zed (P:=Tryz.prog) wq 26 3 w4.heap.size i _ 1 8 Tryz.underlying26 hi z0 z1 z2 rfl (by omega) (by omega) _ _ _ h.com #[iV n] rfl (by simp [Value.oneCell']) hn h.chg.size;have up: ∀{x:Vh} {k:VA},VIn wq (KcB B cv) k x->VIn w5 (KcB B (sV g (cm.length+1) cap)) k x:=fun {x k} hx=>
  ((hx.wide (K' :=fun b=>b=B\/cv.ownBlock=some b\/(sV g (cm.length+1) cap).ownBlock=some b) (fun b e=>by
   rcases e with e|e|e
   · exact .inl (.inl e)
   · exact .inl (.inr e)
   · exact(hN.or e).imp .inr id)).chg (hc.mono fun b e=>.inr (.inl e))).wide fun b e=>.inl (e.imp id .inr)
 refine⟨g,cap,w5,hr,⟨?_,Chg.blk h.own hc (fun e=>by have:=(h.com.lt B e).1;omega),up h.veh, ?_⟩,up hv,hc⟩
 · exact⟨hc.os.trans h.chg.os,hc.tape.trans h.chg.tape,hc.output.trans h.chg.output,kc h.chg.size hc.size,fun k hk hn=>(hc.block k (kw hk h.chg.size) (fun e=>by have:=(h.com.lt k e).1;omega)).trans (h.chg.block k hk hn)⟩
 · rw [kj,show vals (cm++ [n])=vals cm++ [iV n] by unfold vals;rw [List.map_append];rfl]
   exact ho
theorem HL.ints (h:HL w4 B v m cv cm wq) (hn:cm.length<=1000): ∃a c,cv=.slice a cm.length c/\BI wq a cm.length cm:=by
 obtain ⟨a,c,rfl⟩:=zbk h.com;exact⟨a,c,rfl,(zgz h.com rfl).1,rfl,by unfold maxLen;omega⟩
theorem HL.hap (h:HL w4 B v m cv cm wq) {base:Nat} {W0:World} {a:oA} {n c:Nat} {vs:LV} {L:List Hp} (hr:w4.ownsRow base 49 10 (.slice a n c) n vs) (hv:Vs (HR W0 (fun _=>False)) L vs) (hb:B<base) (hB:W0.heap.size<=B) (bas:bZ W0 w4) {k:Nat} (hk:k<L.length):
 ∃b off,∃mo:OA,a=some ⟨b,off,none⟩/\BO wq mo L[k].o/\(rdB 49 (.pointer (some ⟨b,off+k * 10,none⟩))).run Tryz.prog wq=.ok (.agg (hpC L[k] mo)) wq:=by
 obtain ⟨b,off,mo,e,q0,qc⟩:=zuh (zdd (zbt hr h.chg (fun g e c=>by have:=(hr.lt g e).1;have c:g=B:=c;omega))) (hv.mono (HR.bl (bas.trans (h.chg.bl (fun b e=>by omega) bas.size)))) (kX hk);exact⟨b,off,mo,e,q0,zuq wq b (off+k * 10) _ mo fun j u hu=>qc j u hu⟩
end
theorem image_mid {W:World} {K:Nat->Prop} {m:VA} {v:Vh} (h:VIn W K m v) {i k:Nat} {c:Cp} (hi:v.cs[i]?=some c) (hk:k<c.ims.length): ∃b off q b2 off2 ai ci,m.ac=some ⟨b,off,none⟩/\ce W b (off+i * 5+4)=some (.slice (some ⟨b2,off2,none⟩) c.ims.length q)/\ce W b2 (off2+k)=some (.slice ai c.ims[k].length ci)/\zag W ai c.ims[k]:=by
 obtain ⟨vs,r1,r2,-⟩:=h.cs.row;obtain ⟨b,off,mc,eb,hc,-,-,-,-,c4⟩:=zfa r1 r2 hi;obtain ⟨b2,off2,ai,ci,e2,c5,h5,-⟩:=zfd hc.ims.at_ k hk;exact⟨b,off,mc.ci,b2,off2,ai,ci,eb,by rw [<-e2,hc.ims.len];exact c4,c5,h5⟩
abbrev usC (t:Us):Array Value:=#[iV t.slot,iV t.by',iV t.rdy]
attribute [local go_sem ↓] kM kO zhy zhp zhu zyt zyu zyr zxe zy3 exU_st exU_al
attribute [local go_sem] zgl zgn zgi rdF_V wrF_V zuu zup rdF_H wrF_H zur zy9 zy7 rdF_U wrF_U zy8 zgj zli World.setRow_alloc_new
theorem zyh (x:Int) (l:List Hp) (a:oA) (n c:Nat) (w:World) (hT:Tab w) (hx: -9223372036854775808<=x/\x<=9223372036854775807) (h:RIn HR w (fun _=>False) a n c l) (hB: ∀y∈l,-9223372036854775808<=y.j/\y.j<=9223372036854775807):
 Cq 9 #[iV x,.slice a n c] w fun e w' =>e=.returned (.bool true)/\bZ w w' :=by
 have HT:=uH hT;have HS:=uH h;have HB:=uH hB;have HAt:=uH (zy4 x 4 w (by decide) (by decide) hx);clear h hB;go_enter Tryz.func9,Tryz.ntmps9;go_wp2_with fail;refine(zae HAt).mono ?_;rintro e w0 ⟨rfl,h0⟩;replace h0:=h0.symm;subst h0;obtain ⟨U,hU⟩: ∃U:Nat,(U:Int)=x % 4:=⟨(x % 4).toNat,Int.toNat_of_nonneg (Int.emod_nonneg _ (by decide))⟩;have hU4:U<4:=by have:=Int.emod_lt_of_pos x (show(0:Int)<4 by decide);omega
 have HU:=uH hU4;rw [<-hU];have HF:Hd (Cq 23 #[iV (1+(U:Int)),iV 50] w (zh8 w (U+1) 50)):=by
  show Calls _ _ _ _ _
  rw [show(1:Int)+(U:Int)= ((U+1:Nat):Int) by omega];exact zpb (U+1) 50 w HT.o (zzc hU4)
 have hUI: (U:Int)<4:=by omega
 clear hU HAt hT hx hU4;go_wp2_with fail;refine(zae HF).mono ?_;rintro e w1 ⟨⟨m,oa,no,oc,rfl,hv1,ho1⟩,hb1⟩;clear HF;rw [show nwV (outF (U+1) 50 4).ss (outF (U+1) 50 4).sg rtF (outF (U+1) 50 4).fst=facN (U+1) 50 from rfl] at hv1|-;have HC:=uH (zza U HU.o).1;obtain rfl:no=3:=by rw [<-ho1.len];exact zy5 HC.o
 have HIv:=uH (zzd HU.o (u:=50) (.inl rfl));have HFu:Hd (∀(k:Nat) f,(facN (U+1) 50).us[k]?=some f->(runsS f).1= (outF (U+1) 50 4).fst.getD k []/\(runsS f).2.2=0):=fun k f hf=>(zwx (zwy U HU.o).1 hf).2.2.2.2
 have HFl:=uH HIv.o.nf;have HF1:Hd (VIn w1 (fun _=>False) m (facN (U+1) 50)):=hv1.wide fun _ e=>e.elim
 have hb2:bZ w1 (w1.alloc (.cells (vhC (facN (U+1) 50) m) 40)):=bA1;have hown:=kP w1 (.cells (vhC (facN (U+1) 50) m) 40);have hv2:VIn _ (fun b=>b=w1.heap.size) m (facN (U+1) 50):=(hv1.wide (K' :=fun b=>b=w1.heap.size) fun b e=>.inr (Kg e.symm)).bl hb2;have hw2:=bT hb1 hb2;have HB1:=uH hb1.size;have HD:=uH (zqf _ (HT.o.bl hw2));have HO1:=uH ho1;have HL1:Hd (RIn HR w1 (fun _=>False) a n c l):=by
  obtain ⟨vs,r1,r2,r3⟩:=HS.o.row;exact⟨⟨vs,IsRow.chg r1 (.of hb1 _) r3,r2.mono (HR.bl hb1),r3⟩,HS.o.len,HS.o.cap,HS.o.max⟩
 unfold vhv;clear hv1 ho1 hb1 HS;generalize (outF (U+1) 50 4).fst=Fi at *;generalize facN (U+1) 50=F at *;generalize hos:facO (U+1) 50=os at *;clear hos HC;go_wp2_with fail;generalize w1.alloc (.cells (vhC F m) 40)=W2 at *;refine(zae HD).mono ?_;rintro e w3 ⟨rfl,hb3⟩;have hb13:=bT hb2 hb3;have hb4:bZ w3 (w3.alloc (.cells (vhC F m) 40)):=bA1;have hb14:=bT hb13 hb4;have hw3:=bT hw2 hb3;have h3:=zab hown hb3;have k3:=bk_v h3;have HOf:=uH (zvv l a n c os _ oa oc w1 _ HL1.o HO1.o hb14 HB.o);have HDx:=uH (kP w3 (.cells (vhC F m) 40));have HOw:=uH (zab h3 hb4);have HV4:=uH ((hv2.bl hb3).bl hb4);have HW4:=uH (bT hw3 hb4);have HB14:=uH hb14;have HBD:Hd (w1.heap.size<w3.heap.size):=zak h3;have HSz:Hd ((w3.alloc (.cells (vhC F m) 40)).heap.size=w3.heap.size+1):=by show _=_;simp
 clear HD hb2 hb3 hv2 hw2 hw3 hown hb13 hb4 hb14 HL1 HB h3;go_upto_region 6 with fail
 generalize w3.alloc (.cells (vhC F m) 40)=W3 at *;clear k3;go_wp2_with fail;refine(zae HOf).mono ?_;rintro e w4 ⟨sa,ns,sc,rfl,hsl,hsj⟩;have hs160:ns<=160:=by rw [<-hsl];unfold offL;rw [Kr,KQ];omega
 obtain ⟨svs,hr1,hr2⟩:=hsj.row;rw [hsl] at hr1;have hcs:ns<=sc:=zlo hr1;have HR1:=uH hr1;have HR2:=uH hr2;have HI0:Hd (HL w4 w1.heap.size F m (nV) [] w4):=⟨Chg.refl _ _,zab HOw.o hsj.bel,(HV4.o.bl hsj.bel).wide fun b e=>.inl (e.elim id fun e=>by cases e),KZ _ _ _ _⟩;have HSL:=uH hsl;have HW5:=uH (bT HW4.o hsj.bel);have HB15:=uH (bT HB14.o hsj.bel);have HDy:=uH (zab HDx.o hsj.bel);have HB4:Hd (w1.heap.size<W3.heap.size/\w3.heap.size<w4.heap.size/\w1.heap.size<w4.heap.size):=by
  have:=HBD.o;have:=HSz.o;have:=hsj.bel.size;exact⟨by omega,by omega,by omega⟩
 generalize offL os l=L at *;clear HOf hsj hsl HV4 HW4 HOw HB14 hr1 hr2 HDx HSz;go_wp2_with fail
 go_loopw [8,52] (fun z i wq=>∃(cv:Value) (k:Nat) (vk:Vh) (mk:VA) (cm:LI),cv=z/\k<=ns/\i=iV k/\Hd (HL w4 w1.heap.size vk mk cv cm wq)/\Hd (HI Fi (fun n=>n∈cm) vk)/\Hd (cm.length<=k)) (fun _ i _=>ns - (intOf i).toNat)
 case atStart=>exact⟨_,0,F,m, [],rfl,by omega,rfl,HI0,by show HI _ _ _;simpa using HIv.o,by show _<=_;simp⟩
 case round=>
  clear HI0 HIv;obtain ⟨wq,rfl⟩: ∃wq:World,wq=wr:=⟨_,rfl⟩;obtain ⟨cv,k,vk,mk,cm,rfl,hk,rfl,hI,hP,hM⟩:=hrel;have hBq:bZ w wq:=HW5.o.trans (hI.o.chg.bl (fun b e=>by have:=HB1.o;omega) HW5.o.size)
  by_cases hkn:k<ns
  {
  have hkI: (k:Int)<ns:=by omega
  obtain ⟨b,off,mo,rfl,hbo,hrd⟩:=hI.o.hap HR1.o HR2.o HB4.o.1 (kQ _) HB15.o (show k<L.length by rw [HSL.o];exact hkn);generalize L[k]'(by rw [HSL.o];exact hkn)=y at *;have HK:Hd (k<ns):=hkn;have hW:bZ wq (wq.alloc (.cells (hpC y mo) 49)):=bA1;have hI2:=hI.o.keep hW;have bw:=bk_v hI2.own;have bh:=uH (kP wq (.cells (hpC y mo) 49));have HDo:=uH (zyq vk mk y mo _ (hI2.veh.wide fun _ e=>e.elim) (HT.o.bl (bT hBq hW)) (hbo.bl hW));unfold vhv at HDo;rw [zys] at HDo;have HI2:=uH hI2;clear hI2 hbo hkn hk hW hI hBq;go_upto_region 9 with fail
  generalize wq.alloc (.cells (hpC y mo) 49)=W at *;have bhy:bk W wq.heap.size=some (.cells (hpC y mo) 49 (0,0)):=bh.o;go_wp2_with fail;refine(zae HDo).mono ?_;rintro e w5 ⟨⟨m5,rfl,hv5⟩,hb5⟩;unfold vhv;clear HDo bw bhy hrd bh;have HSt:=uH (fun (C' :Int->Prop) h0 h1 h2=>hi_step (x:=y) (C' :=C') hP.o h0 h1 h2);have hb6:bZ w5 (w5.alloc (.cells (vhC (doS' vk y).1 m5) 40)):=bA1;have HTL:=uH ((HI2.o.keep hb5).keep hb6);have HV5:Hd (VIn (w5.alloc (.cells (vhC (doS' vk y).1 m5) 40)) (KcB w1.heap.size cv) m5 (doS' vk y).1):=(hv5.wide (K' :=KcB w1.heap.size cv) fun b e=>.inl (HI2.o.lt e)).bl hb6;have hn6:=uH (kP w5 (.cells (vhC (doS' vk y).1 m5) 40));have HN5:Hd (∀b,cv.ownBlock=some b->b<w5.heap.size):=fun b e=>kw (HI2.o.lt (.inr e)) hb5.size
  clear hv5 hb5 hb6 HI2;generalize doS' vk y=r at *;obtain ⟨rv,re⟩:=r;dsimp only at HSt HV5 hn6 HTL|-
  by_cases hz:re=0
  {
  subst hz;go_upto_region 11 with fail
  generalize w5.alloc (.cells (vhC rv m5) 40)=W6 at *;have hG:HI Fi (fun _=>True) rv:=((HSt.o (fun _=>True) rfl (fun _ _=>trivial)) (fun _=>trivial)).1;have g2:=zve hn6.o;have HR3:=uH (zh0 rv.g m5.g W6 HV5.o.g);rw [zud,zt2 hG.vg.gt] at HR3;have HCk:=uH (fun W' (hW' :bZ W6 W')=>zct rv m5 W' ((HV5.o.bl hW').wide fun _ e=>e.elim));unfold vhv at HCk;rw [hG.vg.check] at HCk;have HSt2:=uH (fun (C' :Int->Prop)=>HSt.o C' rfl);clear HSt hG;obtain ⟨t,ht⟩: ∃t,t=gOf rv.g.ws:=⟨_,rfl⟩;rw [<-ht] at HR3 HSt2;clear ht;unfold gsv at HR3;go_wp2_with fail;refine(zae HR3).mono ?_;rintro e w7 ⟨rfl,hb7⟩;clear HR3 g2;have hb8:bZ w7 (w7.alloc (.cells (aS t) 72)):=bA1;have HA:=uH (kP w7 (.cells (aS t) 72));have hb78:=bT hb7 hb8;have k7:=bk_v (zab hn6.o hb78);have HC7:=uH (HCk.o _ hb78);have HB78:=uH hb78;clear hb7 hb8 HCk hb78;go_upto_region 12 with fail
  generalize w7.alloc (.cells (aS t) 72)=W7 at *;go_wp2_with fail;refine(zae HC7).mono ?_;rintro e w8 ⟨rfl,hb8⟩;clear HC7 k7;have hb68:=bT HB78.o hb8;have hA:=zab HA.o hb8;have HTL8:=uH (HTL.o.keep hb68);have HV8:=uH (HV5.o.bl hb68);have HN8:=uH (zab hn6.o hb68);clear HTL HV5 HB78 hb8 hb68 hn6 HA;have hM160:cm.length<=160:=by have:=hM.o;have:=HK.o;omega
  obtain ⟨ca,cc,hcv,hbi⟩:=HTL8.o.ints (by omega);subst hcv;have a0:=zaa hA 0 (iV t.n) rfl;have a2:=zaa hA 2 (.bool t.co) rfl;have HCt:=uH (zmr ca cm.length cc cm t.n w8 hbi);clear hbi hA;go_upto_region 14 with fail
  go_cut [85] (fun z wc=>z=.bool (t.co&&!has cm t.n)/\wc=w8)
  case first=>
   by_cases hco:t.co=true
   {
   rw [hco] at a2;have HCo:=uH hco;clear hco;go_wp2_with fail;refine(zae HCt).mono ?_;rintro e w9 ⟨rfl,h9⟩;replace h9:=h9.symm;subst h9;go_wp2_with fail
   go_meet
   case rel=>exact⟨by rw [HCo.o];rfl,rfl⟩ }
   {
   rw [Bool.not_eq_true] at hco;rw [hco] at a2;have HCo:=uH hco;clear hco;go_wp2_with fail
   go_meet
   case rel=>exact⟨by rw [HCo.o];rfl,rfl⟩ }
  case rest=>
   obtain ⟨rfl,hwc⟩:=hcut;replace hwc:=hwc.symm;subst hwc
   go_upto_if 85 with fail
   go_cut [8] (fun z wc=>∃(cv2:Value) (cm2:LI),cv2=z/\Hd (HL w4 w1.heap.size vk mk cv2 cm2 wc)/\Hd (VIn wc (KcB w1.heap.size cv2) m5 rv)/\Hd (wc.heap[w5.heap.size]?=some (vhO rv m5))/\Hd ((∀n,n∈cm->n∈cm2)/\(t.co=true->t.n∈cm2)/\cm2.length<=k+1))
   case first=>
    by_cases hq: (t.co&&!has cm t.n)=true
    {
    rw [hq];obtain ⟨g,cap,w9,hr,hl9,hv9,hc9⟩:=HTL8.o.app HB4.o.2.2 (by omega) t.n HV8.o;have HRn:=uH hr;have HL9:=uH hl9;have HV9:=uH hv9;have HN9:=uH (Chg.blk HN8.o hc9 (fun e=>by have:=HN5.o _ e;omega));have HC9:Hd ((∀n,n∈cm->n∈cm++ [t.n])/\(t.co=true->t.n∈cm++ [t.n])/\(cm++ [t.n]).length<=k+1):=⟨fun n h=>List.mem_append_left _ h,fun _=>List.mem_append_right _ (List.mem_singleton.2 rfl),by have:=hM.o;simp;omega⟩;clear hr hl9 hv9 hc9 hq HTL8 HV8 HN8 HCt a2 hM160
    go_wp2_with (at_builtin;refine Lib.wpList_append_run _ rfl _ _ 26 26 rfl _ _ rfl rfl _ _ HRn.o ?_)
    go_meet
    case rel=>exact⟨_,cm++ [t.n],rfl,HL9,HV9,HN9,HC9⟩ }
    {
    have hq' : (t.co&&!has cm t.n)=false:=by simpa using hq
    rw [hq'];have HC9:Hd ((∀n,n∈cm->n∈cm)/\(t.co=true->t.n∈cm)/\cm.length<=k+1):=⟨fun n h=>h,fun e=>by rw [e] at hq';unfold has at hq';simpa using hq',by have:=hM.o;omega⟩;clear hq hq' HCt a0 a2 hM160;go_wp2_with fail
    go_meet
    case rel=>exact⟨_,cm,rfl,HTL8,HV8,HN8,HC9⟩ }
   case rest=>
    obtain ⟨W10,rfl⟩: ∃W10:World,W10=wc:=⟨_,rfl⟩;obtain ⟨cv2,cm2,rfl,HL2,HV2,HN2,HM3⟩:=hcut;have HH:=uH (HSt2.o (fun n=>n∈cm2) HM3.o.1 HM3.o.2.1);have HM4:=uH HM3.o.2.2;have hnu:=HV2.o.us.len;have hn4: (m5.nu:Int)<=4:=by have:=HH.o.1.vg.u4.2;omega
    have hnk:mk.nu=m5.nu:=by rw [<-HL2.o.veh.us.len,hP.o.nf,<-HH.o.1.nf];exact hnu
    have hnf:m.nu=m5.nu:=by rw [<-HF1.o.us.len,HFl.o,<-HH.o.1.nf];exact hnu
    have HD2:=uH (Chg.blk HDy.o HL2.o.chg (by have:=HBD.o;omega));have HF10:=uH (HF1.o.bl (HB15.o.trans (HL2.o.chg.bl (fun b e=>by omega) HB15.o.size)));clear HTL8 HV8 HN8 HN5 HCt a0 a2 hM160 HSt2 HM3 hM;have HLn:=uH (show rv.us.length=m5.nu/\vk.us.length=m5.nu/\F.us.length=m5.nu from⟨hnu,by rw [<-hnk];exact HL2.o.veh.us.len,by rw [<-hnf];exact HF1.o.us.len⟩);have n11:=zaa HN2.o 11 (.slice m5.au m5.nu m5.cu) rfl;go_upto_region 17 with fail
    clear n11
    go_loopw [94] (fun i wz=>∃j:Nat,j<=m5.nu/\i=iV j/\Hd (bZ W10 wz)) (fun i _=>m5.nu - (intOf i).toNat)
    case atStart=>exact⟨0,by omega,rfl,kS _ _⟩
    case round=>
     obtain ⟨wz,rfl⟩: ∃wz:World,wz=wr:=⟨_,rfl⟩;obtain ⟨j,hj,rfl,hZ⟩:=hrel
     by_cases hjn:j<m5.nu
     {
     have hjI: (j:Int)<m5.nu:=by omega
     have hjK: (j:Int)<mk.nu:=by rw [hnk];exact hjI
     have hjF: (j:Int)<m.nu:=by rw [hnf];exact hjI
     have hjJ:0<=(j:Int):=by omega
     have HJ:Hd (j<m5.nu):=hjn;obtain ⟨u,hu⟩: ∃u,rv.us[j]?=some u:=⟨_,kX (by have:=HLn.o.1;omega)⟩;obtain ⟨q,hq⟩: ∃q,vk.us[j]?=some q:=⟨_,kX (by have:=HLn.o.2.1;omega)⟩;obtain ⟨f,hf⟩: ∃f,F.us[j]?=some f:=⟨_,kX (by have:=HLn.o.2.2;omega)⟩;have y1:unE u=0:=HH.o.1.vg.us u (Kp hu);have y2:unE q=0:=hP.o.vg.us q (Kp hq);have y3: (stOf q.ws).by' <=(stOf u.ws).by' :=HH.o.2 j q u hq hu;have uI:=HH.o.1.un j u hu;obtain ⟨nm,wi,yr,yw⟩:=uI.run;have HY:=uH yw;have HFr:=uH (HFu.o j f hf);have HQu:=uH hq;have HFf:=uH hf;obtain ⟨b,off,xa,xn,xc,eb,hbw,rd⟩:=zye (HV2.o.bl hZ.o) hu;have hWa:bZ wz (wz.alloc (.cells (unC u xa xn xc) 82)):=bA1;have HBt:=uH (zn8 u xa xn xc _ (hbw.bl hWa));have bu:=uH (kP wz (.cells (unC u xa xn xc) 82));have HZa:=uH (bT hZ.o hWa);rw [zx9,show bootS u= (btd u,0) from zxq y1] at HBt;unfold UnAns at HBt;simp only [zx9] at HBt;have yt:=zue y1;obtain ⟨t2,ht2⟩: ∃t2,t2=stOf u.ws:=⟨_,rfl⟩;obtain ⟨t3,ht3⟩: ∃t3,t3=stOf q.ws:=⟨_,rfl⟩;rw [<-ht2] at y3 HY;rw [<-ht3] at y3;have HT2:=uH ht2;have HT3:=uH ht3;simp only [eb];clear hu hq hf hbw eb hWa uI yw ht2 ht3 hjn hj hZ y1;go_upto_region 19 with fail
     generalize wz.alloc (.cells (unC u xa xn xc) 82)=Wa at *;have k9:bk Wa wz.heap.size=some (.cells (unC u xa xn xc) 82 (0,0)):=bu.o;clear rd;go_wp2_with fail;refine(zae HBt).mono ?_;rintro e w11 ⟨⟨ya,yn,yc,rfl,hby⟩,hb11⟩;dsimp only at hby|-;clear HBt k9 bu;have hb12:bZ w11 (w11.alloc (.cells (unC (btd u) ya yn yc) 82)):=bA1;have HB2:=uH (kP w11 (.cells (unC (btd u) ya yn yc) 82));have HZb:=uH ((bT HZa.o hb11).trans (hb12.mono (bT HZa.o hb11).size));have HBy:=uH (hby.bl hb12);clear hb11 hb12 hby HZa;go_upto_region 20 with fail
     generalize w11.alloc (.cells (unC (btd u) ya yn yc) 82)=Wb at *;have k12:bk Wb w11.heap.size=some (.cells (unC (btd u) ya yn yc) 82 (0,0)):=HB2.o;have HRd:=uH (zm7 (btd u) ya yn yc Wb HBy.o);rw [zx9,zx1 yt,show stOf (btd u).ws=t2 from HT2.o.symm] at HRd;unfold usv at HRd;go_wp2_with fail;refine(zae HRd).mono ?_;rintro e w12 ⟨rfl,hb12⟩;clear HRd k12;have hb13:bZ w12 (w12.alloc (.cells (usC t2) 84)):=bA1;have HA2:=uH (kP w12 (.cells (usC t2) 84));have hbc:=bT hb12 hb13;have HZc:=uH (bT HZb.o hbc);have HB3:=uH (zab HB2.o hbc);have HBz:=uH (HBy.o.bl hbc);clear hb12 hb13 hbc HZb HB2 HBy;go_upto_region 21 with fail
     generalize w12.alloc (.cells (usC t2) 84)=Wc at *;have hLc:=HL2.o.keep HZc.o;obtain ⟨b2,off2,qa,qn,qc,eb2,hbw2,rd2⟩:=zye hLc.veh HQu.o;have v11:ce Wc w1.heap.size 11=some (.slice (some ⟨b2,off2,none⟩) mk.nu mk.cu):=by rw [<-eb2];exact zaa hLc.own 11 _ rfl
     have HRd:=uH (zm7 q qa qn qc Wc hbw2);rw [zx9,zx1 y2,<-HT3.o] at HRd;unfold usv at HRd;clear hLc eb2 hbw2;go_wp2_with fail;refine(zae HRd).mono ?_;rintro e w13 ⟨rfl,hb13⟩;clear HRd v11 rd2;have hb14:bZ w13 (w13.alloc (.cells (usC t3) 84)):=bA1;have HA3:=uH (kP w13 (.cells (usC t3) 84));have hbd:=bT hb13 hb14;have HZd:=uH (bT HZc.o hbd);have hB4:=zab HB3.o hbd;have HA4:=uH (zab HA2.o hbd);have HRn:=uH (zn0 (btd u) ya yn yc _ (HBz.o.bl hbd));have hwl:wi.length<=maxLen:=by
      have h1:=zzb (btd u);rw [yr] at h1;have h2:=HBz.o.len;have h3:=HBz.o.max;dsimp only at h1;omega
     rw [zx9,yr] at HRn;unfold Shows at HRn;dsimp only at HRn;clear hb13 hb14 hbd HZc HB3 HBz HA2 yr;go_upto_region 22 with fail
     generalize w13.alloc (.cells (usC t3) 84)=Wd at *;have k13:bk Wd w11.heap.size=some (.cells (unC (btd u) ya yn yc) 82 (0,0)):=hB4;go_wp2_with fail;refine(zae HRn).mono ?_;rintro e w14 ⟨⟨ra,rn,rc,rfl,hri,rfl,-,-⟩,hb14⟩;clear HRn k13 hB4;have HZe:=uH (bT HZd.o hb14);have a1:ce w14 w12.heap.size 1=some (iV t2.by'):=zaa (zab HA4.o hb14) 1 _ rfl;have a3:ce w14 w13.heap.size 1=some (iV t3.by'):=zaa (zab HA3.o hb14) 1 _ rfl;have HA5:=uH (zab HA4.o hb14);have e3: ¬t2.by' <t3.by' :=by omega
     have HRi:=uH hri;clear hri hb14 HZd HA4 HA3 y3;go_upto_region 25 with fail
     clear a1 a3 e3;obtain ⟨b3,off3,fa,fn,fc,eb3,hbw3,rd3⟩:=zye (HF10.o.bl HZe.o) HFf.o;have f11:ce w14 w3.heap.size 11=some (.slice (some ⟨b3,off3,none⟩) m.nu m.cu):=by rw [<-eb3];exact zaa (zab HD2.o HZe.o) 11 _ rfl
     have HRf:=uH (zn0 f fa fn fc w14 hbw3);rw [zx9] at HRf;unfold Shows at HRf;generalize runsS f=fr at *;obtain ⟨fw,fm,fe⟩:=fr;dsimp only at HRf HFr;obtain ⟨hf1,rfl⟩:=HFr.o;clear eb3 hbw3;go_wp2_with fail;refine(zae HRf).mono ?_;rintro e w15 ⟨⟨za,zn,zc,rfl,hzi,hzl,-,-⟩,hb15⟩;clear HRf f11 rd3;have HZf:=uH (bT HZe.o hb15);have c1:ce w15 w12.heap.size 1=some (iV t2.by'):=zaa (zab HA5.o hb15) 1 _ rfl;have HRj:=uH (HRi.o.bl hb15);have HZi:=uH hzi;have HZl:=uH hzl;have HF2:=uH hf1;clear hzi hzl hf1 hb15 HRi HZe HA5;go_upto_region 26 with fail
     go_upto_if 157 with fail
     go_cut [27] (fun z wc=>∃(pa:oA) (pc:Nat),z=.slice pa wi.length pc/\wc=w15/\Hd (zag w15 pa wi))
     case first=>
      by_cases hb0:0<t2.by'
      {
      obtain ⟨h1,h2,c,h3,h4⟩:=HY.o.resolve_left (fun h=>by omega);obtain ⟨ib,hib⟩: ∃ib:Nat,(ib:Int)=t2.by' - 1:=⟨(t2.by' - 1).toNat,by omega⟩;have hib2: (t2.by' - 1).toNat=ib:=by omega
      rw [hib2] at h3;have hl:ib<rv.cs.length:=(kY.1 h3).1;have hc:=zxo.1 (HH.o.1.vg.cs ib c h3);have hjc:j<c.ims.length:=by rw [hc.2.1,HLn.o.1];exact HJ.o
      have hwc:wi=c.ims[j]:=by rw [h4,ka,kX hjc];rfl
      have hVf:=HV2.o.bl HZf.o;obtain ⟨b4,o4,q4,b5,o5,ai,ci,e4,c4,c5,hi5⟩:=image_mid hVf h3 hjc;rw [<-hwc] at c5 hi5;have hcl:rv.cs.length=m5.nc:=hVf.cs.len;have n12:ce w15 w5.heap.size 12=some (.slice (some ⟨b4,o4,none⟩) m5.nc m5.cc):=by rw [<-e4];exact zaa (zab HN2.o HZf.o) 12 _ rfl
      obtain ⟨da,dc,hdv,hdb⟩:=(HL2.o.keep HZf.o).ints (by have:=HM4.o;have:=HK.o;omega);subst hdv;have HCn:=uH (zmr da cm2.length dc cm2 t2.by' w15 hdb);rw [show has cm2 t2.by' =true by unfold has;simpa using h2] at HCn;have hlt: ¬(m5.nc:Int)<t2.by' :=by omega
      have hby8:t2.by' <=8:=by have:=HH.o.1.vg.c8;omega
      have hsub:t2.by' - 1= (ib:Int):=hib.symm;have hix: (ib:Int)<m5.nc:=by omega
      have hix0: (0:Int)<=ib:=by omega
      have hjm: (j:Int)< (c.ims.length:Int):=by omega
      have HI5:=uH hi5;clear h1 h2 h3 h4 hl hc hib2 hwc hVf e4 hi5 hcl hdb hib;go_wp2_with fail;refine(zae HCn).mono ?_;rintro e w16 ⟨rfl,h16⟩;replace h16:=h16.symm;subst h16;go_wp2_with fail
      go_meet
      case rel=>exact⟨_,_,rfl,rfl,HI5⟩ }
      {
      have hb1:t2.by' =0/\wi=Fi.getD j []:=by
       rcases HY.o with h|h
       { exact h }
       { omega }
      have HI5:Hd (zag w15 za wi):=by rw [hb1.2,<-HF2.o];exact HZi.o
      have hzn:zn=wi.length:=by rw [<-HZl.o,HF2.o,hb1.2]
      subst hzn;clear hb1;go_wp2_with fail
      go_meet
      case rel=>exact⟨_,_,rfl,rfl,HI5⟩ }
     case rest=>
      obtain ⟨pa,pc,rfl,hwc,HI5⟩:=hcut;replace hwc:=hwc.symm;subst hwc;have HQ:=uH (zl3 ra pa rc pc wi wi w15 HRj.o HI5.o hwl hwl);rw [show eqL wi wi=true by unfold eqL;simp] at HQ;clear c1;go_wp2_with fail;refine(zae HQ).mono ?_;rintro e w16 ⟨rfl,hdr,rfl⟩;have HZg:Hd (bZ W10 (w15.drewN hdr)):=by show Below _ _ _;exact kA HZf.o hdr
      clear HQ HI5 HRj HZf;go_wp2_with fail
      go_roundw
      case rel=>exact⟨j+1,HJ.o,by go_num,HZg⟩
      case measure=>have:=HJ.o;simp [intOf];omega }
     {
     have hjj: ¬(j:Int)<m5.nu:=by omega
     have hLz:=HL2.o.keep hZ.o;have kN:=bk_v (zab HN2.o hZ.o);have kV:=bk_v hLz.own;have HPt:=uH (hLz.put HB4.o.2.2 (HV2.o.bl hZ.o));have HX:=uH HH.o.1;clear hLz hjn hj hZ HL2 HV2 HN2 HH;go_wp2_with fail
     go_roundw
     case rel=>exact⟨_,k+1,rv,m5,cm2,rfl,HK.o,by go_num,HPt,HX,HM4⟩
     case measure=>have:=HK.o;simp [intOf];omega } }
  {
  have d: (re !=0)=true:=by simpa using hz
  have HN:=HTL;have HM2:Hd (cm.length<=k+1):=by have:=hM.o;show _<=_;omega
  clear hz HSt HV5 hn6 HTL;go_wp2_with fail
  go_roundw
  case rel=>exact⟨_,k+1,vk,mk,cm,rfl,HK.o,by go_num,HN,hP,HM2⟩
  case measure=>have:=HK.o;simp [intOf];omega } }
  {
  have HE:=uH hBq;have hkk: ¬(k:Int)<ns:=by omega
  clear hI hP hk hkn hBq hM;go_wp2_with fail;go_ret;exact⟨rfl,HE.o⟩ }
end
end Go.Proofs.YthmekfcgdfckaaaGreatDoor
