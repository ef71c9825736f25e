/- Facts. -/
import Derived.Test.YthmekfcgdfckaaaGreatDoorWz26
import Derived.Test.YthmekfcgdfckaaaGreatDoorWz24
import Derived.BigRegion
set_option maxRecDepth 1000000
set_option maxHeartbeats 0
namespace Go.Proofs.YthmekfcgdfckaaaGreatDoor
open Go.RowKit
variable {U:Nat} {u G:Int} {F:LL} {v:Vh} {w:World} {K:Nat->Prop}
def facG (U:Nat) (u:Int):Bool:=decide (genN (facN U u).g.ws<=10)&&(facN U u).us.all fun x=>decide (genN x.ws<=10)
theorem facG_ok: ∀U,U<4->facG (U+1) 50=true/\facG (U+1) 100=true:=by decide+kernel
theorem rep_at (n k:Nat): (List.replicate n false).getD k false=false:=by
 rw [ka,List.getElem?_replicate]
 split<;>rfl
theorem zy2 (h:U<4) (hu:u=50\/u=100):Inv (outF (U+1) u 4).fst 10 (facN (U+1) u):=by
 have hH:facH (U+1) u=true:=by rcases hu with rfl|rfl;exact(zwy U h).1;exact(zwy U h).2
 have hG:facG (U+1) u=true:=by rcases hu with rfl|rfl;exact(facG_ok U h).1;exact(facG_ok U h).2
 unfold facG at hG;simp only [kr,KF,kH] at hG;have hs:gOf (facN (U+1) u).g.ws=gs0:=by rw [zyi h u hu];exact gw0_of
 have hb: ∀(k:Nat) x,(facN (U+1) u).us[k]?=some x->byU x=0/\rdU x=0:=fun k x hx=>⟨(zwx hH hx).1,(zwx hH hx).2.1⟩
 have hvd: ∀k:Nat,(facN (U+1) u).g.vo.getD k false=false/\(facN (U+1) u).g.di.getD k false=false:=fun k=>by
  rw [zyi h u hu];exact⟨rep_at _ _,rep_at _ _⟩
 refine⟨fun _=>False,0,zzd h hu, ?_,hG.1,fun k x hx=>hG.2 x (Kp hx)⟩;rw [hs];exact⟨⟨by decide,.inr ⟨rfl,rfl⟩⟩,fun k x hx=>.inl (hb k x hx).1,fun c=>(by cases c),fun c=>(by cases c),fun _ k x hx _=>(hb k x hx).2,fun c=>(by cases c),fun _ k=>(hvd k).2,fun m hm=>(by cases hm)⟩
section
variable {F:LL}
theorem zw9: ∀(l:List Hp) (v:Vh),(runL v l).1=l.foldl stp v
 | [],_=>rfl
 |x::r,v=>by
  show(if(doS' v x).2=0 then _ else _:Vh×LI).1=_
  rw [List.foldl_cons];unfold stp
  split
  { exact zw9 r _ }
  { exact zw9 r _ }
theorem zy1: ∀(l:List Hp) (G:Int) (v:Vh),Inv F G v->Inv F (G+l.length) (l.foldl stp v)
 | [],G,v,I=>I.more (by simp)
 |x::r,G,v,I=>by
  rw [List.foldl_cons];exact(zy1 r (G+1) _ (I.stp x)).more (by simp;omega)
end
structure Ends (v:Vh):Prop where
 ok:vhE v=0
 net:v.net= []
 en: (gOf v.g.ws).n=0\/(gOf v.g.ws).en=true
 us: ∃B,0<=B/\∀(j:Nat) x,v.us[j]?=some x->unE x=0/\(stOf x.ws).rdy=0/\(stOf x.ws).by' =B/\((gOf v.g.ws).co=true->B= (gOf v.g.ws).n)
theorem zxf (I:Inv F G v) (hG:G+500<60000):Ends (tourS v):=by
 have T:=zw7 I hG;generalize tourS v=y at *;have he: (gOf y.g.ws).n=0\/(gOf y.g.ws).en=true:=by
  rcases T.en with e|e
  { exact .inl (T.n.trans e) }
  { exact .inr e }
 obtain ⟨B,b1,b2⟩:=ended T.tr.ts he;refine⟨T.tr.ts.inv.ok,T.tr.net,he,B, ?_,fun j x hx=>⟨(T.tr.ts.inv.unit hx).ok,T.rd j x hx,b1 j x hx,b2⟩⟩;have hl:=T.tr.ts.nvo;have hx:y.us[0]?=some (y.us[0]'(by omega)):=kX _;have:=(T.tr.ts.inv.unit hx).by0;have:=b1 _ _ hx;omega
section
attribute [local go_sem ↓] kM kO zhy zhp zhu zyt zyu zyr
attribute [local go_sem] zgl zgn zgi rdF_V wrF_V zuu zup rdF_H wrF_H zur zgj zli World.setRow_alloc_new
structure TW (w:World) (K:Nat->Prop) (F:LL) (v:Vh) (m:VA) (wq:World):Prop where
 bel:bZ w wq
 own:wq.heap[w.heap.size]?=some (vhO v m)
 res:wq.heap[w.heap.size+1]?=some (vhO vh0 va0)
 veh:VIn wq (fun b=>b=w.heap.size\/K b) m v
 low: ∀b,K b->b<w.heap.size+2
 inv: ∃G,Inv F G v
section
variable {w:World} {K:Nat->Prop} {F:LL} {v:Vh} {m:VA} {wq:World}
theorem TW.keep (h:TW w K F v m wq) {w' :World} (hb:bZ wq w'):TW w K F v m w' :=
 ⟨(bT h.bel hb),zab h.own hb,zab h.res hb,h.veh.bl hb,h.low,h.inv⟩
theorem TW.put (h:TW w K F v m wq) {W w' :World} {y:Vh} {m' :VA} (hb:bZ wq W) (hc:bZ W w') (hv:VIn w' (fun b=>b<W.heap.size) m' y) (hi: ∃G,Inv F G y):TW w K F y m' (w'.setRow w.heap.size (vhC y m')):=by
 have h8:=h.keep (bT hb hc);have hW:=h.keep hb;have ch:=zcv w' w.heap.size (vhC y m');refine⟨h8.bel.trans (ch.bl (fun b e=>by omega) h8.bel.size),setRow_heap w' w.heap.size _ (vhC y m') _ _ h8.own, ?_, ?_,h.low,hi⟩
 {
 rw [ch.block _ (zak h8.res) (by omega)];exact h8.res }
 { exact(hv.wide (K' :=fun b=>b=w.heap.size\/K b) fun b e=>.inl (by have:=zak hW.res;rcases e with e|e;omega;have:=h.low b e;omega)).chg (ch.mono fun b e=>.inl e) }
theorem TW.len (h:TW w K F v m wq):v.us.length=F.length:=by
 obtain ⟨G,C,P,h1,-⟩:=h.inv;exact h1.nf
end
def oa0:OA:=⟨none,0,0,none,0,0,none,0,0,none,0,0,none,0,0⟩
theorem zx8 {m:VA} {wq:World} (k u:Int) (hT:Tab w) (h:TW w K F v m wq):
 Cq 109 #[.agg (hpC (hpO k u) oa0),.pointer (some ⟨w.heap.size,0,none⟩)] wq fun e w' =>e=.returned (.tuple #[])/\∃m',TW w K F (stp v (hpO k u)) m' w' :=by
 have hbo:BO wq oa0 (hpO k u).o:=by
  exact⟨⟨.inl rfl,rfl,KG _⟩,⟨.inl rfl,rfl,KG _⟩,⟨.inl rfl,rfl,KG _⟩,⟨.inl rfl,rfl,KG _⟩,⟨.inl rfl,rfl,KG _⟩⟩
 have hst:Hd (stp v (hpO k u)=if(doS' v (hpO k u)).2=0 then(doS' v (hpO k u)).1 else v):=rfl;have HIv:Hd (∃G,Inv F G (stp v (hpO k u))):=by
  obtain ⟨G,hG⟩:=h.inv;exact⟨_,hG.stp _⟩
 have hW:bZ wq (wq.alloc (.cells (hpC (hpO k u) oa0) 49)):=bA1;have hI2:=h.keep hW;have bw:=bk_v hI2.own;have bh:=uH (kP wq (.cells (hpC (hpO k u) oa0) 49));have HDo:=uH (zyq v m (hpO k u) oa0 _ (hI2.veh.wide fun _ e=>e.elim) (hT.bl hI2.bel) (hbo.bl hW));unfold vhv at HDo;rw [zys] at HDo;have HWl:=uH hW;have HI:=uH h;clear hI2 hbo hW h hT;generalize hpO k u=y at *;go_enter Tryz.func109,Tryz.ntmps109;go_upto_region 1 with fail
 generalize wq.alloc (.cells (hpC y oa0) 49)=W at *;have bhy:bk W wq.heap.size=some (.cells (hpC y oa0) 49 (0,0)):=bh.o;go_wp2_with fail;refine(zae HDo).mono ?_;rintro e w5 ⟨⟨m5,rfl,hv5⟩,hb5⟩;unfold vhv;clear HDo bw bhy;have hb6:bZ w5 (w5.alloc (.cells (vhC (doS' v y).1 m5) 40)):=bA1;have HB5:=uH (bT hb5 hb6);have HV5:=uH (hv5.bl hb6);have hn6:=kP w5 (.cells (vhC (doS' v y).1 m5) 40);clear hv5 hb5 hb6;generalize doS' v y=r at *;obtain ⟨rv,re⟩:=r;dsimp only at hst HB5 HV5 hn6|-;go_upto_region 2 with fail
 generalize w5.alloc (.cells (vhC rv m5) 40)=W6 at *;have HTL:=uH ((HI.o.keep HWl.o).keep HB5.o)
 by_cases hz:re=0
 {
 subst hz;have hs:stp v y=rv:=by rw [hst.o,KK rfl]
 rw [hs] at HIv;have HP:=uH (HI.o.put HWl.o HB5.o HV5.o HIv.o);have kV:=bk_v HTL.o.own;have kN:=bk_v hn6;go_wp2_with fail
 go_end0
 exact⟨rfl,m5,HP.o⟩ }
 {
 have d: (re==0)=false:=by simpa using hz
 have hs:stp v y=v:=by rw [hst.o,KJ hz]
 go_wp2_with fail
 go_end0
 exact⟨rfl,m,by rw [hs];exact HTL.o⟩ }
end
section
attribute [local go_sem ↓] kM kO zhy zhp zhu zxe
attribute [local go_sem] zgl zgn zgi rdF_V wrF_V zgj zli World.setRow_alloc_new
theorem cell_sr (w:World) (g:Nat) (cs:Array Value) (b o:Nat) (h:b≠g): ce (w.setRow g cs) b o=ce w b o:=cell_setRow_other w g cs _ h
attribute [local go_sem] cell_sr
theorem drn_end (f:Nat) (h:v.net.length=0):drn f v=v:=by
 cases f with
 |zero=>rfl
 |succ f=>unfold drn;rw [KK h]
theorem zxv {f n:Nat} (h: ¬v.net.length=0) (hf:f=n+1):drn f v=drn n (stp v (hpO 3 0)):=by
 subst hf
 show(if v.net.length=0 then v else drn n (stp v (hpO 3 0)))=_
 rw [KJ h]
theorem los_more {f n:Nat} (hf:f=n+1):losN f v=losN n (stp v (hpO 4 0)):=by subst hf;rfl
def bo:Nat->Vh->Vh
 |0,v=>v
 |j+1,v=>booN j v
theorem bo_more (j:Nat) (v:Vh):stp (bo j v) (hpO 7 ((j:Int)- 1))=bo (j+1) v:=by
 cases j with
 |zero=>rfl
 |succ j=>rw [show((j+1:Nat):Int)- 1=j by omega];rfl
theorem TW.first {m:VA} (hv:VIn w K m v) (hK: ∀b,K b->b<w.heap.size) (hI:Inv F G v):
 TW w (fun b=>b=w.heap.size+1\/K b) F v m ((w.alloc (.cells (vhC v m) 40)).alloc (.cells (vhC vh0 va0) 40)):=by
 have h1:bZ w (w.alloc (.cells (vhC v m) 40)):=bA1;have h2:Below (w.alloc (.cells (vhC v m) 40)).heap.size (w.alloc (.cells (vhC v m) 40)) ((w.alloc (.cells (vhC v m) 40)).alloc (.cells (vhC vh0 va0) 40)):=bA1;have e1:=kP w (.cells (vhC v m) 40);have e2:=kP (w.alloc (.cells (vhC v m) 40)) (.cells (vhC vh0 va0) 40);have h12:=bT h1 h2;refine⟨h12,zab e1 h2, ?_, ?_,fun b e=>by rcases e with e|e;omega;have:=hK b e;omega,G,hI⟩
 {
 rw [show w.heap.size+1= (w.alloc (.cells (vhC v m) 40)).heap.size from(KB w _).symm];exact e2 }
 {
 exact(hv.wide fun b e=>by rcases e with e|e|e;exact .inr (Kg e.symm);exact .inr (by omega);exact .inl e).bl h12 }
theorem zx5 (hT:Tab w) (v:Vh) (m:VA) (wq:World) (k u:Int) (h:TW w K F v m wq):
 Cq 109 #[.agg #[iV k,iV u,iV 0,nV,nV,iV 0,iV 0,nV,nV,nV],.pointer (some ⟨w.heap.size,0,none⟩)] wq fun e w' =>e=.returned (.tuple #[])/\∃m',TW w K F (stp v (hpO k u)) m' w' :=zx8 k u hT h
theorem zyw (v:Vh) (m:VA) (w:World) (hv:VIn w K m v) (hK: ∀b,K b->b<w.heap.size) (hT:Tab w) (hI:Inv F G v) (hG:G+500<60000):
 Cq 27 #[vhv v m,iV 4] w fun e w' =>∃m',e=.returned (.tuple #[vhv (tourS v) m',.bool true])/\VIn w' (fun b=>b=w.heap.size\/K b) m' (tourS v)/\bZ w w' :=by
 have HE:=uH (zxf hI hG);have HI0:=uH (TW.first hv hK hI);obtain ⟨Kq,hKq⟩: ∃Kq:Nat->Prop,Kq=fun b=>b=w.heap.size+1\/K b:=⟨_,rfl⟩
 rw [<-hKq] at HI0;have HKq:=uH hKq;clear hKq;have HTo:Hd (tourS v=rnds v.us.length 4 (bo (v.us.length+1) (losN v.net.length v))):=rfl;have HDo:=uH (fun (u:Vh) (k:VA) (wq:World) (x y:Int) (h:TW w Kq F u k wq)=>zx5 hT u k wq x y h);have hun:=HI0.o.len;generalize tourS v=Y at *;rw [hun] at HTo;have HN:=uH hv.net.len;have hnm: (v.net.length:Int)<=24:=by have:=hI.vg.n24;omega
 have hfm: (F.length:Int)<=4:=by have:=hI.vg.u4;omega
 obtain ⟨U,hUF⟩: ∃U,U=F.length:=⟨_,rfl⟩;have HUF:=uH hUF;rw [<-hUF] at HTo hfm;clear hUF;generalize hn:v.net.length=n at *;generalize hZ:losN n v=Z at *;have hZ0:=uH hZ;unfold vhv;clear hI hT hv hK hun hZ;go_enter Tryz.func27,Tryz.ntmps27;go_upto_region 1 with fail
 generalize (w.alloc (.cells (vhC v m) 40)).alloc (.cells (vhC vh0 va0) 40)=W2 at *;have n13:=zaa HI0.o.own 13 (.slice m.an m.nn m.cn) rfl;go_upto_region 3 with fail
 rw [<-HN.o];clear n13
 go_loopw [17] (fun i wq=>∃(k:Nat) (vk:Vh) (mk:VA),k<=n/\i=iV k/\Hd (TW w Kq F vk mk wq)/\Hd (losN (n - k) vk=Z)) (fun i _=>n - (intOf i).toNat)
 case atStart=>exact⟨0,v,m,by omega,rfl,HI0,hZ0⟩
 case round=>
  clear HI0 hZ0;obtain ⟨wq,rfl⟩: ∃wq:World,wq=wr:=⟨_,rfl⟩;obtain ⟨k,vk,mk,hk,rfl,hI,hP⟩:=hrel
  by_cases hkn:k<n
  {
  have hkI: (k:Int)<n:=by omega
  have HC:=uH (HDo.o vk mk wq 4 0 hI.o);have HK:Hd (k<n):=hkn;clear hkn hk;go_wp2_with fail;refine(zae HC).mono ?_;rintro e w5 ⟨rfl,m5,h5⟩;have HT5:=uH h5;clear HC h5;go_wp2_with fail
  go_roundw
  case rel=>exact⟨k+1,_,m5,HK.o,by go_num,HT5,by show _=_;rw [<-hP.o];exact(los_more (by have:=HK.o;omega)).symm⟩
  case measure=>have:=HK.o;simp [intOf];omega }
  {
  have hkk: ¬(k:Int)<n:=by omega
  have HZ:=uH hP.o;obtain rfl:k=n:=by omega
  rw [Nat.sub_self] at HZ;obtain rfl:vk=Z:=HZ.o;clear hkn hk HZ hP;go_upto_region 7 with fail
  go_loopw [7] (fun i wq=>∃(k:Nat) (vq:Vh) (mq:VA),k<=U+1/\i=iV ((k:Int)- 1)/\Hd (TW w Kq F vq mq wq)/\Hd (vq=bo k vk)) (fun i _=>((U:Int)- intOf i).toNat)
  case atStart=>exact⟨0,vk,mk,by omega,by go_num,hI,rfl⟩
  case round=>
   clear hI;obtain ⟨wq,rfl⟩: ∃wq:World,wq=wr:=⟨_,rfl⟩;obtain ⟨j,vq,mq,hj,rfl,hI,hP⟩:=hrel;have n11:=zaa hI.o.own 11 (.slice mq.au mq.nu mq.cu) rfl;have hnu:mq.nu=U:=by rw [<-hI.o.veh.us.len,hI.o.len,HUF.o]
   rw [hnu] at n11
   by_cases hkn:j<U+1
   {
   have hkI: (j:Int)- 1<U:=by omega
   have hjI:0<=(j:Int):=by omega
   have HC:=uH (HDo.o vq mq wq 7 ((j:Int)- 1) hI.o);have HK:Hd (j<U+1):=hkn;clear hkn hj hnu;go_wp2_with fail;refine(zae HC).mono ?_;rintro e w5 ⟨rfl,m5,h5⟩;have HT5:=uH h5;clear HC h5 n11;go_wp2_with fail
   go_roundw
   case rel=>exact⟨j+1,_,m5,HK.o,by go_num,HT5,by show _=_;rw [hP.o];exact bo_more j vk⟩
   case measure=>have:=HK.o;simp [intOf];omega }
   {
   have hkk: ¬(j:Int)- 1<U:=by omega
   obtain rfl:j=U+1:=by omega
   clear hkn hj hnu;go_upto_region 11 with fail
   have hY:Hd (vq=rnds U 0 vq):=rfl;have HTo2:Hd (Y=rnds U 4 vq):=by rw [hP.o];exact HTo
   clear hP HTo n11
   go_loopw [35] (fun i wt=>∃(t:Nat) (vt:Vh) (mt:VA),t<=4/\i=iV t/\Hd (TW w Kq F vt mt wt)/\Hd (vt=rnds U t vq)) (fun i _=>4 - (intOf i).toNat)
   case atStart=>exact⟨0,vq,mq,by omega,rfl,hI,hY⟩
   case round=>
    clear hI hY;obtain ⟨wt,rfl⟩: ∃wt:World,wt=wr:=⟨_,rfl⟩;obtain ⟨t,vt,mt,ht,rfl,hI,hP⟩:=hrel
    by_cases htn:t<4
    {
    have htI: (t:Int)<4:=by omega
    have htJ:0<=(t:Int):=by omega
    have n11:=zaa hI.o.own 11 (.slice mt.au mt.nu mt.cu) rfl;have hnu:mt.nu=U:=by rw [<-hI.o.veh.us.len,hI.o.len,HUF.o]
    rw [hnu] at n11;have HK:Hd (t<4):=htn;clear htn ht hnu;go_upto_region 13 with fail
    clear n11
    go_loopw [40] (fun i wk=>∃(k:Nat) (vk:Vh) (mk:VA),k<=U/\i=iV k/\Hd (TW w Kq F vk mk wk)/\Hd (vk=rnd k vt)) (fun i _=>U - (intOf i).toNat)
    case atStart=>exact⟨0,vt,mt,by omega,rfl,hI,rfl⟩
    case round=>
     clear hI;obtain ⟨wk,rfl⟩: ∃wk:World,wk=wr:=⟨_,rfl⟩;obtain ⟨k,vk,mk,hk,rfl,hI,hR⟩:=hrel
     by_cases hkn:k<U
     {
     have hkI: (k:Int)<U:=by omega
     have hkJ:0<=(k:Int):=by omega
     have HC:=uH (HDo.o vk mk wk 9 k hI.o);have HKn:Hd (k<U):=hkn;clear hkn hk hI;go_wp2_with fail;refine(zae HC).mono ?_;rintro e w5 ⟨rfl,m5,h5⟩;have HT5:=uH h5;clear HC h5;go_upto_region 17 with fail
     obtain ⟨Z5,hZ5⟩: ∃Z5,Z5=drn 40 (stp vk (hpO 9 k)):=⟨_,rfl⟩;have HZ5' :=uH hZ5;have HZ5:Hd (drn (40 - 0) (stp vk (hpO 9 k))=Z5):=hZ5.symm;clear hZ5
     go_loopw [9] (fun i wn=>∃(q:Nat) (vn:Vh) (mn:VA),q<=40/\i=iV q/\Hd (TW w Kq F vn mn wn)/\Hd (drn (40 - q) vn=Z5)) (fun i _=>40 - (intOf i).toNat)
     case atStart=>exact⟨0,_,m5,by omega,rfl,HT5,HZ5⟩
     case round=>
      clear HT5 HZ5;obtain ⟨wn,rfl⟩: ∃wn:World,wn=wr:=⟨_,rfl⟩;obtain ⟨q,vn,mn,hq,rfl,hI,hQ⟩:=hrel;have n13:=zaa hI.o.own 13 (.slice mn.an mn.nn mn.cn) rfl;have hnn:=uH hI.o.veh.net.len;go_upto_region 17 with fail
      go_cut [54] (fun z wc=>z=.bool (decide (0<mn.nn/\q<40))/\wc=wn)
      case first=>
       clear hnn
       by_cases h0:mn.nn=0
       {
       rw [h0] at n13;go_wp2_with fail
       go_meet
       case rel=>exact⟨by simp [h0],rfl⟩ }
       {
       have h1: (0:Int)<mn.nn:=by omega
       have h2:0<mn.nn:=by omega
       by_cases h4:q<40
       {
       have h3: (q:Int)<40:=by omega
       go_wp2_with fail
       go_meet
       case rel=>exact⟨by simp [h2,h4],rfl⟩ }
       {
       have h3: ¬(q:Int)<40:=by omega
       go_wp2_with fail
       go_meet
       case rel=>exact⟨by simp [h2,h4],rfl⟩ } }
      case rest=>
       obtain ⟨rfl,hwc⟩:=hcut;replace hwc:=hwc.symm;subst hwc;clear n13
       by_cases hgo:0<mn.nn/\q<40
       {
       rw [show decide (0<mn.nn/\q<40)=true by simpa using hgo];have hqI: (q:Int)<40:=by omega
       have hqJ:0<=(q:Int):=by omega
       have HQ:Hd (drn (40 - (q+1)) (stp vn (hpO 3 0))=Z5):=by
        show _=_
        rw [<-hQ.o];exact(zxv (by have:=hnn.o;omega) (by omega)).symm
       have HC:=uH (HDo.o vn mn wn 3 0 hI.o);have HG:=uH hgo.2;clear hgo hq hnn hI hQ;go_wp2_with fail;refine(zae HC).mono ?_;rintro e w6 ⟨rfl,m6,h6⟩;have HT6:=uH h6;clear HC h6;go_wp2_with fail
       go_roundw
       case rel=>exact⟨q+1,_,m6,HG.o,by go_num,HT6,HQ⟩
       case measure=>have:=HG.o;simp [intOf];omega }
       {
       rw [show decide (0<mn.nn/\q<40)=false by simpa using hgo];obtain rfl:vn=Z5:=by
        rw [<-hQ.o]
        by_cases h0:mn.nn=0
        { exact(drn_end _ (by have:=hnn.o;omega)).symm }
        {
        obtain rfl:q=40:=by omega
        rfl }
       clear hgo hq hnn hQ;have HC:=uH (HDo.o _ mn wn 2 k hI.o);clear hI;go_wp2_with fail;refine(zae HC).mono ?_;rintro e w7 ⟨rfl,m7,h7⟩;have HT7:=uH h7;clear HC h7;obtain ⟨Z6,hZ6⟩: ∃Z6,Z6=drn 40 (stp vn (hpO 2 k)):=⟨_,rfl⟩;have HZ6' :=uH hZ6;have HZ6:Hd (drn (40 - 0) (stp vn (hpO 2 k))=Z6):=hZ6.symm;clear hZ6;go_upto_region 22 with fail
       go_loopw [10] (fun i wn2=>∃(q2:Nat) (vn2:Vh) (mn2:VA),q2<=40/\i=iV q2/\Hd (TW w Kq F vn2 mn2 wn2)/\Hd (drn (40 - q2) vn2=Z6)) (fun i _=>40 - (intOf i).toNat)
       case atStart=>exact⟨0,_,m7,by omega,rfl,HT7,HZ6⟩
       case round=>
        clear HT7 HZ6;obtain ⟨wn2,rfl⟩: ∃wn2:World,wn2=wr:=⟨_,rfl⟩;obtain ⟨q2,vn2,mn2,hq2,rfl,hI2,hQ2⟩:=hrel;have n132:=zaa hI2.o.own 13 (.slice mn2.an mn2.nn mn2.cn) rfl;have hnn2:=uH hI2.o.veh.net.len;go_upto_region 22 with fail
        go_cut [71] (fun z wc=>z=.bool (decide (0<mn2.nn/\q2<40))/\wc=wn2)
        case first=>
         clear hnn2
         by_cases h02:mn2.nn=0
         {
         rw [h02] at n132;go_wp2_with fail
         go_meet
         case rel=>exact⟨by simp [h02],rfl⟩ }
         {
         have h12: (0:Int)<mn2.nn:=by omega
         have h22:0<mn2.nn:=by omega
         by_cases h42:q2<40
         {
         have h32: (q2:Int)<40:=by omega
         go_wp2_with fail
         go_meet
         case rel=>exact⟨by simp [h22,h42],rfl⟩ }
         {
         have h32: ¬(q2:Int)<40:=by omega
         go_wp2_with fail
         go_meet
         case rel=>exact⟨by simp [h22,h42],rfl⟩ } }
        case rest=>
         obtain ⟨rfl,hwc⟩:=hcut;replace hwc:=hwc.symm;subst hwc;clear n132
         by_cases hgo2:0<mn2.nn/\q2<40
         {
         rw [show decide (0<mn2.nn/\q2<40)=true by simpa using hgo2];have hqI2: (q2:Int)<40:=by omega
         have hqJ2:0<=(q2:Int):=by omega
         have HQ2:Hd (drn (40 - (q2+1)) (stp vn2 (hpO 3 0))=Z6):=by
          show _=_
          rw [<-hQ2.o];exact(zxv (by have:=hnn2.o;omega) (by omega)).symm
         have HC2:=uH (HDo.o vn2 mn2 wn2 3 0 hI2.o);have HG2:=uH hgo2.2;clear hgo2 hq2 hnn2 hI2 hQ2;go_wp2_with fail;refine(zae HC2).mono ?_;rintro e w62 ⟨rfl,m62,h62⟩;have HT62:=uH h62;clear HC2 h62;go_wp2_with fail
         go_roundw
         case rel=>exact⟨q2+1,_,m62,HG2.o,by go_num,HT62,HQ2⟩
         case measure=>have:=HG2.o;simp [intOf];omega }
         {
         rw [show decide (0<mn2.nn/\q2<40)=false by simpa using hgo2];obtain rfl:vn2=Z6:=by
          rw [<-hQ2.o]
          by_cases h02:mn2.nn=0
          { exact(drn_end _ (by have:=hnn2.o;omega)).symm }
          {
          obtain rfl:q2=40:=by omega
          rfl }
         clear hgo2 hq2 hnn2 hQ2;go_wp2_with fail
         go_roundw
         case rel=>exact⟨k+1,_,mn2,HKn.o,by go_num,hI2,by show _=_;rw [HZ6'.o,HZ5'.o,hR.o];rfl⟩
         case measure=>have:=HKn.o;simp [intOf];omega } } }
     {
     have hkk: ¬(k:Int)<U:=by omega
     obtain rfl:k=U:=by omega
     clear hkn hk;go_wp2_with fail
     go_roundw
     case rel=>exact⟨t+1,_,mk,HK.o,by go_num,hI,by show _=_;rw [hR.o,hP.o];rfl⟩
     case measure=>have:=HK.o;simp [intOf];omega } }
    {
    have hkk: ¬(t:Int)<4:=by omega
    obtain rfl:t=4:=by omega
    clear htn ht;rw [<-HTo2.o] at hP;obtain rfl:vt=Y:=hP.o;have g1:=zve hI.o.own;have HR1:=uH (zh0 vt.g mt.g wt hI.o.veh.g);have hgt:gtE vt.g=0:=by obtain ⟨G',hG'⟩:=hI.o.inv;exact hG'.vg.gt
    rw [zud,zt2 hgt] at HR1;unfold gsv at HR1;have hn0:mt.nn=0:=by rw [<-hI.o.veh.net.len,HE.o.net];rfl
    have hen:=HE.o.en;generalize gOf vt.g.ws=s at *;clear hP HDo HTo2 hgt HE;go_wp2_with fail;refine(zae HR1).mono ?_;rintro e w7 ⟨rfl,hb7⟩;clear HR1 g1;have hb8:bZ w7 (w7.alloc (.cells (aS s) 72)):=bA1;have HA:=kP w7 (.cells (aS s) 72);have hb78:=bT hb7 hb8;have HI8:=uH (hI.o.keep hb78);have hne:w7.heap.size≠w.heap.size+1:=by have:=zak hI.o.res;have:=hb7.size;omega
    have hne2:w.heap.size≠w.heap.size+1:=by omega
    clear hb7 hb8 hb78 hI;go_upto_region 28 with fail
    generalize w7.alloc (.cells (aS s) 72)=W7 at *;have a0:=zaa HA 0 (iV s.n) rfl;have a4:=zaa HA 4 (.bool s.en) rfl;have n13:=zaa HI8.o.own 13 (.slice mt.an mt.nn mt.cn) rfl;rw [hn0] at n13;have kV:=bk_v HI8.o.own;have kR:=bk_v HI8.o.res;have h9:=uH (HI8.o.keep ((kS _ _).drew));have hch:=uH (zcv W7.drew (w.heap.size+1) (vhC vt mt));have HZ:=uH (setRow_heap W7.drew (w.heap.size+1) _ (vhC vt mt) _ _ h9.o.res);have HFin:Hd (VIn (W7.drew.setRow (w.heap.size+1) (vhC vt mt)) (fun b=>b=w.heap.size\/K b) mt vt/\bZ w (W7.drew.setRow (w.heap.size+1) (vhC vt mt))):=by
     refine⟨(h9.o.veh.chg (hch.o.mono fun b e=>.inr (by rw [HKq.o];exact .inl e))).wide fun b e=>.inl ?_,h9.o.bel.trans (hch.o.bl (fun b e=>by omega) h9.o.bel.size)⟩
     rcases e with e|e
     { exact .inl e }
     { exact .inr (by rw [HKq.o];exact .inr e) }
    clear HA hn0 hch h9
    by_cases hs0:s.n=0
    {
    rw [hs0] at a0;clear hen hs0
    go_region
    go_wp2_with fail;refine kT (resV2 rfl rfl rfl HZ.o) rfl ?_;exact⟨mt,rfl,HFin.o⟩ }
    {
    have d: (s.n==0)=false:=by simpa using hs0
    rw [hen.resolve_left hs0] at a4;clear hen hs0
    go_region
    go_wp2_with fail;refine kT (resV2 rfl rfl rfl HZ.o) rfl ?_;exact⟨mt,rfl,HFin.o⟩ } } } }
end
def facK (U:Nat) (u:Int):Bool:=
 match facO U u with
 | [o0,o1,o2]=>decide ((o0.v=1/\o1.v=2/\o2.v=3)/\(o1.u=u/\o1.ts.length=U/\o1.imgs.length=U)/\(o1.roots= []/\o1.rsigs= [])/\(o2.roots= []/\o2.rsigs= []))&&
  (decide (crE (outF U u 4).ss (outF U u 4).sg rtF o1.v o1.u o1.ts o1.sigs=0)&&(zb2 (outF U u 4).ss o1.ts o1.imgs&&decide (crE (outF U u 4).ss (outF U u 4).sg rtF o2.v o2.u o2.ts o2.sigs=9)))
 |_=>false
theorem facK_ok: ∀U,U<4->facK (U+1) 100=true:=by decide+kernel
structure FacK (U:Nat) (u:Int) (o0 o1 o2:Of):Prop where
 is:facO U u= [o0,o1,o2]
 v:o0.v=1/\o1.v=2/\o2.v=3
 n:o1.u=u/\o1.ts.length=U/\o1.imgs.length=U
 r1:o1.roots= []/\o1.rsigs= []
 r2:o2.roots= []/\o2.rsigs= []
 c1:crE (outF U u 4).ss (outF U u 4).sg rtF o1.v o1.u o1.ts o1.sigs=0
 m1:zb2 (outF U u 4).ss o1.ts o1.imgs=true
 c2:crE (outF U u 4).ss (outF U u 4).sg rtF o2.v o2.u o2.ts o2.sigs=9
theorem facK_is (h:facK U u=true): ∃o0 o1 o2,FacK U u o0 o1 o2:=by
 unfold facK at h
 split at h
 {
 rename_i o0 o1 o2 e
 simp only [kr,KF] at h;obtain ⟨⟨h1,h2,h3,h4⟩,h5,h6,h7⟩:=h;exact⟨o0,o1,o2,e,h1,h2,h3,h4,h5,h6,h7⟩ }
 { cases h }
structure GoI (U:Nat) (u:Int) (v:Vh):Prop where
 tk:TkI U u v
 ver:v.g.t.ver<=1
theorem go_step {x:Hp} {o0 o1 o2:Of} (hC:facC U u=true) (hK:FacK U u o0 o1 o2) (hI:GoI U u v) (ho:x.k=1->x.o∈facO U u) (h2:x.k≠1\/x.o.v≠2):GoI U u (stp v x):=by
 unfold stp
 split
 {
 rename_i h
 obtain ⟨t1,t2⟩:=tk_step hC hI.tk ho h;refine⟨t1, ?_⟩
 rcases (zun h).or' with ⟨-,e⟩| ⟨k1,-,e,e2⟩
 { rw [e];exact hI.ver }
 {
 have h3:=(t2.new (by rw [e2];show(gOf v.g.ws).n< (gOf v.g.ws).n+1;omega)).2.1;have hm:=ho k1;rw [hK.is] at hm;have hv:=hK.v;rw [e]
 show x.o.v<=1
 simp only [kt,KY,or_false] at hm
 rcases hm with hm|hm|hm
 { rw [hm];omega }
 {
 rcases h2 with h2|h2
 { exact absurd k1 h2 }
 { rw [hm] at h2;exact absurd hv.2.1 h2 } }
 { rw [hm] at h3;exact absurd hv.2.2 h3 } } }
 { exact hI }
theorem go_run {U:Nat} {u:Int} {o0 o1 o2:Of} (hC:facC U u=true) (hK:FacK U u o0 o1 o2): ∀(l:List Hp) (v:Vh),(∀x∈l,(x.k=1->x.o∈facO U u)/\(x.k≠1\/x.o.v≠2))->GoI U u v->GoI U u (l.foldl stp v)
 | [],_,_,h=>h
 |x::r,v,hl,h=>by
  rw [List.foldl_cons];exact go_run hC hK r _ (fun y hy=>hl y (kI _ hy)) (go_step hC hK h (hl x (kG ..)).1 (hl x (kG ..)).2)
theorem go_first (h:U<4):GoI (U+1) 100 (facN (U+1) 100):=⟨tk_first h 100 (.inr rfl),by rw [zyi h 100 (.inr rfl)];exact(by decide: (0:Int)<=1)⟩
theorem note_beg {g:Gt} {v:Int} (hg:gtE g=0) (hf:g.fu= -1) (hv:0<=v/\v<=65535) (hgen:genN g.ws<60000): (noteG g (gOf g.ws) [1,(gOf g.ws).n+1,v]).2=true:=by
 have hn:=(zrr g.ws).n;have c:=(zrp hg).1;rw [hf] at c;have r3:recE [1,(gOf g.ws).n+1,v]=0:=rec3 (by decide) (by omega) hv;obtain ⟨us,e,-⟩:=ztt (zu2 c r3 (zyx hg r3 (by simp)) hgen);unfold noteG;rw [hf,e];rfl
structure GoesA (U:Nat) (F:LL) (G:Int) (y:Vh) (o1 o2:Of):Prop where
 no: (doS' y ⟨1,0,0,o2⟩).2=9
 yes: (doS' y ⟨1,0,0,o1⟩).2=0
 inv:Inv F G (doS' y ⟨1,0,0,o1⟩).1
 us: ∀(j:Nat) x,(tourS (doS' y ⟨1,0,0,o1⟩).1).us[j]?=some x->unE x=0/\(stOf x.ws).by' = (gOf y.g.ws).n+1/\(runsS x).1=o1.imgs.getD j []/\(runsS x).2.2=0
theorem zyy {o0 o1 o2:Of} (hK:FacK U u o0 o1 o2) (I:Inv F G v) (hG:G+900<60000) (hI:GoI U u v) (hU:F.length=U) (hn: (gOf (tourS v).g.ws).n≠8) (hw: (tourS v).now<=u):GoesA U F (G+301) (tourS v) o1 o2:=by
 have E:=zxf I (by omega);have T:=zw7 I (by omega);generalize tourS v=y at *;have up:=upE_0' T.tr.ts;obtain ⟨t1,t2,t3,t4,t5⟩:=T.cs;have gk:=T.tr.ts.gk;have hnu:y.us.length=U:=by obtain ⟨C,P,hI,-⟩:=T.tr.ts.inv;rw [hI.nf,hU]
 have hvo:y.g.vo.length=U:=by rw [<-T.tr.ts.nvo.1];exact hnu
 have hss:y.ss= (outF U u 4).ss:=t2.trans hI.tk.ss;have hsg:y.sg= (outF U u 4).sg:=t3.trans hI.tk.sg;have hrt:y.g.t.r=rtF:=by rw [t5];exact hI.tk.rt
 have hver:y.g.t.ver<=1:=by rw [t5];exact hI.ver
 have htr:trE y.g.t=0:=(zrp gk.ok).2.2.2;have hall: ∀{r:List Rt} {s:LL},r= []/\s= []->allE y.ss y.sg y.g.t r s=0:=fun {r s} h=>by rw [h.1,h.2];rfl
 have k2:takeE y.ss y.sg y.g.t o2 y.now y.g.vo.length=9:=by
  have e:crE y.ss y.sg (lastR y.g.t.r o2.roots) o2.v o2.u o2.ts o2.sigs=9:=by rw [hK.r2.1];show crE y.ss y.sg y.g.t.r _ _ _ _=9;rw [hrt,hss,hsg];exact hK.c2
  unfold takeE;rw [KK htr,KK (hall hK.r2),KJ (by rw [e];decide)];exact e
 have k1:takeE y.ss y.sg y.g.t o1 y.now y.g.vo.length=0:=by
  have e:crE y.ss y.sg (lastR y.g.t.r o1.roots) o1.v o1.u o1.ts o1.sigs=0:=by rw [hK.r1.1];show crE y.ss y.sg y.g.t.r _ _ _ _=0;rw [hrt,hss,hsg];exact hK.c1
  unfold takeE;rw [KK htr,KK (hall hK.r1),KK e];unfold restE;have hv:=hK.v;have hk:=hK.n;rw [KJ (by omega),KJ (by omega),KJ (by omega),KJ (by omega),hss,KK hK.m1]
 have hv2:o1.v=2:=hK.v.2.1;have hN:=note_beg (v:=o1.v) gk.ok gk.fu (by omega) (by have:=gk.gen;omega);have ok:=E.ok;have no:hapS y ⟨1,0,0,o2⟩= (vh0,9):=by
  show propS y o2=_
  unfold propS;rw [gBeg_4 up E.en hn (by rw [k2];decide),k2];rfl
 have hB:=zyp up E.en hn k1;have bp:=ztd (ss:=y.ss) (l:=y.sg) (g:=y.g) (o:=o1) (now:=y.now) (by rw [hB];unfold begD;rw [KK hN]);have b2: (gBeg y.ss y.sg y.g o1 y.now).2= ((gOf y.g.ws).n+1,0):=by rw [hB];unfold begD;rw [KK hN]
 have n0:=(zrr y.g.ws).n;have yes:hapS y ⟨1,0,0,o1⟩= (⟨y.ss,y.sg,(gBeg y.ss y.sg y.g o1 y.now).1,y.us,y.cs.take ((gOf y.g.ws).n).toNat++ [⟨(gOf y.g.ws).n+1,o1.v,o1.u,o1.ts,o1.imgs⟩],y.net,y.now⟩,0):=by
  show propS y o1=_
  unfold propS;rw [b2,KJ (by simp),KJ (by show(gOf y.g.ws).n+1≠0;omega)];rw [show((((gOf y.g.ws).n+1,(0:Int)):Int×Int).1 - 1)= (gOf y.g.ws).n by show(gOf y.g.ws).n+1 - 1=_;omega]
 obtain ⟨-,-,b3,-,-⟩: (gBeg y.ss y.sg y.g o1 y.now).2.1= (gOf y.g.ws).n+1/\_:=by
  rcases bp.or' with e|e
  { rw [b2] at e;exact absurd e.1 (by show(gOf y.g.ws).n+1≠0;omega) }
  { exact e }
 have d1:doS' y ⟨1,0,0,o1⟩=hapS y ⟨1,0,0,o1⟩:=do_0 ok (by rw [yes]);have I2:Inv F (G+301) (doS' y ⟨1,0,0,o1⟩).1:=by
  have:=T.tr.ts.inv.stp ⟨1,0,0,o1⟩;unfold stp at this;rw [KK (by rw [d1,yes])] at this;exact this.more (by omega)
 refine⟨by rw [do_e2 ok (by rw [no];decide),no],by rw [d1,yes],I2, ?_⟩;have T2:=zw7 I2 (by omega);have E2:=zxf I2 (by omega);rw [d1,yes] at T2 E2|-;dsimp only at T2 E2|-;have hcs:=T2.cs.1;have hn2:=T2.n;have hco:=T2.co;generalize tourS _=z at *;dsimp only at hcs hn2 hco;rw [b3] at hn2 hco;dsimp only at hn2 hco;have hco:=hco (by omega) rfl;intro j x hx;obtain ⟨B,-,hb⟩:=E2.us;obtain ⟨e1,e2,e3,e4⟩:=hb j x hx;have e4:=e4 hco;refine⟨e1,by omega, ?_⟩;obtain ⟨C,P,hi,-⟩:=T2.tr.ts.inv;obtain ⟨nm,w,r1,r2⟩:=(hi.un j x hx).run;rw [<-T2.tr.ts.us j x hx] at r1;rw [r1];refine⟨?_,rfl⟩
 rcases r2 with ⟨r2,-⟩| ⟨-,-,c,r2,r3⟩
 { omega }
 {
 have hl:y.cs.length= (gOf y.g.ws).n.toNat:=by obtain ⟨C,P,hI,-⟩:=T.tr.ts.inv;have:=hI.ncs;omega
 have hb: ((stOf x.ws).by' - 1).toNat= (gOf y.g.ws).n.toNat:=by omega
 rw [hcs,hb,<-hl,List.take_length,KC (kQ _),Nat.sub_self] at r2;cases r2;exact r3 }
end Go.Proofs.YthmekfcgdfckaaaGreatDoor
