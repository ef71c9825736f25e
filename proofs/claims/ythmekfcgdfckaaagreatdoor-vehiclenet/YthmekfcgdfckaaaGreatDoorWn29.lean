/- The contracts of vehicle.within, errorUnless, firstError, checkUnits, checkMany, checkCampaign, checkCampaigns, checkNet. The contracts of vehicle.isUnit, isMessage, isNode, tick, giveUp, boot, flashOf, cut. The contracts of vehicle.giveUp, boot, flashOf, cut. The contracts of vehicle.boot, cut. The contract of slices.Delete at messages, of one element. -/
import Derived.Test.YthmekfcgdfckaaaGreatDoorWn27
import Derived.Test.YthmekfcgdfckaaaGreatDoorWn9
import Derived.Test.YthmekfcgdfckaaaGreatDoorWn28
import Derived.Laws.CopyRow
import Derived.Deep.RegionHeld3
import Derived.Lib.AppendZeros
set_option maxRecDepth 1000000
set_option maxHeartbeats 0
namespace Go.Proofs.YthmekfcgdfckaaaGreatDoor
variable {k F:Nat} {w:World} {Z K:Nat→Prop} {q:VB} {m:VA} {v:Vh} {a:Option Addr} {u:Un}
section
open Go.RowKit
attribute [local go_sem ↓] Go.wp_at_zero Go.wp_at_succ
theorem zch: ∀(es:List Int) (k:Nat) (e:Int),(∀j,j<k→es.getD j 0=0)→es[k]?=some e→e≠0→za0 es=e
  | [],k,e,_,h,_=>by simp at h
  |x::r,0,e,_,h,h0=>by simp at h;subst h;unfold za0;rw [if_pos h0]
  |x::r,k+1,e,hz,h,h0=>by
    have hx:=hz 0 (by omega)
    simp at hx
    subst hx;unfold za0;rw [if_neg (by simp)];exact zch r k e (fun j hj=>by simpa using hz (j+1) (by omega)) (by simpa using h) h0
theorem zc4: ∀(es:List Int),(∀j,j<es.length→es.getD j 0=0)→za0 es=0
  | [],_=>rfl
  |x::r,hz=>by
    have hx:=hz 0 (by simp)
    simp at hx
    subst hx;unfold za0;rw [if_neg (by simp)];exact zc4 r (fun j hj=>by simpa using hz (j+1) (by simpa using hj))
theorem zdn {es:List Int} {e:Int} (h: ∀j,j<k→es.getD j 0=0) (hk:es[k]?=some e) (he:e=0): ∀j,j<k+1→es.getD j 0=0:=by
  intro j hj
  by_cases h1:j<k
  { exact h j h1 }
  {
  have:j=k:=by omega
  subst this;rw [List.getD_eq_getElem?_getD,hk,he];rfl
  }
theorem zdq (x lo hi:Int) (w:World):Calls Tryz.prog 72 #[.int .i64 x,.int .i64 lo,.int .i64 hi] w fun e w' =>e=.returned (.bool (inB x lo hi))∧w' =w:=by
  by_cases h0:lo≤x
  {
  by_cases h1:x≤hi
  {
  go_enter Tryz.func72,Tryz.ntmps72;go_wp2;go_ret;exact⟨zan (by unfold inB;simp [h0,h1]),rfl⟩
  }
  {
  go_enter Tryz.func72,Tryz.ntmps72;go_wp2;go_ret;exact⟨zan (by unfold inB;simp [h0,h1]),rfl⟩
  }
  }
  {
  go_enter Tryz.func72,Tryz.ntmps72;go_wp2;go_ret;exact⟨zan (by unfold inB;simp;omega),rfl⟩
  }
theorem zc7 (b:Bool) (x:Int) (w:World):Calls Tryz.prog 71 #[.bool b,.int .i64 x] w fun e w' =>e=.returned (.int .i64 (if b=true then 0 else x))∧w' =w:=by
  cases b<;>
  {
  go_enter Tryz.func71,Tryz.ntmps71;go_wp2;go_ret;exact⟨rfl,rfl⟩
  }
theorem zk6 (a:Option Addr) (n c:Nat) (K:Nat→Prop) (us:List Un) (voters:Nat) (w:World) (h:RIn UR w K a n c us):
    Calls Tryz.prog 63 #[.slice a n c,.int .i64 voters] w fun e w' =>e=.returned (.int .i64 (unsE us voters))∧Below w.heap.size w w' :=by
  have hn:=h.len
  by_cases hv:n=voters
  rotate_left
  {
  have HE:Hid (unsE us voters=4):=by unfold unsE;rw [if_pos (by rw [hn];exact hv)];exact rfl
  have d: ((n:Int) != (voters:Int))=true:=by simp;omega
  clear h hv hn;go_enter Tryz.func63,Tryz.ntmps63;go_wp2_with fail;go_ret;exact⟨zao HE.out.symm,Below.refl _ _⟩
  }
  subst hv;have HQ:Hid (unsE us n=za0 (us.map unE)):=by unfold unsE;rw [if_neg (by rw [hn];simp)];exact rfl
  obtain ⟨vs,h1,h2,-⟩:=h.row;have hmx:=h.max;clear h;have H1:=hide h1;have H2:=hide h2;have HN:=hide hn;clear h1 h2 hn;have hnI: (n:Int)≤9223372036854775807:=by unfold maxLen at hmx;omega
  go_enter Tryz.func63,Tryz.ntmps63;go_wp2_with fail
  go_loopw [14] (fun i wq=>∃k:Nat,k≤n∧i=.int .i64 k∧Hid (Below w.heap.size w wq)∧Hid (∀j,j<k→(us.map unE).getD j 0=0)) (fun i _=>n - (intOf i).toNat)
  case atStart=>exact⟨0,by omega,rfl,Below.refl _ _,fun j hj=>absurd hj (by omega)⟩
  case round=>
    obtain ⟨wq,rfl⟩: ∃wq:World,wq=wr:=⟨_,rfl⟩;obtain ⟨k,hk,rfl,hB,hZ⟩:=hrel
    by_cases hkn:k<n
    {
    have hkI: (k:Int)< (n:Int):=by omega
    have hul:k<us.length:=by rw [HN.out];exact hkn
    obtain ⟨b,off,x,nx,cx,rfl,q0,-,y0,y1,y2,y3,y4⟩:=zdz H1.out H2.out (List.getElem?_eq_getElem hul);have HU:=hide (fun W (hW:Below w.heap.size w W)=>zcz us[k] x nx cx W (q0.below hW));have HM:Hid ((us.map unE)[k]?=some (unE us[k])):=by show _=_;simp [hul]
    unfold unv at HU;generalize us[k]=u at *;replace y0:=(hB.out.cell (zah y0)).trans y0;replace y1:=(hB.out.cell (zah y1)).trans y1;replace y2:=(hB.out.cell (zah y2)).trans y2;replace y3:=(hB.out.cell (zah y3)).trans y3;replace y4:=(hB.out.cell (zah y4)).trans y4;have hb1:Below w.heap.size w (wq.alloc (.cells (aU x nx cx u) 82)):=hB.out.alloc hB.out.size _;clear q0 hul;go_wp2_with fail;refine(zae HU _ hb1).mono ?_;rintro e w3 ⟨rfl,hb3⟩;have HB3:=hide ((bT hb1 hb3));clear hb3 HU
    by_cases hq:unE u=0
    rotate_left
    {
    have d: (unE u !=0)=true:=by simpa using hq
    have HE:=hide (HQ.out.trans (zch _ k _ hZ.out HM.out hq));clear hq;go_wp2_with fail;go_ret;exact⟨zao HE.out.symm,HB3.out⟩
    }
    have d: (unE u !=0)=false:=by simpa using hq
    have HQ0:=hide hq;clear hq;go_wp2_with fail;exact⟨⟨k+1,hkn,by simp,HB3,zdn hZ.out HM.out HQ0.out⟩,by simp [intOf];omega⟩
    }
    {
    have hkk:k=n:=by omega
    subst hkk;clear hk hkn;go_wp2_with fail;go_ret;exact⟨zao (HQ.out.trans (zc4 _ (by rw [List.length_map,HN.out];exact hZ.out))).symm,hB.out⟩
    }
theorem zny (a:Option Addr) (n c:Nat) (K:Nat→Prop) (l:List Ms) (units:Nat) (w:World) (h:RIn MR w K a n c l):
    Calls Tryz.prog 69 #[.slice a n c,.int .i64 units] w fun e w' =>e=.returned (.int .i64 (netE units l))∧Below w.heap.size w w' :=by
  have hn:=h.len;have HQ:Hid (netE units l=za0 (l.map (ntE units))):=rfl;obtain ⟨vs,h1,h2,-⟩:=h.row;have hmx:=h.max;clear h;have H1:=hide h1;have H2:=hide h2;have HN:=hide hn;clear h1 h2 hn;have hnI: (n:Int)≤9223372036854775807:=by unfold maxLen at hmx;omega
  go_enter Tryz.func69,Tryz.ntmps69;go_wp2_with fail
  go_loopw [10] (fun i wq=>∃k:Nat,k≤n∧i=.int .i64 k∧Hid (Below w.heap.size w wq)∧Hid (∀j,j<k→(l.map (ntE units)).getD j 0=0)) (fun i _=>n - (intOf i).toNat)
  case atStart=>exact⟨0,by omega,rfl,Below.refl _ _,fun j hj=>absurd hj (by omega)⟩
  case round=>
    obtain ⟨wq,rfl⟩: ∃wq:World,wq=wr:=⟨_,rfl⟩;obtain ⟨k,hk,rfl,hB,hZ⟩:=hrel
    by_cases hkn:k<n
    {
    have hkI: (k:Int)< (n:Int):=by omega
    have hul:k<l.length:=by rw [HN.out];exact hkn
    obtain ⟨b,off,x,nx,cx,rfl,q0,-,y0,y1,y2,y3,y4,y5,y6⟩:=zgd H1.out H2.out (List.getElem?_eq_getElem hul);have HU:=hide (fun W (hW:Below w.heap.size w W)=>ze9 l[k] x nx cx W (q0.below hW));have HM:Hid ((l.map (ntE units))[k]?=some (ntE units l[k])):=by show _=_;simp [hul]
    unfold msv at HU;generalize l[k]=u at *;replace y0:=(hB.out.cell (zah y0)).trans y0;replace y1:=(hB.out.cell (zah y1)).trans y1;replace y2:=(hB.out.cell (zah y2)).trans y2;replace y3:=(hB.out.cell (zah y3)).trans y3;replace y4:=(hB.out.cell (zah y4)).trans y4;replace y5:=(hB.out.cell (zah y5)).trans y5;replace y6:=(hB.out.cell (zah y6)).trans y6;have hb1:Below w.heap.size w (wq.alloc (.cells (aM u x nx cx) 99)):=hB.out.alloc hB.out.size _;have bx:=hide (heap_alloc_last wq (.cells (aM u x nx cx) 99));clear q0 hul;go_wp2_with fail;refine(zae HU _ hb1).mono ?_;rintro e w3 ⟨rfl,hb3⟩;have HB3:=hide ((bT hb1 hb3));replace bx:=hide (zab bx.out hb3);clear hb3 HU
    by_cases hq:msE u=0
    rotate_left
    {
    have d: (msE u !=0)=true:=by simpa using hq
    have HE:=hide (HQ.out.trans ((zch _ k _ hZ.out HM.out (by unfold ntE;rw [if_pos hq];exact hq)).trans (by unfold ntE;rw [if_pos hq])));clear hq;go_wp2_with fail;go_ret;exact⟨zao HE.out.symm,HB3.out⟩
    }
    have d: (msE u !=0)=false:=by simpa using hq
    have HQ0:=hide hq;clear hq;have z1:=zaa bx.out 1 _ rfl
    by_cases hu: (units:Int)≤u.u
    {
    have HT:Hid (ntE units u=5):=by unfold ntE;rw [if_neg (by simpa using HQ0.out),if_pos hu];exact rfl
    have HE:=hide (HQ.out.trans ((zch _ k _ hZ.out HM.out (by rw [HT.out];decide)).trans HT.out));have hd:decide (u.u≥(units:Int))=true:=by simpa using hu
    go_wp2_with fail;go_ret;exact⟨zao HE.out.symm,HB3.out⟩
    }
    {
    have HT:Hid (ntE units u=0):=by unfold ntE;rw [if_neg (by simpa using HQ0.out),if_neg hu];exact rfl
    go_wp2_with fail;exact⟨⟨k+1,hkn,by simp,HB3,zdn hZ.out HM.out HT.out⟩,by simp [intOf];omega⟩
    }
    }
    {
    have hkk:k=n:=by omega
    subst hkk;clear hk hkn;go_wp2_with fail;go_ret;exact⟨zao (HQ.out.trans (zc4 _ (by rw [List.length_map,HN.out];exact hZ.out))).symm,hB.out⟩
    }
end
section
open Go.RowKit
attribute [local go_sem ↓] Go.wp_at_zero Go.wp_at_succ
def HV (w:World) (F:Nat) (Z:Nat→Prop) (B:Nat) (r:Vh×Int) (e:Ending) (w' :World):Prop:=e=.returned (.int .i64 r.2)∧Below F w w' ∧(r.2=0→∃q m,q.B=B∧VOwn w' F Z q m r.1)
theorem VOwn.lt (h:VOwn w F Z q m v):F≤w.heap.size:=Nat.le_trans h.fB (Nat.le_of_lt (zak h.box))
theorem zbs {w' :World} {B:Nat} {r:Vh×Int} {x:Int} (hr:r.2=x) (hx:x≠0) (hb:Below F w w'):HV w F Z B r (.returned (.int .i64 x)) w' :=⟨by rw [hr],hb,fun h=>absurd (hr.symm.trans h) hx⟩
theorem hv_ok {w' :World} {r:Vh×Int} (hr:r= (v,0)) (hb:Below F w w') (h:VOwn w' F Z q m v):HV w F Z q.B r (.returned (.int .i64 0)) w' :=by
  subst hr;exact⟨rfl,hb,fun _=>⟨q,m,rfl,h⟩⟩
theorem zf7 (F:Nat) (Z:Nat→Prop) (q:VB) (m:VA) (v:Vh) (k:Int) (w:World) (h:VOwn w F Z q m v):
    Calls Tryz.prog 190 #[.pointer (some ⟨q.B,0,none⟩),.int .i64 k] w fun e w' =>e=.returned (.bool (isU v k))∧w' =w:=by
  have x0:=zaa h.box 11 (.slice m.au m.nu m.cu) rfl;have hl:=h.us.len;have hm: (m.nu:Int)≤9223372036854775807:=by have:=h.us.caps;unfold maxLen at this;omega
  have HC:=hide (zdq k 0 ((m.nu:Int)- 1) w);unfold isU;rw [hl];clear h hl;generalize inB k 0 ((m.nu:Int)- 1)=b at *;go_enter Tryz.func190,Tryz.ntmps190;go_wp2_with fail;refine(zae HC).mono ?_;rintro e w1 ⟨rfl,hw1⟩;replace hw1:=hw1.symm;subst hw1;go_wp2_with fail;go_ret;exact⟨rfl,rfl⟩
theorem zd8 (F:Nat) (Z:Nat→Prop) (q:VB) (m:VA) (v:Vh) (k:Int) (w:World) (h:VOwn w F Z q m v):
    Calls Tryz.prog 195 #[.pointer (some ⟨q.B,0,none⟩),.int .i64 k] w fun e w' =>e=.returned (.bool (isM v k))∧w' =w:=by
  have x0:=zaa h.box 13 (.slice m.an m.nn m.cn) rfl;have hl:=h.net.len;have hm: (m.nn:Int)≤9223372036854775807:=by have:=h.net.caps;unfold maxLen at this;omega
  have HC:=hide (zdq k 0 ((m.nn:Int)- 1) w);unfold isM;rw [hl];clear h hl;generalize inB k 0 ((m.nn:Int)- 1)=b at *;go_enter Tryz.func195,Tryz.ntmps195;go_wp2_with fail;refine(zae HC).mono ?_;rintro e w1 ⟨rfl,hw1⟩;replace hw1:=hw1.symm;subst hw1;go_wp2_with fail;go_ret;exact⟨rfl,rfl⟩
theorem zim (F:Nat) (Z:Nat→Prop) (q:VB) (m:VA) (v:Vh) (k:Int) (w:World) (h:VOwn w F Z q m v):
    Calls Tryz.prog 197 #[.pointer (some ⟨q.B,0,none⟩),.int .i64 k] w fun e w' =>e=.returned (.bool (decide (k= -1)||isU v k))∧w' =w:=by
  have HC:=hide (zf7 F Z q m v k w h);clear h;generalize isU v k=b at *
  by_cases z:k= -1
  {
  have d: (k== -1)=true:=by simpa using z
  rw [show(decide (k= -1)||b)=true by simp [z]];clear z;go_enter Tryz.func197,Tryz.ntmps197;go_wp2_with fail;go_ret;exact⟨rfl,rfl⟩
  }
  {
  have d: (k== -1)=false:=by simpa using z
  rw [show(decide (k= -1)||b)=b by simp [z]];clear z;go_enter Tryz.func197,Tryz.ntmps197;go_wp2_with fail;refine(zae HC).mono ?_;rintro e w1 ⟨rfl,hw1⟩;replace hw1:=hw1.symm;subst hw1;go_wp2_with fail;go_ret;exact⟨rfl,rfl⟩
  }
theorem tick_any (F:Nat) (Z:Nat→Prop) (q:VB) (m:VA) (v:Vh) (w:World) (h:VOwn w F Z q m v) (hn:inB v.now 0 100000=true):
    Calls Tryz.prog 132 #[.pointer (some ⟨q.B,0,none⟩)] w (HV w F Z q.B (tckS v)):=by
  have x0:=zaa h.box 14 (.int .i64 v.now) rfl;have f0:w.frozen? ⟨q.B,14,none⟩=false:=zad h.box 14;have hr:0≤v.now∧v.now≤100000:=by unfold inB at hn;simpa using hn
  have H:=hide h;clear h hn
  by_cases z:v.now=100000
  {
  have HE:Hid (tckS v= (vh0,8)):=by unfold tckS;rw [if_pos z];exact rfl
  have d: (v.now==100000)=true:=by simpa using z
  clear z;go_enter Tryz.func132,Tryz.ntmps132;go_wp2_with fail;go_ret;exact zbs (by rw [HE.out]) (by decide) (Below.refl _ _)
  }
  {
  have HE:Hid (tckS v= (⟨v.ss,v.sg,v.g,v.us,v.cs,v.net,v.now+1⟩,0)):=by unfold tckS;rw [if_neg z];exact rfl
  have d: (v.now==100000)=false:=by simpa using z
  have hwr:IntKind.i64.wrap (v.now+1)=v.now+1:=by rw [IntKind.wrap_i64];omega
  clear z hr;go_enter Tryz.func132,Tryz.ntmps132;go_wp2_with fail;go_ret;exact hv_ok HE.out ((Below.refl _ _).setCell H.out.fB _) (H.out.setNow _)
  }
abbrev aH (x:Hp) (m:OA):Array Value:=#[.int .i64 x.k,.int .i64 x.u,.int .i64 x.j,.slice m.a1 m.n1 m.c1,.slice m.a2 m.n2 m.c2,.int .i64 x.o.v,.int .i64 x.o.u,.slice m.a3 m.n3 m.c3,.slice m.a4 m.n4 m.c4,.slice m.a5 m.n5 m.c5]
end
section
open Go.RowKit
attribute [local go_sem ↓] Go.wp_at_zero Go.wp_at_succ
theorem VOwn.kv (h:VOwn w F Z q m v): ∀b,KV Z q b→b<w.heap.size:=fun b e=>by
  have h1:=zak h.box;have h2:=h.us.lt;have h3:=h.cs.lt;have h4:=h.net.lt;have h5:=h.fB
  rcases e with e|e|e|e|e
  { exact(h.fZ b e).1 }
  { omega }
  { omega }
  { omega }
  { omega }
def gtL (g:Gt) (k:GA):List Value:= [.slice k.a k.n k.c,.int .i64 g.fu,.bool g.up,.int .i64 g.t.r.v,.slice k.ak k.nk k.ck,.int .i64 g.t.r.t,.int .i64 g.t.ver,.slice k.av k.nv k.cv,.slice k.ad k.nd k.cd]
theorem VOwn.gate {w1:World} (h:VOwn w F Z q m v) (hb:Below w.heap.size w w1) {g:Gt} {k:GA} (hg:GIn w1 k g) (hf:GFr w.heap.size k):
    VOwn (puts w1 q.B 2 (gtL g k)) F Z q ⟨m.ab,m.nb,m.cb,m.sa,m.ns,m.cs,k,m.au,m.nu,m.cu,m.ac,m.nc,m.cc,m.an,m.nn,m.cn⟩ ⟨v.ss,v.sg,g,v.us,v.cs,v.net,v.now⟩:=
  (h.below hb).setGate hg (.fresh hf h.kv)
theorem zbd {g o:Nat} (c:List Value) (h:F≤g) (hF:F≤w.heap.size):Below F w (puts w g o c):=(zbn g c w o).below (fun b e=>by rw [e];exact h) hF
theorem zpm (F:Nat) (Z:Nat→Prop) (q:VB) (m:VA) (v:Vh) (w:World) (h:VOwn w F Z q m v):
    Calls Tryz.prog 131 #[.pointer (some ⟨q.B,0,none⟩)] w (HV w F Z q.B (gupS v)):=by
  have x2:=zaa h.box 2 (.slice m.g.a m.g.n m.g.c) rfl;have x3:=zaa h.box 3 (.int .i64 v.g.fu) rfl;have x4:=zaa h.box 4 (.bool v.g.up) rfl;have x5:=zaa h.box 5 (.int .i64 v.g.t.r.v) rfl;have x6:=zaa h.box 6 (.slice m.g.ak m.g.nk m.g.ck) rfl;have x7:=zaa h.box 7 (.int .i64 v.g.t.r.t) rfl;have x8:=zaa h.box 8 (.int .i64 v.g.t.ver) rfl;have x9:=zaa h.box 9 (.slice m.g.av m.g.nv m.g.cv) rfl;have x10:=zaa h.box 10 (.slice m.g.ad m.g.nd m.g.cd) rfl;have HC:=hide (zrg v.g m.g w h.g);unfold gtv at HC;have H:=hide h;have HR:Hid (((gvUp v.g).2=0→gupS v= (⟨v.ss,v.sg,(gvUp v.g).1,v.us,v.cs,v.net,v.now⟩,0))∧((gvUp v.g).2≠0→(gupS v).2= (gvUp v.g).2)):=⟨fun e=>by unfold gupS;rw [if_neg (by simpa using e)],fun e=>by unfold gupS;rw [if_pos e]⟩;clear h;go_enter Tryz.func131,Tryz.ntmps131;go_wp2_with fail;refine(zae HC).mono ?_;rintro e w1 ⟨⟨k3,rfl,g3,e3⟩,hb⟩;unfold gtv;clear x2 x3 x4 x5 x6 x7 x8 x9 x10;have H1:=H.out.below hb;have x2:=zaa H1.box 2 (.slice m.g.a m.g.n m.g.c) rfl;have f2:w1.frozen? ⟨q.B,2,none⟩=false:=zad H1.box 2;have x3:=zaa H1.box 3 (.int .i64 v.g.fu) rfl;have f3:w1.frozen? ⟨q.B,3,none⟩=false:=zad H1.box 3;have x4:=zaa H1.box 4 (.bool v.g.up) rfl;have f4:w1.frozen? ⟨q.B,4,none⟩=false:=zad H1.box 4;have x5:=zaa H1.box 5 (.int .i64 v.g.t.r.v) rfl;have f5:w1.frozen? ⟨q.B,5,none⟩=false:=zad H1.box 5;have x6:=zaa H1.box 6 (.slice m.g.ak m.g.nk m.g.ck) rfl;have f6:w1.frozen? ⟨q.B,6,none⟩=false:=zad H1.box 6;have x7:=zaa H1.box 7 (.int .i64 v.g.t.r.t) rfl;have f7:w1.frozen? ⟨q.B,7,none⟩=false:=zad H1.box 7;have x8:=zaa H1.box 8 (.int .i64 v.g.t.ver) rfl;have f8:w1.frozen? ⟨q.B,8,none⟩=false:=zad H1.box 8;have x9:=zaa H1.box 9 (.slice m.g.av m.g.nv m.g.cv) rfl;have f9:w1.frozen? ⟨q.B,9,none⟩=false:=zad H1.box 9;have x10:=zaa H1.box 10 (.slice m.g.ad m.g.nd m.g.cd) rfl;have f10:w1.frozen? ⟨q.B,10,none⟩=false:=zad H1.box 10;have HW:=hide (H.out.gate hb g3 e3);have HB:=hide (hb.mono H.out.lt);have hlt:=Nat.le_trans H.out.lt hb.size;have hFB:=H.out.fB;clear HC H1 g3 e3 hb;generalize (gvUp v.g).1=g1 at *;generalize (gvUp v.g).2=z1 at *;go_wp2_with fail;go_ret
  by_cases hz:z1=0
  {
  subst hz;have hfin:HV w F Z q.B (gupS v) (.returned (.int .i64 0)) (puts w1 q.B 2 (gtL g1 k3)):=hv_ok (HR.out.1 rfl) (HB.out.trans (zbd _ hFB hlt)) HW.out;exact hfin
  }
  {
  have hfin:HV w F Z q.B (gupS v) (.returned (.int .i64 z1)) (puts w1 q.B 2 (gtL g1 k3)):=zbs (HR.out.2 hz) hz (HB.out.trans (zbd _ hFB hlt));exact hfin
  }
theorem flashOf_g (q:VB) (w:World):Calls Tryz.prog 198 #[.pointer (some ⟨q.B,0,none⟩),.int .i64 (-1)] w fun e w' =>e=.returned (.pointer (some ⟨q.B,2,none⟩))∧w' =w:=by
  go_enter Tryz.func198,Tryz.ntmps198;go_wp2_with fail;go_ret;exact⟨rfl,rfl⟩
theorem flashOf_u (F:Nat) (Z:Nat→Prop) (q:VB) (m:VA) (v:Vh) (k:Nat) (w:World) (h:VOwn w F Z q m v) (hk:k<v.us.length):Calls Tryz.prog 198 #[.pointer (some ⟨q.B,0,none⟩),.int .i64 k] w fun e w' =>e=.returned (.pointer (some ⟨q.bu,k * 5,none⟩))∧w' =w:=by
  have x0:=zaa h.box 11 (.slice m.au m.nu m.cu) rfl;rw [h.us.at_] at x0;have hl:=h.us.len;have hkI: (k:Int)< (m.nu:Int):=by omega
  have hd: ((k:Int)== -1)=false:=by simp
  clear h hl hk;go_enter Tryz.func198,Tryz.ntmps198;go_wp2_with fail;go_ret;exact⟨by simp,rfl⟩
end
section
open Go.RowKit
attribute [local go_sem ↓] Go.wp_at_zero Go.wp_at_succ
def Sm (w:World) (b:Nat):Prop:=∃cs t,w.heap[b]?=some (.cells cs t (0,0))∧cs.size<192
def VBig (m:VA):Prop:=m.cu≤4∧m.cc≤8∧m.cn≤24
theorem zk2 {w1:World} {xs:List Int} (h:zag w1 a xs) (hl:xs.length=192) (hb:Below w.heap.size w w1) (hK: ∀b,K b→Sm w b):Ao xs K a:=by
  rcases h with h| ⟨b,off,rfl,hc⟩
  { exact .inl h }
  {
  refine .at_ fun e=> ?_
  obtain ⟨cs,t,h1,h2⟩:=hK b e;have:=hc 191 (by omega);unfold World.cell? at this;simp only [zab h1 hb] at this;have hx:cs[off+191]?=none:=Array.getElem?_eq_none (by omega)
  simp [hx] at this
  }
theorem zkw {α:Type} {R:World→(Nat→Prop)→α→List Value→Prop} {t:TypeId} {n c b:Nat} {l:List α} (h:ROwn R k t w F K a n c b l) (hc:c * k<192):Sm w b:=by
  obtain ⟨vs,⟨-,h1⟩,-⟩:=h.row;have hat:=h.at_;subst hat
  rcases h1 with ⟨e,-⟩| ⟨g,cap,cur,e,-,h4,-,-,h5,-⟩
  { cases e }
  {
  cases e;exact⟨cur,t,h4,by rw [h5];exact hc⟩
  }
theorem VOwn.small (h:VOwn w F Z q m v) (hg:VBig m) (hZ: ∀b,Z b→Sm w b): ∀b,KV Z q b→Sm w b:=by
  obtain ⟨g1,g2,g3⟩:=hg;intro b e
  rcases e with e|e|e|e|e
  { exact hZ b e }
  { rw [e];exact⟨_,_,h.box,by show 15<192;decide⟩ }
  { rw [e];exact zkw h.us (by omega) }
  { rw [e];exact zkw h.cs (by omega) }
  { rw [e];exact zkw h.net (by omega) }
theorem VOwn.unitAt (h:VOwn w F Z q m v) (hk:v.us[k]?=some u): ∃x n c,BW w x n c u.ws∧(w.cell? ⟨q.bu,k * 5,none⟩=some (.slice x n c)∧w.cell? ⟨q.bu,k * 5+1,none⟩=some (.int .i64 u.fu)∧w.cell? ⟨q.bu,k * 5+2,none⟩=some (.bool u.up)∧w.cell? ⟨q.bu,k * 5+3,none⟩=some (.int .i64 u.n)∧w.cell? ⟨q.bu,k * 5+4,none⟩=some (.int .i64 u.hv)):=by
  obtain ⟨vs,-,h1,h2⟩:=h.us.isRow;obtain ⟨b,off,x,n,c,e,h3,h4,y0,y1,y2,y3,y4⟩:=zdz h1 h2 hk;rw [h.us.at_] at e;cases e;simp only [Nat.zero_add] at y0 y1 y2 y3 y4;exact⟨x,n,c,h3,y0,y1,y2,y3,y4⟩
theorem VOwn.unitFree (h:VOwn w F Z q m v) (j:Nat):w.frozen? ⟨q.bu,j,none⟩=false:=by
  obtain ⟨vs,⟨-,h1⟩,-⟩:=h.us.row;have hat:=h.us.at_;rw [hat] at h1
  rcases h1 with ⟨e,-⟩| ⟨g,cap,cur,e,-,h4,-⟩
  { cases e }
  {
  cases e;exact zad h4 j
  }
def unL (u:Un) (a:Option Addr) (n c:Nat):List Value:= [.slice a n c,.int .i64 u.fu,.bool u.up,.int .i64 u.n,.int .i64 u.hv]
theorem VOwn.unit {w1:World} (h:VOwn w F Z q m v) (hb:Below w.heap.size w w1) (hg:VBig m) (hZ: ∀b,Z b→Sm w b) {u' :Un} {n c:Nat} (hk:v.us[k]?=some u) (hu:BW w1 a n c u'.ws) (hl:u'.ws.length=192):
    VOwn (puts w1 q.bu (k * 5) (unL u' a n c)) F Z q m ⟨v.ss,v.sg,v.g,v.us.set k u',v.cs,v.net,v.now⟩:=
  (h.below hb).setUnit hk hu (zk2 hu.at_ hl hb (h.small hg hZ)) rfl
theorem zj6 {us:List Un} {n:Nat} (h:unsE us n=0) (hk:us[k]?=some u):unE u=0:=by
  unfold unsE at h
  split at h
  { cases h }
  {
  have: ∀(l:List Un),za0 (l.map unE)=0→∀x∈l,unE x=0:=by
    intro l
    induction l with
    |nil=>intro _ x hx;cases hx
    |cons y r ih=>
      intro h0 x hx;simp only [List.map_cons,za0] at h0
      by_cases hy:unE y=0
      {
      rw [if_neg (by simpa using hy)] at h0
      rcases List.mem_cons.1 hx with e|e
      { rw [e];exact hy }
      { exact ih h0 x e }
      }
      { rw [if_pos hy] at h0;exact absurd h0 hy }
  exact this us h u (List.mem_of_getElem? hk)
  }
theorem zk0 (h:unE u=0):u.ws.length=192:=by
  unfold unE at h
  split at h
  { rename_i h1;exact absurd h h1 }
  {
  split at h
  { cases h }
  {
  rename_i h2;exact Classical.byContradiction fun e=>h2 e
  }
  }
theorem vBoot_any (F:Nat) (Z:Nat→Prop) (q:VB) (m:VA) (v:Vh) (node:Int) (w:World) (h:VOwn w F Z q m v) (hg:VBig m) (hZ: ∀b,Z b→Sm w b) (hu:unsE v.us v.g.vo.length=0):
    Calls Tryz.prog 130 #[.pointer (some ⟨q.B,0,none⟩),.int .i64 node] w (HV w F Z q.B (bootV v node)):=by
  have HN:=hide (zim F Z q m v node w h);cases hn: (decide (node= -1)||isU v node)
  {
  have HE:Hid (bootV v node= (vh0,5)):=by unfold bootV;rw [if_pos hn];exact rfl
  rw [hn] at HN;clear hn h hg hZ hu;go_enter Tryz.func130,Tryz.ntmps130;go_wp2_with fail;refine(zae HN).mono ?_;rintro e w1 ⟨rfl,hw1⟩;replace hw1:=hw1.symm;subst hw1;go_wp2_with fail;go_ret;exact zbs (by rw [HE.out]) (by decide) (Below.refl _ _)
  }
  rw [hn] at HN
  by_cases hm:node= -1
  {
  subst hm;have HR:Hid (bootV v (-1)= (⟨v.ss,v.sg,(zdb v.g).1,v.us,v.cs,v.net,v.now⟩,(zdb v.g).2)):=by unfold bootV;rw [if_neg (by rw [hn];decide),if_pos rfl];exact rfl
  have x2:=zaa h.box 2 (.slice m.g.a m.g.n m.g.c) rfl;have x3:=zaa h.box 3 (.int .i64 v.g.fu) rfl;have x4:=zaa h.box 4 (.bool v.g.up) rfl;have x5:=zaa h.box 5 (.int .i64 v.g.t.r.v) rfl;have x6:=zaa h.box 6 (.slice m.g.ak m.g.nk m.g.ck) rfl;have x7:=zaa h.box 7 (.int .i64 v.g.t.r.t) rfl;have x8:=zaa h.box 8 (.int .i64 v.g.t.ver) rfl;have x9:=zaa h.box 9 (.slice m.g.av m.g.nv m.g.cv) rfl;have x10:=zaa h.box 10 (.slice m.g.ad m.g.nd m.g.cd) rfl;have HC:=hide (zol v.g m.g w h.g);unfold gtv at HC;have H:=hide h;clear h hn hg hZ hu;go_enter Tryz.func130,Tryz.ntmps130;go_wp2_with fail;refine(zae HN).mono ?_;rintro e w1 ⟨rfl,hw1⟩;replace hw1:=hw1.symm;subst hw1;go_wp2_with fail;refine(zae HC).mono ?_;rintro e w1 ⟨⟨k3,rfl,g3,e3⟩,hb⟩;unfold gtv;clear x2 x3 x4 x5 x6 x7 x8 x9 x10;have H1:=H.out.below hb;have x2:=zaa H1.box 2 (.slice m.g.a m.g.n m.g.c) rfl;have f2:w1.frozen? ⟨q.B,2,none⟩=false:=zad H1.box 2;have x3:=zaa H1.box 3 (.int .i64 v.g.fu) rfl;have f3:w1.frozen? ⟨q.B,3,none⟩=false:=zad H1.box 3;have x4:=zaa H1.box 4 (.bool v.g.up) rfl;have f4:w1.frozen? ⟨q.B,4,none⟩=false:=zad H1.box 4;have x5:=zaa H1.box 5 (.int .i64 v.g.t.r.v) rfl;have f5:w1.frozen? ⟨q.B,5,none⟩=false:=zad H1.box 5;have x6:=zaa H1.box 6 (.slice m.g.ak m.g.nk m.g.ck) rfl;have f6:w1.frozen? ⟨q.B,6,none⟩=false:=zad H1.box 6;have x7:=zaa H1.box 7 (.int .i64 v.g.t.r.t) rfl;have f7:w1.frozen? ⟨q.B,7,none⟩=false:=zad H1.box 7;have x8:=zaa H1.box 8 (.int .i64 v.g.t.ver) rfl;have f8:w1.frozen? ⟨q.B,8,none⟩=false:=zad H1.box 8;have x9:=zaa H1.box 9 (.slice m.g.av m.g.nv m.g.cv) rfl;have f9:w1.frozen? ⟨q.B,9,none⟩=false:=zad H1.box 9;have x10:=zaa H1.box 10 (.slice m.g.ad m.g.nd m.g.cd) rfl;have f10:w1.frozen? ⟨q.B,10,none⟩=false:=zad H1.box 10;have HW:=hide (H.out.gate hb g3 e3);have HB:=hide (hb.mono H.out.lt);have hlt:=Nat.le_trans H.out.lt hb.size;have hFB:=H.out.fB;clear HC H1 g3 e3 hb;generalize (zdb v.g).1=g1 at *;generalize (zdb v.g).2=z1 at *;go_wp2_with fail;go_ret;have hfin:HV w F Z q.B (bootV v (-1)) (.returned (.int .i64 z1)) (puts w1 q.B 2 (gtL g1 k3)):=⟨by rw [HR.out],HB.out.trans (zbd _ hFB hlt),fun _=>⟨q,_,rfl,by rw [HR.out];exact HW.out⟩⟩;exact hfin
  }
  {
  obtain ⟨k,rfl⟩: ∃k:Nat,node= (k:Int):=⟨node.toNat,by unfold isU inB at hn;simp at hn;omega⟩;have hk:k<v.us.length:=by unfold isU inB at hn;simp at hn;omega
  have hku:v.us[k]?=some v.us[k]:=List.getElem?_eq_getElem hk;have hun:=zj6 hu hku;have HR:Hid (bootV v k= (⟨v.ss,v.sg,v.g,v.us.set k ⟨v.us[k].ws,-1,true,0,0⟩,v.cs,v.net,v.now⟩,0)):=by
    unfold bootV;rw [if_neg (by rw [hn];decide),if_neg hm];simp only [Int.toNat_natCast];rw [show v.us.getD k un9=v.us[k] by simp [hk]];unfold bootS;rw [if_neg (by simpa using hun)];exact rfl
  obtain ⟨x,nx,cx,q0,y0,y1,y2,y3,y4⟩:=h.unitAt hku;have HC:=hide (zn8 v.us[k] x nx cx w q0);have HL:=hide (zk0 hun);have HBS:Hid (bootS v.us[k]= (⟨v.us[k].ws,-1,true,0,0⟩,0)):=by unfold bootS;rw [if_neg (by simpa using hun)];exact rfl
  rw [HBS.out] at HC;unfold unv at HC;have x11:=zaa h.box 11 (.slice m.au m.nu m.cu) rfl;rw [h.us.at_] at x11;have hlu:=h.us.len;have hkI: (k:Int)< (m.nu:Int):=by omega
  have hd: ((k:Int)== -1)=false:=by simp
  have H:=hide h;have HG:=hide hg;have HZ:=hide hZ;have HK:=hide hku;clear h hn hg hZ hu q0 hun hku hlu HBS hm;generalize v.us[k]=u at *;clear hk;go_enter Tryz.func130,Tryz.ntmps130;go_wp2_with fail;refine(zae HN).mono ?_;rintro e w1 ⟨rfl,hw1⟩;replace hw1:=hw1.symm;subst hw1;go_wp2_with fail;refine(zae HC).mono ?_;rintro e w1 ⟨⟨a1,n1,c1,rfl,b1⟩,hb⟩;unfold unv;have H1:=H.out.below hb;clear y0 y1 y2 y3 y4 HC HN;obtain ⟨x1,nx1,cx1,-,y0,y1,y2,y3,y4⟩:=H1.unitAt HK.out;have f0:=H1.unitFree (k * 5);have f1:=H1.unitFree (k * 5+1);have f2:=H1.unitFree (k * 5+2);have f3:=H1.unitFree (k * 5+3);have f4:=H1.unitFree (k * 5+4);have HW:=hide (H.out.unit hb HG.out HZ.out HK.out b1 HL.out);have hlt:=Nat.le_trans H.out.lt hb.size;have hFB:=H.out.us.lt.1;have HB:=hide (hb.mono H.out.lt);clear H1 b1 hb;go_wp2_with fail;go_ret;have hfin:HV w F Z q.B (bootV v k) (.returned (.int .i64 0)) (puts w1 q.bu (k * 5) (unL ⟨u.ws,-1,true,0,0⟩ a1 n1 c1)):=hv_ok HR.out (HB.out.trans (zbd _ hFB hlt)) HW.out;exact hfin
  }
theorem zg3 {g i:Nat} {cur:Array Value} {t:TypeId} {v:Value} (h:w.heap[g]?=some (.cells cur t (0,0))) (hi:cur[i]?=some v):w.setCell ⟨g,i,none⟩ v=w:=by
  rw [setCell_eq_setRow w g i cur t (0,0) v h];have:cur.setIfInBounds i v=cur:=by
    obtain ⟨hl,e⟩:=Array.getElem?_eq_some_iff.1 hi;rw [←e]
    apply Array.ext'
    rw [Array.toList_setIfInBounds];have h2:cur[i]=cur.toList[i]'(by simpa using hl):=by simp
    rw [h2];exact List.set_getElem_self _
  rw [this,setRow_self w g cur t (0,0) h]
theorem VOwn.fuelU (h:VOwn w F Z q m v) (hk:v.us[k]?=some u) (x:Int):
    VOwn (w.setCell ⟨q.bu,k * 5+1,none⟩ (.int .i64 x)) F Z q m ⟨v.ss,v.sg,v.g,v.us.set k (cutU u x),v.cs,v.net,v.now⟩:=by
  obtain ⟨vs,-,r1,r2⟩:=h.us.isRow;obtain ⟨b,off,a,n,c,e,h3,h4,-⟩:=zdz r1 r2 hk;obtain ⟨p,cc,r,e1,e2,⟨a2,n2,c2,e3,h5,h6⟩,-⟩:=r2.put UR.len hk (y:=u) (d:= [.slice a n c,.int .i64 u.fu,.bool u.up,.int .i64 u.n,.int .i64 u.hv]) ⟨a,n,c,rfl,h3,h4⟩;refine h.setUnit (u' :=cutU u x) hk (a:=a2) (n:=n2) (c:=c2) h5 h6 ?_;obtain ⟨vs2,⟨l0,l1⟩,-⟩:=h.us.row;have hat:=h.us.at_;rw [hat] at l1
  rcases l1 with ⟨l1,-⟩| ⟨gg,cap,cur,l1,-,l4,-,-,-,-⟩
  { cases l1 }
  cases l1;obtain ⟨xx,nn,kk,-,y0,y1,y2,y3,y4⟩:=h.unitAt hk;have y0' :w.cell? ⟨q.bu,k * 5,none⟩=some (.slice a2 n2 c2):=by
    rcases r1 with r1| ⟨b1,o1,e5,hc⟩
    { rw [e1] at r1;simp [e3] at r1 }
    {
    rw [hat] at e5;cases e5;have:=hc (k * 5) (.slice a2 n2 c2) (by rw [e1,e3,List.getElem?_append_right (by omega),e2];simp)
    simpa using this
    }
  have cur_of: ∀j v,w.cell? ⟨q.bu,j,none⟩=some v→cur[j]?=some v:=fun j v hv=>by
    simp [World.cell?,l4] at hv
    exact hv
  have c0:=cur_of _ _ y0';have c2' :=cur_of _ _ y2;have c3:=cur_of _ _ y3;have c4:=cur_of _ _ y4
  show _= (((((w.setCell ⟨q.bu,k * 5,none⟩ (.slice a2 n2 c2)).setCell ⟨q.bu,k * 5+1,none⟩ (.int .i64 x)).setCell ⟨q.bu,k * 5+2,none⟩ (.bool u.up)).setCell ⟨q.bu,k * 5+3,none⟩ (.int .i64 u.n)).setCell ⟨q.bu,k * 5+4,none⟩ (.int .i64 u.hv))
  rw [zg3 l4 c0];have l5:=zdu l4 (k * 5+1) (.int .i64 x);rw [zg3 (i:=k * 5+2) l5 (by rw [Array.getElem?_setIfInBounds_ne (by omega)];exact c2'),zg3 (i:=k * 5+3) l5 (by rw [Array.getElem?_setIfInBounds_ne (by omega)];exact c3),zg3 (i:=k * 5+4) l5 (by rw [Array.getElem?_setIfInBounds_ne (by omega)];exact c4)]
theorem vCut_any (F:Nat) (Z:Nat→Prop) (q:VB) (m:VA) (v:Vh) (node k:Int) (w:World) (h:VOwn w F Z q m v):
    Calls Tryz.prog 129 #[.pointer (some ⟨q.B,0,none⟩),.int .i64 node,.int .i64 k] w (HV w F Z q.B (cutS v node k)):=by
  have HN:=hide (zim F Z q m v node w h);have HK:=hide (zdq k 0 100000 w);cases hn: (decide (node= -1)||isU v node)
  {
  have HE:Hid (cutS v node k= (vh0,5)):=by unfold cutS;rw [if_pos hn];exact rfl
  rw [hn] at HN;clear hn h;go_enter Tryz.func129,Tryz.ntmps129;go_wp2_with fail;refine(zae HN).mono ?_;rintro e w1 ⟨rfl,hw1⟩;replace hw1:=hw1.symm;subst hw1;go_wp2_with fail;go_ret;exact zbs (by rw [HE.out]) (by decide) (Below.refl _ _)
  }
  rw [hn] at HN;cases hr:inB k 0 100000
  {
  have HE:Hid (cutS v node k= (vh0,3)):=by unfold cutS;rw [if_neg (by rw [hn];decide),if_pos hr];exact rfl
  rw [hr] at HK;clear hn h hr;go_enter Tryz.func129,Tryz.ntmps129;go_wp2_with fail;refine(zae HN).mono ?_;rintro e w1 ⟨rfl,hw1⟩;replace hw1:=hw1.symm;subst hw1;go_wp2_with fail;refine(zae HK).mono ?_;rintro e w1 ⟨rfl,hw1⟩;replace hw1:=hw1.symm;subst hw1;go_wp2_with fail;go_ret;exact zbs (by rw [HE.out]) (by decide) (Below.refl _ _)
  }
  rw [hr] at HK
  by_cases hm:node= -1
  {
  subst hm;have HR:Hid (cutS v (-1) k= (⟨v.ss,v.sg,⟨v.g.ws,k,v.g.up,v.g.t,v.g.vo,v.g.di⟩,v.us,v.cs,v.net,v.now⟩,0)):=by unfold cutS;rw [if_neg (by rw [hn];decide),if_neg (by rw [hr];decide),if_pos rfl];exact rfl
  have x3:=zaa h.box 3 (.int .i64 v.g.fu) rfl;have f3:w.frozen? ⟨q.B,3,none⟩=false:=zad h.box 3;have HF:=hide (flashOf_g q w);have H:=hide h;clear h hn hr;go_enter Tryz.func129,Tryz.ntmps129;go_wp2_with fail;refine(zae HN).mono ?_;rintro e w1 ⟨rfl,hw1⟩;replace hw1:=hw1.symm;subst hw1;go_wp2_with fail;refine(zae HK).mono ?_;rintro e w1 ⟨rfl,hw1⟩;replace hw1:=hw1.symm;subst hw1;go_wp2_with fail;refine(zae HF).mono ?_;rintro e w1 ⟨rfl,hw1⟩;replace hw1:=hw1.symm;subst hw1;go_wp2_with fail;go_ret;exact hv_ok HR.out ((Below.refl _ _).setCell H.out.fB _) (H.out.setFuel k)
  }
  {
  obtain ⟨j,rfl⟩: ∃j:Nat,node= (j:Int):=⟨node.toNat,by unfold isU inB at hn;simp at hn;omega⟩;have hk:j<v.us.length:=by unfold isU inB at hn;simp at hn;omega
  have hku:v.us[j]?=some v.us[j]:=List.getElem?_eq_getElem hk;have HR:Hid (cutS v j k= (⟨v.ss,v.sg,v.g,v.us.set j (cutU v.us[j] k),v.cs,v.net,v.now⟩,0)):=by
    unfold cutS;rw [if_neg (by rw [hn];decide),if_neg (by rw [hr];decide),if_neg hm];simp only [Int.toNat_natCast];rw [show v.us.getD j un9=v.us[j] by simp [hk]];exact rfl
  obtain ⟨x,nx,cx,-,-,y1,-,-,-⟩:=h.unitAt hku;have f1:=h.unitFree (j * 5+1);have HF:=hide (flashOf_u F Z q m v j w h hk);have H:=hide h;have HKu:=hide hku;clear h hn hr hm hku;generalize v.us[j]=u at *;clear hk;go_enter Tryz.func129,Tryz.ntmps129;go_wp2_with fail;refine(zae HN).mono ?_;rintro e w1 ⟨rfl,hw1⟩;replace hw1:=hw1.symm;subst hw1;go_wp2_with fail;refine(zae HK).mono ?_;rintro e w1 ⟨rfl,hw1⟩;replace hw1:=hw1.symm;subst hw1;go_wp2_with fail;refine(zae HF).mono ?_;rintro e w1 ⟨rfl,hw1⟩;replace hw1:=hw1.symm;subst hw1;go_wp2_with fail;go_ret;exact hv_ok HR.out ((Below.refl _ _).setCell H.out.us.lt.1 _) (H.out.fuelU HKu.out k)
  }
end
section
open Go.RowKit
attribute [local go_sem ↓] Go.wp_at_zero Go.wp_at_succ
theorem zh1 (w:World) (g:Nat) (r:Array Value):w.grownBy (w.setRow g r) (some g):=⟨rfl,rfl,rfl,by simp,fun k _ hk=>setRow_other w g k _ (fun e=>hk (by rw [e]))⟩
def zM:List Value:= [.int .i64 0,.int .i64 0,.int .i64 0,.int .i64 0,.int .i64 0,.slice none 0 0,.bool false]
theorem clear_msg (g i:Nat) (cur:Array Value) (w:World) (hg:w.heap[g]?=some (.cells cur 99 (0,0))) (hi:i * 7+7≤cur.size):
    ∃w' cur',(∀(ty:TypeId) (c2:Nat),(Builtin.clear_ #[38] ty #[.slice (some ⟨g,i * 7,none⟩) 1 c2]).run Tryz.prog w=.ok (.tuple #[]) w')∧w'.heap[g]?=some (.cells cur' 99 (0,0))∧cur'.size=cur.size∧cur'.toList.take (i * 7)=cur.toList.take (i * 7)∧w.grownBy w' (some g):=by
  obtain ⟨i0,hi0,hz0,hz1,hz2⟩:=info_parts infoM;have hst:=run_storeCells_at Tryz.prog g (i * 7) 99 zM 0 cur w hg (by simp [zM];omega) (by intro u hu;simp [zM] at hu;rcases hu with rfl|rfl|rfl<;>rfl);refine⟨w.setRow g (cur.toList.take (i * 7+0)++zM++cur.toList.drop (i * 7+0+zM.length)).toArray,_, ?_,setRow_heap w g cur _ 99 _ hg, ?_, ?_,zh1 _ _ _⟩
  {
  intro ty c2;have hz: (Builtin.zeroCells (Value.agg #[.int .i64 0,.int .i64 0,.int .i64 0,.int .i64 0,.int .i64 0,.slice none 0 0,.bool false]).cells 1).toList=zM:=by kernel_rfl
  simp [Builtin.clear_,run_underlying Tryz.underlying38,zeroValue,typeInfo,hi0,hz0,hz,hst]
  }
  {
  simp [zM]
  omega
  }
  {
  have hp: (cur.toList.take (i * 7+0)).length=i * 7:=by rw [List.length_take,Array.length_toList];omega
  show(cur.toList.take (i * 7+0)++zM++cur.toList.drop (i * 7+0+zM.length)).take (i * 7)=_
  rw [List.append_assoc,List.take_append_of_le_length (by omega),List.take_take]
  simp
  }
def DelAns (g n c k:Nat) (cur:Array Value) (w:World) (e:Ending) (w' :World):Prop:=
  e=.returned (.slice (some ⟨g,0,none⟩) (n - 1) c)∧∃cur',w'.heap[g]?=some (.cells cur' 99 (0,0))∧cur'.size=cur.size∧cur'.toList.take ((n - 1)* 7)=cur.toList.take (k * 7)++(cur.toList.drop ((k+1)* 7)).take ((n - 1 - k)* 7)∧w.grownBy w' (some g)
theorem zra (g n c k:Nat) (cur:Array Value) (w:World) (hg:w.heap[g]?=some (.cells cur 99 (0,0))) (hk:k<n) (hc:n≤c) (hcs:cur.size=c * 7) (hm:c≤1000000) (h1: ∀v∈(cur.toList.drop ((k+1)* 7)).take ((n - 1 - k)* 7),v.oneCell' =true):
    Calls Tryz.prog 196 #[.slice (some ⟨g,0,none⟩) n c,.int .i64 k,.int .i64 (k+1)] w (DelAns g n c k cur w):=by
  obtain ⟨irr,hir,rz0,rz1,rz2⟩:=info_parts infoM;obtain ⟨nw,hnw⟩: ∃nw,nw= (cur.toList.drop ((k+1)* 7)).take ((n - 1 - k)* 7):=⟨_,rfl⟩;have hnl:nw.length= (n - 1 - k)* 7:=by rw [hnw,List.length_take,List.length_drop,Array.length_toList,hcs];omega
  have hn1: ∀u∈nw,u.oneCell' =true:=fun u hu=>h1 u (by rw [←hnw];exact hu)
  have hnc: ∀j u,nw[j]?=some u→w.drew.cell? ⟨g,(k+1)* 7+j,none⟩=some u:=fun j u hu=>by
    have hj:=(List.getElem?_eq_some_iff.1 hu).1;rw [hnw,List.getElem?_take_of_lt (by omega),List.getElem?_drop] at hu;exact zaa (W:=w.drew) hg _ _ (by simpa using hu)
  have hap: ∀(A:Addr) (c2:Nat) ty,(∀j u,nw[j]?=some u→w.drew.cell? (A.add j)=some u)→(Builtin.append_ #[38,38] ty #[.slice (some ⟨g,0,none⟩) k c,.slice (some A) (n - 1 - k) c2]).run Tryz.prog w.drew=.ok (.slice (some ⟨g,0,none⟩) (k+(n - 1 - k)) c) (w.drew.setRow g (cur.toList.take (k * 7)++nw++cur.toList.drop (k * 7+nw.length)).toArray):=fun A c2 ty hA=>by
    have:=run_append_room (P:=Tryz.prog) w.drew 38 ty 99 irr Tryz.underlying38 hir g k c cur hg A (n - 1 - k) c2 nw (by rw [rz1];exact hnl) hA hn1 (by omega) (by rw [rz1,hnl,hcs];omega);rw [rz1] at this;exact this
  have HNW:=hide hnw;have HNL:=hide hnl;have hkn:k+(n - 1 - k)=n - 1:=by omega
  rw [hkn] at hap;have i0: (0:Int)≤(k:Int)+1:=by omega
  have i1: (k:Int)+1≤(n:Int):=by omega
  have i2: (n:Int)≤(c:Int):=by omega
  have i3: (k:Int)≤(c:Int):=by omega
  have i4: ((k:Int)==(k:Int)+1)=false:=by simp;omega
  have i8: ((n - 1:Nat):Int)≤(n:Int):=by omega
  have i9: ¬c=n - 1:=by omega
  have j1:n - (n - 1)=1:=by omega
  have i5:IntKind.i64.wrap ((k:Int)+1)= (k:Int)+1:=by rw [IntKind.wrap_i64];omega
  clear hnw hnl hn1 h1;go_enter Tryz.func196,Tryz.ntmps196;go_upto_region 5 with fail
  have hta: ∀A c2 ty,(A= (⟨g,(k+1)* 7,none⟩:Addr)∨k+1=c)→(Builtin.append_ #[38,38] ty #[.slice (some ⟨g,0,none⟩) k c,.slice (some A) (n - 1 - k) c2]).run Tryz.prog w.drew=.ok (.slice (some ⟨g,0,none⟩) (n - 1) c) (w.drew.setRow g (cur.toList.take (k * 7)++nw++cur.toList.drop (k * 7+nw.length)).toArray):=fun A c2 ty hA=>hap A c2 ty (fun j u hu=>by
    rcases hA with rfl|hA
    · rw [zc2];exact hnc j u hu
    · have hj:=(List.getElem?_eq_some_iff.1 hu).1
      have:=HNL.out;omega)
  have HTA:=hide hta;clear hap hta;have HCU:Hid (∀W,W=w.drew.setRow g (cur.toList.take (k * 7)++nw++cur.toList.drop (k * 7+nw.length)).toArray→∃w',(∀(ty:TypeId) (c2:Nat),(Builtin.clear_ #[38] ty #[.slice (some ⟨g,(n - 1)* 7,none⟩) 1 c2]).run Tryz.prog W=.ok (.tuple #[]) w')∧DelAns g n c k cur w (.returned (.slice (some ⟨g,0,none⟩) (n - 1) c)) w'):=fun W hW=>by
    have hl:=HNL.out;have hh:=setRow_heap w.drew g cur (cur.toList.take (k * 7)++nw++cur.toList.drop (k * 7+nw.length)).toArray 99 (0,0) hg;rw [←hW] at hh;have hsz: (cur.toList.take (k * 7)++nw++cur.toList.drop (k * 7+nw.length)).toArray.size=cur.size:=by simp;omega
    obtain ⟨w',cur',h1,h2,h3,h4,h5⟩:=clear_msg g (n - 1) _ W hh (by rw [hsz,hcs];omega);refine⟨w',h1,rfl,cur',h2,h3.trans hsz, ?_,(show w.grownBy w.drew (some g) from⟨rfl,rfl,rfl,Nat.le_refl _,fun _ _ _=>rfl⟩).trans ((hW▸zh1 _ _ _).trans h5)⟩
    · have hp: (cur.toList.take (k * 7)++nw).length= (n - 1)* 7:=by rw [List.length_append,List.length_take,Array.length_toList,hcs,hl];omega
      rw [h4]
      show(cur.toList.take (k * 7)++nw++cur.toList.drop (k * 7+nw.length)).take ((n - 1)* 7)=_
      rw [←hp,List.take_left,HNW.out]
  by_cases hl:k+1=c
  · have hcn:c=n:=by omega
    subst hcn;have i6: (c:Int)≤(k:Int)+1:=by omega
    have hap: ∀ty,_:=fun ty=>HTA.out ⟨g,0,none⟩ 0 ty (.inr hl)
    rw [show c - 1 - k=0 by omega] at hap;have e6: (k:Int)+1= (c:Int):=by omega
    refine wp_region_held_drew (S:=fun _=>True) (by kernel_rfl) trivial ?_;intro hHeld;refine Htk (i:=0) ?_
    try simp only [sq]
    refine Htk (i:=1) ?_
    try simp only [sq]
    refine Htk (i:=2) ?_
    try simp only [sq]
    refine Htk (i:=3) ?_
    try simp only [sq]
    refine Htk (i:=4) ?_
    try simp only [sq]
    refine Htk (i:=5) ?_
    try simp only [sq]
    refine wpAnyH_ready (rs:= [6]) (by kernel_rfl) (by simp) ?_;refine AllReadyH.cons (by rfl) (fun K hK=> ?_) AllReadyH.nil;refine Lib.wp_append_run _ (.tmp 22) (.tmp 25) _ _ rfl _ _ rfl rfl _ _ (hap _) ?_;refine hK.out _ _ (trivial) (fun hHeld=> ?_);clear hK K
    try simp only [sq]
    refine Htk (i:=7) ?_
    try simp only [Act.put,List.setIfInBounds_toArray]
    refine wpAnyH_done (by kernel_rfl) ?_ _;obtain ⟨W,hW⟩: ∃W,W=w.drew.setRow g (cur.toList.take (k * 7)++nw++cur.toList.drop (k * 7+nw.length)).toArray:=⟨_,rfl⟩;obtain ⟨w',hcl,hfin⟩:=HCU.out W hW;rw [←hW];have HFI:=hide hfin
    clear hfin hW hap HTA HCU hnc hg;go_wp2_with fail;go_ret;exact HFI.out
  · have hap: ∀ty,_:=fun ty=>HTA.out ⟨g,(k+1)* 7,none⟩ (c - (k+1)) ty (.inl rfl)
    have i6: ¬c=k+1:=fun e=>hl e.symm
    have i7: (n - (k+1))=n - 1 - k:=by omega
    rw [←i7] at hap;clear i7 hl;have HAP:=hide hap;clear hap;refine wp_region_held_drew (S:=fun _=>True) (by kernel_rfl) trivial ?_;intro hHeld;refine Htk (i:=0) ?_
    try simp only [sq]
    refine Htk (i:=1) ?_
    try simp only [sq]
    refine Htk (i:=2) ?_
    try simp only [sq]
    refine Htk (i:=3) ?_
    try simp only [sq]
    refine Htk (i:=4) ?_
    try simp only [sq]
    refine Htk (i:=5) ?_
    try simp only [sq]
    refine wpAnyH_ready (rs:= [6]) (by kernel_rfl) (by simp) ?_;refine AllReadyH.cons (by rfl) (fun K hK=> ?_) AllReadyH.nil;refine Lib.wp_append_run _ (.tmp 22) (.tmp 25) _ _ rfl _ _ rfl rfl _ _ (HAP.out _) ?_;refine hK.out _ _ (trivial) (fun hHeld=> ?_);clear hK K
    try simp only [sq]
    refine Htk (i:=7) ?_
    try simp only [Act.put,List.setIfInBounds_toArray]
    refine wpAnyH_done (by kernel_rfl) ?_ _;have hap:=HAP.out;obtain ⟨W,hW⟩: ∃W,W=w.drew.setRow g (cur.toList.take (k * 7)++nw++cur.toList.drop (k * 7+nw.length)).toArray:=⟨_,rfl⟩;obtain ⟨w',hcl,hfin⟩:=HCU.out W hW;rw [←hW];have HFI:=hide hfin
    clear hfin hW hap HTA HCU hnc hg;go_wp2_with fail;go_ret;exact HFI.out
end
end Go.Proofs.YthmekfcgdfckaaaGreatDoor
