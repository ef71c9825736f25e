/- The contracts of vehicle.Same's pieces, of what is alike: images, campaigns, gateways. The contract of vehicle.Same, of two vehicles that are alike. The walk of VehicleNet. How a law's arguments that are books, releases, roots, texts or slices of ints are opened. How a law's arguments that are signatures, what is trusted, or offers are opened. -/
import Derived.Test.YthmekfcgdfckaaaGreatDoorWn41
import Derived.Test.YthmekfcgdfckaaaGreatDoorWn2
import Derived.Deep.DeepCutAuto
import Derived.Test.YthmekfcgdfckaaaGreatDoorWn7
import Derived.ProofKit
import Derived.Lib.SmallJoins
import Derived.SliceStrings
import Derived.Deep.Slices
import Derived.ChangeMaps5
import Derived.Test.YthmekfcgdfckaaaGreatDoorWn19
set_option maxRecDepth 1000000
set_option maxHeartbeats 0
namespace Go.Proofs.YthmekfcgdfckaaaGreatDoor
variable {w W:World} {K:Nat→Prop} {v:Value} {n fuel:Nat} {cs:List Value} {a:Option Addr}
section
open Go.RowKit
attribute [local go_sem ↓] Go.wp_at_zero Go.wp_at_succ
theorem zfp {P:Program} {f:Nat} {args:Array Value} (h:Calls P f args w fun e w' =>e=.returned (.bool true)∧∃n,w' =w.drewN n):Calls P f args w fun e w' =>e=.returned (.bool true)∧Below w.heap.size w w' :=
  h.mono fun e w' q=>⟨q.1,by obtain ⟨n,rfl⟩:=q.2;exact zis w n⟩
theorem zmk {w' :World} {m:CA} {x:Cp} (h:CI w K m x) (hb:Below w.heap.size w w'):CI w' (fun _=>False) m x:=by
  obtain ⟨vs,h1,h2,h3⟩:=h.row;have hc:=Chg.of hb K;exact⟨h.ts.below hb,Ao.no,h.ims.below hb,⟨vs,h1.below hb,(h2.mono (LR.chg hc)).mono (LR.off fun _ q=>q.elim),Ao.no⟩⟩
theorem zq9 (xs:List Int) (a:Option Addr) (na ca:Nat) (b:Option Addr) (nb cb:Nat) (w:World) (h:BI w a na xs) (h2:BI w b nb xs):
    Calls Tryz.prog 154 #[.slice a na ca,.slice b nb cb] w fun e w' =>e=.returned (.bool true)∧Below w.heap.size w w' :=by
  have HS:=hide (zfp (zfj a b na nb ca cb xs xs true w h.at_ h2.at_ h.len h2.len (by unfold eqL;simp) h.max h2.max));clear h h2;go_enter Tryz.func154,Tryz.ntmps154;go_wp2_with fail;refine(zae HS).mono ?_;rintro e w1 ⟨rfl,hb⟩;go_wp2_with fail;go_ret;exact⟨rfl,hb⟩
theorem zm3 (a:Option Addr) (n c:Nat) (a2:Option Addr) (n2 c2:Nat) (l:List (List Int)) (w:World) (h:BL w a n l) (h2:BL w a2 n2 l):
    Calls Tryz.prog 82 #[.slice a n c,.slice a2 n2 c2,.func (.func 154) #[] #[]] w fun e w' =>e=.returned (.bool true)∧Below w.heap.size w w' :=by
  have hn:=h.len;obtain rfl:n=n2:=hn.symm.trans h2.len;have hmx:=h.max;have R1:=hide h.at_;have R2:=hide h2.at_;have HN:=hide hn;clear h h2 hn;have hnI: (n:Int)≤9223372036854775807:=by unfold maxLen at hmx;omega
  go_enter Tryz.func82,Tryz.ntmps82;go_wp2_with fail
  go_loopw [17] (fun i wq=>∃k:Nat,k≤n∧i=.int .i64 k∧Hid (Below w.heap.size w wq)) (fun i _=>n - (intOf i).toNat)
  case atStart=>exact⟨0,by omega,rfl,Below.refl _ _⟩
  case round=>
    obtain ⟨wq,rfl⟩: ∃wq:World,wq=wr:=⟨_,rfl⟩;obtain ⟨k,hk,rfl,hB⟩:=hrel
    by_cases hkn:k<n
    {
    have hkI: (k:Int)< (n:Int):=by omega
    have hul:k<l.length:=by rw [HN.out];exact hkn
    rcases R1.out with rfl| ⟨b,off,rfl,g1⟩
    { simp at hul }
    rcases R2.out with rfl| ⟨b',off',rfl,g2⟩
    { simp at hul }
    obtain ⟨ax,cx,y0,i1,-,-⟩:=g1 k l[k] (List.getElem?_eq_getElem hul);obtain ⟨ay,cy,z0,i2,u1,u2⟩:=g2 k l[k] (List.getElem?_eq_getElem hul);have hm:l[k].length≤maxLen:=by omega
    have HU:=hide (fun W (hW:Below w.heap.size w W)=>zq9 l[k] ax l[k].length cx ay l[k].length cy W ⟨i1.below hW,rfl,hm⟩ ⟨i2.below hW,rfl,hm⟩);clear i1 i2 g1 g2 hm u1 u2;generalize l[k]=u at *;replace y0:=(hB.out.cell (zah y0)).trans y0;replace z0:=(hB.out.cell (zah z0)).trans z0;clear hul;go_wp2_with fail;refine(zae HU _ hB.out).mono ?_;rintro e w3 ⟨rfl,hb3⟩;have HB3:=hide (hB.out.trans (hb3.mono hB.out.size));clear hb3 HU;go_wp2_with fail;exact⟨⟨k+1,hkn,by simp,HB3⟩,by simp [intOf];omega⟩
    }
    {
    have hkk:k=n:=by omega
    subst hkk;clear hk hkn;go_wp2_with fail;go_ret;exact⟨rfl,hB.out⟩
    }
theorem zqj (x:Cp) (k j:CA) (K K2:Nat→Prop) (w:World) (h:CI w K k x) (h2:CI w K2 j x):
    Calls Tryz.prog 87 #[.agg (aC x k),.agg (aC x j)] w fun e w' =>e=.returned (.bool true)∧Below w.heap.size w w' :=by
  have HT:=hide (fun W (hW:Below w.heap.size w W)=>zfp (znh k.at_ j.at_ k.nt j.nt k.ct j.ct x.ts W (h.ts.below hW).at_ (h2.ts.below hW).at_ h.ts.len h2.ts.len h.ts.max));have HL:=hide (fun W (hW:Below w.heap.size w W)=>zm3 k.ai k.ni k.ci j.ai j.ni j.ci x.ims W (h.ims.below hW) (h2.ims.below hW));have hw:Below w.heap.size w ((w.alloc (.cells (aC x k) 94)).alloc (.cells (aC x j) 94)):=bA2;have b0:=hide (zai (heap_alloc_last w (.cells (aC x k) 94)) (.cells (aC x j) 94));have b1:=hide (zau w (.cells (aC x k) 94) (.cells (aC x j) 94));clear h h2;go_enter Tryz.func87,Tryz.ntmps87;go_wp2_with fail;generalize ((w.alloc (.cells (aC x k) 94)).alloc (.cells (aC x j) 94))=W at *;refine(zae HT _ hw).mono ?_;rintro e w1 ⟨rfl,hb⟩;replace b0:=hide (zab b0.out hb);replace b1:=hide (zab b1.out hb);replace hw:=bT hw hb;clear hb HT;have x4:=zaa b0.out 4 _ rfl;have y4:=zaa b1.out 4 _ rfl;go_wp2_with fail;refine(zae HL _ hw).mono ?_;rintro e w2 ⟨rfl,hb⟩;replace b0:=hide (zab b0.out hb);replace b1:=hide (zab b1.out hb);replace hw:=bT hw hb;clear hb HL x4 y4;go_wp2_with fail;go_ret;exact⟨rfl,hw⟩
theorem zmw (a:Option Addr) (n c:Nat) (a2:Option Addr) (n2 c2:Nat) (K K2:Nat→Prop) (l:List Cp) (w:World) (h:RIn CR w K a n c l) (h2:RIn CR w K2 a2 n2 c2 l):
    Calls Tryz.prog 79 #[.slice a n c,.slice a2 n2 c2,.func (.func 87) #[] #[]] w fun e w' =>e=.returned (.bool true)∧Below w.heap.size w w' :=by
  have hn:=h.len;have hn2:=h2.len;obtain rfl:n=n2:=hn.symm.trans hn2;have hmx:=h.max;obtain ⟨vs,r1,r2,-⟩:=h.row;obtain ⟨vs2,s1,s2,-⟩:=h2.row;have R1:=hide r1;have R2:=hide r2;have S1:=hide s1;have S2:=hide s2;have HN:=hide hn;clear h h2 r1 r2 s1 s2 hn hn2;have hnI: (n:Int)≤9223372036854775807:=by unfold maxLen at hmx;omega
  go_enter Tryz.func79,Tryz.ntmps79;go_wp2_with fail
  go_loopw [17] (fun i wq=>∃k:Nat,k≤n∧i=.int .i64 k∧Hid (Below w.heap.size w wq)) (fun i _=>n - (intOf i).toNat)
  case atStart=>exact⟨0,by omega,rfl,Below.refl _ _⟩
  case round=>
    obtain ⟨wq,rfl⟩: ∃wq:World,wq=wr:=⟨_,rfl⟩;obtain ⟨k,hk,rfl,hB⟩:=hrel
    by_cases hkn:k<n
    {
    have hkI: (k:Int)< (n:Int):=by omega
    have hul:k<l.length:=by rw [HN.out];exact hkn
    obtain ⟨b,off,mx,rfl,q0,y0,y1,y2,y3,y4⟩:=zfa R1.out R2.out (List.getElem?_eq_getElem hul);obtain ⟨b',off',my,rfl,q1,z0,z1,z2,z3,z4⟩:=zfa S1.out S2.out (List.getElem?_eq_getElem hul);have HU:=hide (fun W (hW:Below w.heap.size w W)=>zqj l[k] mx my (fun _=>False) (fun _=>False) W (zmk q0 hW) (zmk q1 hW));generalize l[k]=u at *;have hA:=hide (hB.out.alloc hB.out.size (.cells (aC u mx) 94));replace y0:=(hB.out.cell (zah y0)).trans y0;replace z0:=(hA.out.cell (zah z0)).trans z0;replace y1:=(hB.out.cell (zah y1)).trans y1;replace z1:=(hA.out.cell (zah z1)).trans z1;replace y2:=(hB.out.cell (zah y2)).trans y2;replace z2:=(hA.out.cell (zah z2)).trans z2;replace y3:=(hB.out.cell (zah y3)).trans y3;replace z3:=(hA.out.cell (zah z3)).trans z3;replace y4:=(hB.out.cell (zah y4)).trans y4;replace z4:=(hA.out.cell (zah z4)).trans z4;have hb1:Below w.heap.size w ((wq.alloc (.cells (aC u mx) 94)).alloc (.cells (aC u my) 94)):=(hB.out.alloc hB.out.size _).alloc (Nat.le_trans hB.out.size (by simp)) _;clear q0 q1 hul;go_wp2_with fail;refine(zae HU _ hb1).mono ?_;rintro e w3 ⟨rfl,hb3⟩;have HB3:=hide ((bT hb1 hb3));clear hb3 HU;go_wp2_with fail;exact⟨⟨k+1,hkn,by simp,HB3⟩,by simp [intOf];omega⟩
    }
    {
    have hkk:k=n:=by omega
    subst hkk;clear hk hkn;go_wp2_with fail;go_ret;exact⟨rfl,hB.out⟩
    }
theorem zq7 (g:Gt) (k j:GA) (w:World) (h:GIn w k g) (h2:GIn w j g):
    Calls Tryz.prog 84 #[gtv g k,gtv g j] w fun e w' =>e=.returned (.bool true)∧Below w.heap.size w w' :=by
  have HS:=hide (fun W (hW:Below w.heap.size w W)=>(zoa k.a k.n k.c g.ws g.fu j.a j.n j.c g.ws g.fu W (h.below hW).ws.at_ h.ws.len h.ws.max (h2.below hW).ws.at_ h2.ws.len h2.ws.max).mono (R' :=fun e w' =>e=.returned (.bool true)∧Below W.heap.size W w') (fun e w' q=>⟨by rw [q.1];unfold eqL;simp,q.2⟩));have HK:=hide (fun W (hW:Below w.heap.size w W)=>zfp (zfj k.ak j.ak k.nk j.nk k.ck j.ck g.t.r.ks g.t.r.ks true W (h.below hW).ks.at_ (h2.below hW).ks.at_ h.ks.len h2.ks.len (by unfold eqL;simp) h.ks.max h2.ks.max));have HV:=hide (fun W (hW:Below w.heap.size w W)=>zfp (zh4 k.av j.av k.nv j.nv k.cv j.cv g.vo W (h.below hW).vo.at_ (h2.below hW).vo.at_ h.vo.len h2.vo.len h.vo.max));have HD:=hide (fun W (hW:Below w.heap.size w W)=>zfp (zh4 k.ad j.ad k.nd j.nd k.cd j.cd g.di W (h.below hW).di.at_ (h2.below hW).di.at_ h.di.len h2.di.len h.di.max));have hw:Below w.heap.size w ((w.alloc (.cells (aG k g) 35)).alloc (.cells (aG j g) 35)):=bA2;have b0:=hide (zai (heap_alloc_last w (.cells (aG k g) 35)) (.cells (aG j g) 35));have b1:=hide (zau w (.cells (aG k g) 35) (.cells (aG j g) 35));unfold gtv;clear h h2;go_enter Tryz.func84,Tryz.ntmps84;go_wp2_with fail;generalize ((w.alloc (.cells (aG k g) 35)).alloc (.cells (aG j g) 35))=W at *;refine(zae HS _ hw).mono ?_;rintro e w1 ⟨rfl,hb⟩;replace b0:=hide (zab b0.out hb);replace b1:=hide (zab b1.out hb);replace hw:=bT hw hb;clear hb HS;have x2:=zaa b0.out 2 _ rfl;have y2:=zaa b1.out 2 _ rfl;have x3:=zaa b0.out 3 _ rfl;have y3:=zaa b1.out 3 _ rfl;have x4:=zaa b0.out 4 _ rfl;have y4:=zaa b1.out 4 _ rfl;have x6:=zaa b0.out 6 _ rfl;have y6:=zaa b1.out 6 _ rfl;go_wp2_with fail;refine(zae HK _ hw).mono ?_;rintro e w2 ⟨rfl,hb⟩;replace b0:=hide (zab b0.out hb);replace b1:=hide (zab b1.out hb);replace hw:=bT hw hb;clear hb HK x2 y2 x3 y3 x4 y4 x6 y6;have x5:=zaa b0.out 5 _ rfl;have y5:=zaa b1.out 5 _ rfl;have x7:=zaa b0.out 7 _ rfl;have y7:=zaa b1.out 7 _ rfl;go_wp2_with fail;refine(zae HV _ hw).mono ?_;rintro e w3 ⟨rfl,hb⟩;replace b0:=hide (zab b0.out hb);replace b1:=hide (zab b1.out hb);replace hw:=bT hw hb;clear hb HV x5 y5 x7 y7;have x8:=zaa b0.out 8 _ rfl;have y8:=zaa b1.out 8 _ rfl;go_wp2_with fail;refine(zae HD _ hw).mono ?_;rintro e w4 ⟨rfl,hb⟩;replace b0:=hide (zab b0.out hb);replace b1:=hide (zab b1.out hb);replace hw:=bT hw hb;clear hb HD x8 y8;go_wp2_with fail;go_ret;exact⟨rfl,hw⟩
end
section
open Go.RowKit
attribute [local go_sem ↓] Go.wp_at_zero Go.wp_at_succ
theorem zqi (v:Vh) (k j:VA) (K K2:Nat→Prop) (w:World) (h:VIn w K k v) (h2:VIn w K2 j v):
    Calls Tryz.prog 18 #[vhv v k,vhv v j] w fun e w' =>e=.returned (.bool true)∧Below w.heap.size w w' :=by
  have HB:=hide (fun W (hW:Below w.heap.size w W)=>zfp (zog k.ab j.ab k.nb j.nb k.cb j.cb v.ss W (h.below hW).ss.at_ (h2.below hW).ss.at_ h.ss.len h2.ss.len h.ss.max));have HS:=hide (fun W (hW:Below w.heap.size w W)=>zfp (znp k.sa j.sa k.ns j.ns k.cs j.cs v.sg W (h.below hW).sg.at_ (h2.below hW).sg.at_ h.sg.len h2.sg.len h.sg.max));have HG:=hide (fun W (hW:Below w.heap.size w W)=>zq7 v.g k.g j.g W (h.below hW).g (h2.below hW).g);have HU:=hide (fun W (hW:Below w.heap.size w W)=>zmy k.au k.nu k.cu j.au j.nu j.cu K K2 v.us W (h.below hW).us (h2.below hW).us);have HC:=hide (fun W (hW:Below w.heap.size w W)=>zmw k.ac k.nc k.cc j.ac j.nc j.cc K K2 v.cs W (h.below hW).cs (h2.below hW).cs);have HM:=hide (fun W (hW:Below w.heap.size w W)=>zm6 k.an k.nn k.cn j.an j.nn j.cn K K2 v.net W (h.below hW).net (h2.below hW).net);unfold gtv at HG;have hw:Below w.heap.size w ((w.alloc (.cells (aV k v) 40)).alloc (.cells (aV j v) 40)):=bA2;have b0:=hide (zai (heap_alloc_last w (.cells (aV k v) 40)) (.cells (aV j v) 40));have b1:=hide (zau w (.cells (aV k v) 40) (.cells (aV j v) 40));unfold vhv vhC;clear h h2;go_enter Tryz.func18,Tryz.ntmps18;go_wp2_with fail;generalize ((w.alloc (.cells (aV k v) 40)).alloc (.cells (aV j v) 40))=W at *;refine(zae HB _ hw).mono ?_;rintro e w1 ⟨rfl,hb⟩;replace b0:=hide (zab b0.out hb);replace b1:=hide (zab b1.out hb);replace hw:=bT hw hb;clear hb HB;have x1:=zaa b0.out 1 _ rfl;have y1:=zaa b1.out 1 _ rfl;go_wp2_with fail;refine(zae HS _ hw).mono ?_;rintro e w2 ⟨rfl,hb⟩;replace b0:=hide (zab b0.out hb);replace b1:=hide (zab b1.out hb);replace hw:=bT hw hb;clear hb HS x1 y1;have x2:=zaa b0.out 2 _ rfl;have y2:=zaa b1.out 2 _ rfl;have x3:=zaa b0.out 3 _ rfl;have y3:=zaa b1.out 3 _ rfl;have x4:=zaa b0.out 4 _ rfl;have y4:=zaa b1.out 4 _ rfl;have x5:=zaa b0.out 5 _ rfl;have y5:=zaa b1.out 5 _ rfl;have x6:=zaa b0.out 6 _ rfl;have y6:=zaa b1.out 6 _ rfl;have x7:=zaa b0.out 7 _ rfl;have y7:=zaa b1.out 7 _ rfl;have x8:=zaa b0.out 8 _ rfl;have y8:=zaa b1.out 8 _ rfl;have x9:=zaa b0.out 9 _ rfl;have y9:=zaa b1.out 9 _ rfl;have x10:=zaa b0.out 10 _ rfl;have y10:=zaa b1.out 10 _ rfl;go_wp2_with fail;refine(zae HG _ hw).mono ?_;rintro e w3 ⟨rfl,hb⟩;replace b0:=hide (zab b0.out hb);replace b1:=hide (zab b1.out hb);replace hw:=bT hw hb;clear hb HG x2 y2 x3 y3 x4 y4 x5 y5 x6 y6 x7 y7 x8 y8 x9 y9 x10 y10;have x11:=zaa b0.out 11 _ rfl;have y11:=zaa b1.out 11 _ rfl;go_wp2_with fail;refine(zae HU _ hw).mono ?_;rintro e w4 ⟨rfl,hb⟩;replace b0:=hide (zab b0.out hb);replace b1:=hide (zab b1.out hb);replace hw:=bT hw hb;clear hb HU x11 y11;have x12:=zaa b0.out 12 _ rfl;have y12:=zaa b1.out 12 _ rfl;go_wp2_with fail;refine(zae HC _ hw).mono ?_;rintro e w5 ⟨rfl,hb⟩;replace b0:=hide (zab b0.out hb);replace b1:=hide (zab b1.out hb);replace hw:=bT hw hb;clear hb HC x12 y12;have x13:=zaa b0.out 13 _ rfl;have y13:=zaa b1.out 13 _ rfl;go_wp2_with fail;refine(zae HM _ hw).mono ?_;rintro e w6 ⟨rfl,hb⟩;replace b0:=hide (zab b0.out hb);replace b1:=hide (zab b1.out hb);replace hw:=bT hw hb;clear hb HM x13 y13;have x14:=zaa b0.out 14 _ rfl;have y14:=zaa b1.out 14 _ rfl;go_wp2_with fail;go_ret;exact⟨rfl,hw⟩
end
section
open Go.RowKit
attribute [local go_sem ↓] Go.wp_at_zero Go.wp_at_succ zhy zhp zhu
attribute [local go_sem] zgl zgn zgi rdF_V wrF_V zgj zli World.setRow_alloc_new
def hpL (k u j:Int):Value:=.agg #[.int .i64 k,.int .i64 u,.int .i64 j,.slice none 0 0,.slice none 0 0,.int .i64 0,.int .i64 0,.slice none 0 0,.slice none 0 0,.slice none 0 0]
theorem zib (v:Vh) (m:VA) (k u j:Int) (w:World) (h:VIn w (fun _=>False) m v) (hT:Tab w):Calls Tryz.prog 11 #[.agg (vhC v m),hpL k u j] w (DoAns w (doS' v ⟨k,u,j,of9⟩)):=do_any v m ⟨k,u,j,of9⟩ oa9 w h hT (bo9 w)
theorem zhr (v:Vh) (k j:VA) (K K2:Nat→Prop) (w:World) (h:VIn w K k v) (h2:VIn w K2 j v):Calls Tryz.prog 18 #[.agg (vhC v k),.agg (vhC v j)] w fun e w' =>e=.returned (.bool true)∧Below w.heap.size w w' :=zqi v k j K K2 w h h2
theorem VIn.mine {m:VA} {v:Vh} (h:VIn w K m v) (hb:Below w.heap.size w W):VIn W (fun b=>b=w.heap.size) m v:=(h.wide fun _ e=>.inr (Nat.le_of_eq e.symm)).below hb
theorem VIn.time {m:VA} {v:Vh} {n:Int} (h:VIn w K m ⟨v.ss,v.sg,v.g,v.us,v.cs,v.net,n⟩):VIn w K m v:=⟨h.ss,h.sg,h.g,h.us,h.cs,h.net,h.ob,h.os,h.og⟩
theorem VIn.nets {m m' :VA} {v:Vh} {l:List Ms} (h:VIn w (fun _=>False) m' ⟨v.ss,v.sg,v.g,v.us,v.cs,l,v.now⟩) (h2:VIn w (fun _=>False) m v):VIn w (fun _=>False) ⟨m'.ab,m'.nb,m'.cb,m'.sa,m'.ns,m'.cs,m'.g,m'.au,m'.nu,m'.cu,m'.ac,m'.nc,m'.cc,m.an,m.nn,m.cn⟩ v:=⟨h.ss,h.sg,h.g,h.us,h.cs,h2.net,h.ob,h.os,h.og⟩
theorem VIn.any {m:VA} {v:Vh} (h:VIn w K m v):VIn w (fun _=>False) m v:=h.wide fun _ e=>e.elim
theorem vNet_law (v:Vh) (m:VA) (k:Int) (w:World) (h:VIn w (fun _=>False) m v) (hT:Tab w) (hkb: -9223372036854775808≤k∧k≤9223372036854775807):
    Calls Tryz.prog 4 #[vhv v m,.int .i64 k] w fun e w' =>e=.returned (.bool true)∧Below w.heap.size w w' :=by
  have hw:Below w.heap.size w (w.alloc (.cells (vhC v m) 40)):=bA1;have b0:=hide (heap_alloc_last w (.cells (vhC v m) 40));have HV:=hide h;have HT:=hide hT;have HD:=hide (fun W (hW:Below w.heap.size w W)=>zqf W (hT.below hW));have HC:=hide (fun W (hW:Below w.heap.size w W)=>zct v m W (h.below hW));unfold vhv at HC⊢;clear h hT;go_enter Tryz.func4,Tryz.ntmps4;go_wp2_with fail;generalize w.alloc (.cells (vhC v m) 40)=W at *;refine(zae HD _ hw).mono ?_;rintro e w1 ⟨rfl,hb1⟩;have hw1:=bT hw hb1;have B1:=hide (zab b0.out hb1);have x1:=bk_v B1.out;go_wp2_with fail;refine(zae HC _ hw1).mono ?_;rintro e w2 ⟨rfl,hb2⟩;have hw2:=bT hw1 hb2;have B2:=hide (zab B1.out hb2);clear x1 B1 HC b0 hb1 hb2 hw1
  by_cases he:vhE v=0
  {
  have d: (vhE v !=0)=false:=by simpa using he
  have HE0:=hide he;have x2:=bk_v B2.out;have HDo:=hide (zib v m 10 0 0 w2 ((HV.out.below hw2).any) (HT.out.below hw2));unfold hpL at HDo;have hnn:=HV.out.net.len;clear he;go_wp2_with fail;refine(zae HDo).mono ?_;rintro e w3 ⟨⟨m3,rfl,hv3⟩,hb3⟩;unfold vhv;have hw3:=bT hw2 hb3;have B3:=hide (zab B2.out hb3);have hb4:Below w3.heap.size w3 (w3.alloc (.cells (vhC (doS' v ⟨10,0,0,of9⟩).1 m3) 40)):=bA1;have hw4:=bT hw3 hb4;have B4:=hide (zab B3.out hb4);have b5:=hide (heap_alloc_last w3 (.cells (vhC (doS' v ⟨10,0,0,of9⟩).1 m3) 40));have HV3:=hide (hv3.mine hb4);have hl2:=zak B2.out;have hl3:=zak B3.out;clear HDo x2 hv3;have HTk:Hid ((doS' v ⟨10,0,0,of9⟩).2≠0∨((doS' v ⟨10,0,0,of9⟩).2=0∧(doS' v ⟨10,0,0,of9⟩).1= ⟨v.ss,v.sg,v.g,v.us,v.cs,v.net,v.now+1⟩∧v.now+1≤100000∧0≤v.now)):=by
    by_cases hnw:v.now=100000
    { exact .inl (by rw [tick_full HE0.out hnw];decide) }
    {
    have:=(zec HE0.out).now;unfold inB at this;simp only [decide_eq_true_eq] at this;exact .inr ⟨by rw [zjx HE0.out hnw],by rw [zjx HE0.out hnw],by omega,by omega⟩
    }
  generalize doS' v ⟨10,0,0,of9⟩=r at *;obtain ⟨rv,re⟩:=r;dsimp only at HTk HV3 b5 hw4 B4 hb4⊢
  go_upto_if 26 with fail
  generalize w3.alloc (.cells (vhC rv m3) 40)=W4 at *
  go_cut [] (fun wc=>Hid (Below w.heap.size w wc∧wc.heap[w.heap.size]?=some (vhO v m)))
  case first=>
    rcases HTk.out with hz| ⟨hz,hr,hn1,hn0⟩
    {
    have dz: (re==0)=false:=by simpa using hz
    have HFn:Hid (Below w.heap.size w W4∧W4.heap[w.heap.size]?=some (vhO v m)):=⟨hw4,B4.out⟩;clear hz HTk;go_wp2_with fail
    go_meet
    case rel=>exact HFn
    }
    {
    have dz: (re==0)=true:=by simpa using hz
    have x14:=zaa b5.out 14 (.int .i64 rv.now) rfl;have f14:=zad b5.out 14;have hrn:rv.now=v.now+1:=by rw [hr]
    rw [hrn] at x14;have b6: (W4.setCell ⟨w3.heap.size,14,none⟩ (.int .i64 v.now)).heap[w3.heap.size]?=some (vhO v m3):=by
      rw [zie (k:=14) (u:=.int .i64 v.now) b5.out,hr];rfl
    have b7: (W4.setCell ⟨w3.heap.size,14,none⟩ (.int .i64 v.now)).heap[w.heap.size]?=some (vhO v m):=zeq B4.out (by omega);have hch:Chg (fun b=>b=w3.heap.size) W4 (W4.setCell ⟨w3.heap.size,14,none⟩ (.int .i64 v.now)):=(Chg.refl (fun b=>b=w3.heap.size) W4).set (p:=⟨w3.heap.size,14,none⟩) rfl _;have hw5:Below w.heap.size w (W4.setCell ⟨w3.heap.size,14,none⟩ (.int .i64 v.now)):=hw4.trans (hch.below (fun b e=>by omega) hw4.size);have hv5:=HV3.out.chg hch;rw [hr] at hv5;have HSm:=hide (zhr v m3 m _ _ _ hv5.time (HV.out.below hw5));have k6:=bk_v b6;have k7:=bk_v b7;have B7:=hide b7;have HW5:=hide hw5;clear hz hr hrn b6 b7 hch hw5 hv5;go_upto_region 6 with fail
    generalize W4.setCell ⟨w3.heap.size,14,none⟩ (.int .i64 v.now)=W5 at *;go_wp2_with fail;refine(zae HSm).mono ?_;rintro e w6 ⟨rfl,hb6⟩;have HFn:Hid (Below w.heap.size w w6∧w6.heap[w.heap.size]?=some (vhO v m)):=⟨HW5.out.trans (hb6.mono HW5.out.size),zab B7.out hb6⟩;clear HSm k6 k7;go_wp2_with fail
    go_meet
    case rel=>exact HFn
    }
  case rest=>
    have HWc:=hide hcut.out.1;have BC:=hide hcut.out.2;clear hcut HTk HV3 b5 hw4 B4 hb4 B3 hl3 hw3 hb3 B2 hl2 hw2;have x13:=zaa BC.out 13 (.slice m.an m.nn m.cn) rfl
    by_cases hn0:m.nn=0
    {
    rw [hn0] at x13;have HE:=HWc;clear hn0;go_wp2_with fail;go_ret;exact⟨rfl,HE.out⟩
    }
    {
    have hnp: (0:Int)< (m.nn:Int):=by omega
    have hm24:m.nn≤24:=by rw [←hnn];exact(zec HE0.out).many.2
    have hm24I: (m.nn:Int)≤24:=by omega
    have hdn: ((m.nn:Int)==0)=false:=by simp;omega
    have HAt:=hide (at_any k m.nn wc hnp (by omega) hkb);go_wp2_with fail;refine(zae HAt).mono ?_;rintro e w7 ⟨rfl,rfl⟩;obtain ⟨j,hj⟩: ∃j:Nat,(j:Int)=k % m.nn:=⟨(k % m.nn).toNat,Int.toNat_of_nonneg (Int.emod_nonneg _ (by omega))⟩;have hjn: (j:Int)<m.nn:=by rw [hj];exact Int.emod_lt_of_pos _ hnp
    have HJ:Hid (j<v.net.length):=by show _<_;omega
    rw [←hj];clear hj HAt;have xw:=bk_v BC.out;have HDo:=hide (zib v m 4 0 j w7 ((HV.out.below HWc.out).any) (HT.out.below HWc.out));rw [zjy HE0.out HJ.out] at HDo;unfold hpL at HDo;go_wp2_with fail;refine(zae HDo).mono ?_;rintro e w8 ⟨⟨m8,rfl,hv8⟩,hb8⟩;unfold vhv;dsimp only at hv8⊢;clear HDo xw x13;have hn8:m8.nn=m.nn - 1:=by
      rw [←hv8.net.len]
      show(v.net.eraseIdx j).length=_
      rw [List.length_eraseIdx_of_lt HJ.out,hnn]
    have hw8:=HWc.out.trans (hb8.mono HWc.out.size);have hb9:Below w8.heap.size w8 (w8.alloc (.cells (vhC ⟨v.ss,v.sg,v.g,v.us,v.cs,v.net.eraseIdx j,v.now⟩ m8) 40)):=bA1;have B9:=hide (zab BC.out ((bT hb8 hb9)));have b9:=heap_alloc_last w8 (.cells (vhC ⟨v.ss,v.sg,v.g,v.us,v.cs,v.net.eraseIdx j,v.now⟩ m8) 40);have y13: (w8.alloc (.cells (vhC ⟨v.ss,v.sg,v.g,v.us,v.cs,v.net.eraseIdx j,v.now⟩ m8) 40)).cell? ⟨w8.heap.size,13,none⟩=some (.slice m8.an m8.nn m8.cn):=zaa b9 13 _ rfl;have f13:=zad b9 13;have x13: (w8.alloc (.cells (vhC ⟨v.ss,v.sg,v.g,v.us,v.cs,v.net.eraseIdx j,v.now⟩ m8) 40)).cell? ⟨w.heap.size,13,none⟩=some (.slice m.an m.nn m.cn):=zaa B9.out 13 _ rfl;rw [hn8] at y13;have hsub: ((m.nn - 1:Nat):Int)= (m.nn:Int)- 1:=by omega
    have hdb: (((m.nn - 1:Nat):Int) != (m.nn:Int)- 1)=false:=by rw [hsub];simp
    have HV8:=hide hv8;clear hv8 hb9 B9 b9 hn8;go_upto_region 15 with fail
    clear y13 x13 f13 hdb hsub;rw [show(vhC ⟨v.ss,v.sg,v.g,v.us,v.cs,v.net.eraseIdx j,v.now⟩ m8).setIfInBounds 13 (.slice m.an m.nn m.cn)=vhC v ⟨m8.ab,m8.nb,m8.cb,m8.sa,m8.ns,m8.cs,m8.g,m8.au,m8.nu,m8.cu,m8.ac,m8.nc,m8.cc,m.an,m.nn,m.cn⟩ from rfl];have hb9:Below w8.heap.size w8 (w8.alloc (.cells (vhC v ⟨m8.ab,m8.nb,m8.cb,m8.sa,m8.ns,m8.cs,m8.g,m8.au,m8.nu,m8.cu,m8.ac,m8.nc,m8.cc,m.an,m.nn,m.cn⟩) 40)):=bA1;have hw9:=bT hw8 hb9;have B9:=hide (zab BC.out ((bT hb8 hb9)));have k9:=bk_v B9.out;have HSm:=hide (zhr v ⟨m8.ab,m8.nb,m8.cb,m8.sa,m8.ns,m8.cs,m8.g,m8.au,m8.nu,m8.cu,m8.ac,m8.nc,m8.cc,m.an,m.nn,m.cn⟩ m _ _ _ (((HV8.out.any).nets (HV.out.below hw8)).below hb9) (HV.out.below hw9));clear HV8 BC;go_wp2_with fail;generalize w8.alloc (.cells (vhC v ⟨m8.ab,m8.nb,m8.cb,m8.sa,m8.ns,m8.cs,m8.g,m8.au,m8.nu,m8.cu,m8.ac,m8.nc,m8.cc,m.an,m.nn,m.cn⟩) 40)=W9 at *;refine(zae HSm).mono ?_;rintro e w10 ⟨rfl,hb10⟩;have hw10:=bT hw9 hb10;have B10:=hide (zab B9.out hb10);have k10:=bk_v B10.out;have HDo:=hide (zib v m 5 0 j w10 ((HV.out.below hw10).any) (HT.out.below hw10));unfold hpL at HDo;clear HSm k9 hb9 hb8 hw8 hw9 hb10 B9;go_wp2_with fail;refine(zae HDo).mono ?_;rintro e w11 ⟨⟨m11,rfl,hv11⟩,hb11⟩;unfold vhv;clear HDo k10;have hw11:=bT hw10 hb11;have B11:=hide (zab B10.out hb11)
    by_cases hf:v.net.length=24
    {
    rw [dbl_full HE0.out HJ.out hf] at hv11⊢;dsimp only;have hbA:Below w11.heap.size w11 (w11.alloc (.cells (vhC vh0 m11) 40)):=bA1;have x13: (w11.alloc (.cells (vhC vh0 m11) 40)).cell? ⟨w.heap.size,13,none⟩=some (.slice m.an m.nn m.cn):=zaa (zab B11.out hbA) 13 _ rfl;rw [show m.nn=24 by omega] at x13;have HE:=hide ((bT hw11 hbA));clear hv11 hbA hf;go_wp2_with fail;go_ret;exact⟨rfl,HE.out⟩
    }
    {
    rw [dbl_plain HE0.out HJ.out hf] at hv11⊢;dsimp only at hv11⊢;have hbA:Below w11.heap.size w11 (w11.alloc (.cells (vhC (dblV v j) m11) 40)):=bA1;have BA:=hide (zab B11.out hbA);have x13: (w11.alloc (.cells (vhC (dblV v j) m11) 40)).cell? ⟨w.heap.size,13,none⟩=some (.slice m.an m.nn m.cn):=zaa BA.out 13 _ rfl;have hwA:=bT hw11 hbA;have HDo:=hide (zib (dblV v j) m11 4 0 v.net.length _ ((hv11.below hbA).any) (HT.out.below hwA));rw [dbl_lose HE0.out HJ.out hf,hnn] at HDo;unfold hpL at HDo;clear hv11 hf B11;go_wp2_with fail;refine(zae HDo).mono ?_;rintro e w12 ⟨⟨m12,rfl,hv12⟩,hb12⟩;unfold vhv;dsimp only at hv12⊢;clear HDo x13;have hw12:=bT hwA hb12;have hbB:Below w12.heap.size w12 (w12.alloc (.cells (vhC v m12) 40)):=bA1;have hwB:=bT hw12 hbB;have B12:=hide (zab (zab BA.out hb12) hbB);have k12:=bk_v B12.out;have HSm:=hide (zhr v m12 m _ _ _ ((hv12.below hbB).any) (HV.out.below hwB));clear BA;go_wp2_with fail;refine(zae HSm).mono ?_;rintro e w13 ⟨rfl,hb13⟩;have HE:=hide ((bT hwB hb13));go_wp2_with fail;go_ret;exact⟨rfl,HE.out⟩
    }
    }
  }
  {
  have d: (vhE v !=0)=true:=by simpa using he
  clear he;go_wp2_with fail;refine(zae HD _ hw2).mono ?_;rintro e w3 ⟨rfl,hb3⟩;have HE:=hide ((bT hw2 hb3));go_wp2_with fail;go_ret;exact⟨rfl,HE.out⟩
  }
end
section
open Go.ChangeShapes Go.WideShapes Go.ChangeAt Go.RowKit Go.Joins
theorem own:ownKnob Tryz.prog.godebug=none:=by kernel_rfl
theorem laidOut:laidOutB Tryz.prog=true:=by kernel_rfl
theorem zbo:Tryz.prog.cellsOf 3=1:=by kernel_rfl
theorem cells_str:Tryz.prog.cellsOf 9=1:=by kernel_rfl
structure InInts (W:World) (a:Option Addr) (n c:Nat) (xs:List Int):Prop where
  ints:zag W a xs
  len:xs.length=n
  cap:n≤c
  max:n≤maxLen
structure InStrs (W:World) (a:Option Addr) (n c:Nat) (ss:List ByteArray):Prop where
  strs:za1 W a ss
  len:ss.length=n
  cap:n≤c
  max:n≤maxLen
  short: ∀s∈ss,s.size≤maxLen
structure InTgts (W:World) (a:Option Addr) (n c:Nat) (ts:List T3):Prop where
  tgts:zbm W a ts
  len:ts.length=n
  cap:n≤c
  max:n≤maxLen
theorem ad_spot {ad:Addr} (h:W.cell? (ad.add 0)=some v):ad.spot=none:=by
  simpa [Addr.add] using World.cell?_spot h
theorem zeb {b off i:Nat} (h:W.cell? ((⟨b,off,none⟩:Addr).add i)=some v):W.cell? ⟨b,off+i,none⟩=some v:=by
  by_cases hi0:i=0
  { subst hi0;simpa [Addr.add] using h }
  {
  simpa [Addr.add,hi0] using h
  }
theorem zfy {H:Type} {enc:TypeId×Value→H} {x:DataW H×List MemPlace}
    (h:DataW.trod enc Tryz.prog W 0 (fun _=>true) true fuel 26 [v]=some x):
    ∃a n c xs,v=.slice a n c∧InInts W a n c xs:=by
  rcases open_ints Tryz.underlying26 Tryz.underlying3 zbo h with ⟨hcs,hx⟩| ⟨ad,len,cap,zs,hcs,_,hl,hm,hz,hx,hcell,_⟩
  {
  simp at hcs
  subst hcs hx;exact⟨none,0,0, [],rfl,⟨.inl rfl,rfl,Nat.le_refl _,by decide⟩⟩
  }
  {
  simp at hcs hz
  subst hcs hx;refine⟨some ad,len,cap,zs.take len,rfl, ?_,by simp;omega,hl,Nat.le_trans hl hm⟩
  by_cases h0:len=0
  { exact .inl (by simp [h0]) }
  obtain ⟨b,off,spot⟩:=ad;have hs:spot=none:=ad_spot (hcell 0 (by omega));subst hs;refine .inr ⟨b,off,rfl,fun i hi=> ?_⟩
  simp at hi
  rw [zeb (hcell i (by omega))]
  simp [show i<len by omega]
  }
theorem zke {H:Type} {enc:TypeId×Value→H} {x:DataW H×List MemPlace}
    (h:DataW.trod enc Tryz.prog W 0 (fun _=>true) true fuel 22 [v]=some x):
    ∃a n c ss,v=.slice a n c∧InStrs W a n c ss:=by
  rcases open_strings Tryz.underlying22 Tryz.underlying9 cells_str h with ⟨hcs,hx⟩| ⟨ad,len,cap,zs,hcs,_,hl,hm,hz,hx,hcell,hsz⟩
  {
  simp at hcs
  subst hcs hx;exact⟨none,0,0, [],rfl,⟨.inl rfl,rfl,Nat.le_refl _,by decide,by simp⟩⟩
  }
  {
  simp at hcs hz
  subst hcs hx;refine⟨some ad,len,cap,zs.take len,rfl, ?_,by simp;omega,hl,Nat.le_trans hl hm,fun s hs=>hsz s (List.mem_of_mem_take hs)⟩
  by_cases h0:len=0
  { exact .inl (by simp [h0]) }
  obtain ⟨b,off,spot⟩:=ad;have hs:spot=none:=ad_spot (hcell 0 (by omega));subst hs;refine .inr ⟨b,off,rfl,fun i hi=> ?_⟩
  simp at hi
  rw [zeb (hcell i (by omega))]
  simp [show i<len by omega]
  }
theorem zmi:Tryz.prog.cellsOf 163=3:=by kernel_rfl
theorem open_tgt {H:Type} {enc:TypeId×Value→H} {x:DataW H×List MemPlace} (h:DataW.trod enc Tryz.prog W 0 (fun _=>true) true n 163 cs=some x):
    ∃t:T3,cs=zj8 t:=by
  obtain ⟨xs,k,hk,hxy,hl,hxl,hf⟩:=DataW.trod_struct Tryz.underlying163 h;rw [zmi] at hl
  match cs,hl with
  | [v0,v1,v2],_=>
    match xs,hxl with
    | [y0,y1,y2],_=>
      have g0:=hf 0 _ rfl;have g1:=hf 1 _ rfl;have g2:=hf 2 _ rfl
      simp [zbo] at g0 g1 g2
      obtain ⟨z0,e0,_⟩:=DataW.trod_int Tryz.underlying3 g0;obtain ⟨z1,e1,_⟩:=DataW.trod_int Tryz.underlying3 g1;obtain ⟨z2,e2,_⟩:=DataW.trod_int Tryz.underlying3 g2
      simp at e0 e1 e2
      exact⟨(z0,z1,z2),by rw [e0,e1,e2];rfl⟩
theorem zjm {H:Type} {enc:TypeId×Value→H} {x:DataW H×List MemPlace}
    (h:DataW.trod enc Tryz.prog W 0 (fun _=>true) true fuel 43 [v]=some x):
    ∃a n c ts,v=.slice a n c∧InTgts W a n c ts:=by
  rcases Go.Deep.open_slice Tryz.underlying43 h with ⟨hcs,hx⟩| ⟨ad,len,cap,m,n,D,Pl,hcs,_,hl,hm,hmm,hx,hV⟩
  {
  simp at hcs
  subst hcs;exact⟨none,0,0, [],rfl,⟨.inl rfl,rfl,Nat.le_refl _,by decide⟩⟩
  }
  {
  simp at hcs hmm
  subst hcs hmm;have hone: ∀i,∃t:T3,i<len→∀j u,(zj8 t)[j]?=some u→W.cell? ((ad.add (i * 3)).add j)=some u:=by
    intro i
    by_cases hi:i<len
    {
    obtain ⟨cs',h1,h2⟩:=hV i (by omega);obtain ⟨t,rfl⟩:=open_tgt h2;rw [zmi] at h1;obtain ⟨_,hlen,hcell⟩:=World.cells?_some h1;refine⟨t,fun _ j u hj=> ?_⟩;have hj3:j<3:=by
      have:=(List.getElem?_eq_some_iff.1 hj).1
      simpa [zj8] using this
    rw [hcell j (by simpa [zj8] using hj3)];exact hj
    }
    { exact⟨(0,0,0),fun h=>absurd h hi⟩ }
  obtain ⟨R,hR⟩:=Classical.axiomOfChoice hone;refine⟨some ad,len,m,(List.range len).map R,rfl, ?_,by simp,hl,Nat.le_trans hl hm⟩
  by_cases h0:len=0
  { exact .inl (by simp [h0]) }
  obtain ⟨b,off,spot⟩:=ad;have hs:spot=none:=by
    have:=hR 0 (by omega) 0 _ rfl;rw [Nat.zero_mul] at this;have:=World.cell?_spot this
    simpa [Addr.add] using this
  subst hs;refine .inr ⟨b,off,rfl,fun i t hi=> ?_⟩;have hi2:i<len:=by
    have:=(List.getElem?_eq_some_iff.1 hi).1
    simpa using this
  have hri:R i=t:=by simpa [hi2] using hi
  have hc:=hR i hi2;rw [hri] at hc;have hadd: (⟨b,off,none⟩:Addr).add (i * 3)= ⟨b,off+i * 3,none⟩:=by unfold Addr.add;split<;>simp_all
  rw [hadd] at hc;exact⟨by simpa [Addr.add] using hc 0 _ rfl,zeb (hc 1 _ rfl),zeb (hc 2 _ rfl)⟩
  }
end
section
open Go.ChangeShapes Go.WideShapes Go.ChangeAt Go.RowKit Go.Joins
theorem zjr:Tryz.prog.cellsOf 26=1:=by kernel_rfl
theorem zl4:Tryz.prog.cellsOf 111=2:=by kernel_rfl
theorem zkn:Tryz.prog.cellsOf 30=3:=by kernel_rfl
theorem zlz:Tryz.prog.cellsOf 45=3:=by kernel_rfl
theorem zir:Tryz.prog.cellsOf 32=4:=by kernel_rfl
theorem zqm:Tryz.prog.cellsOf 43=1:=by kernel_rfl
theorem zpx:Tryz.prog.cellsOf 42=1:=by kernel_rfl
theorem InInts.bi {c:Nat} {xs:List Int} (h:InInts W a n c xs):BI W a n xs:=⟨h.ints,h.len,h.max⟩
theorem InStrs.bb {c:Nat} {ss:List ByteArray} (h:InStrs W a n c ss):BB W a n c ss:=⟨h.strs,h.len,h.cap,h.max,h.short⟩
theorem InTgts.bt {c:Nat} {ts:List T3} (h:InTgts W a n c ts):BT W a n ts:=⟨h.tgts,h.len,h.max⟩
theorem zln {H:Type} {enc:TypeId×Value→H} {x:DataW H×List MemPlace}
    (h:DataW.trod enc Tryz.prog W 0 (fun _=>true) true fuel 26 [v]=some x):
    ∃a n c xs,v=.slice a n c∧BI W a n xs∧n≤c∧c≤maxLen:=by
  obtain ⟨a,n,c,xs,rfl,hi⟩:=zfy h;refine⟨a,n,c,xs,rfl,hi.bi,hi.cap, ?_⟩
  rcases open_ints Tryz.underlying26 Tryz.underlying3 zbo h with ⟨hcs,hx⟩| ⟨ad,len,cap,zs,hcs,_,hl,hm,hz,hx,hcell,_⟩
  {
  simp at hcs
  rw [hcs.2.2];decide
  }
  {
  simp at hcs
  rw [hcs.2.2];exact hm
  }
theorem open_sig {H:Type} {enc:TypeId×Value→H} {x:DataW H×List MemPlace} (h:DataW.trod enc Tryz.prog W 0 (fun _=>true) true n 111 cs=some x):
    ∃s:S2,cs= [.int .i64 s.1,.int .i64 s.2]:=by
  obtain ⟨xs,k,hk,hxy,hl,hxl,hf⟩:=DataW.trod_struct Tryz.underlying111 h;rw [zl4] at hl
  match cs,hl with
  | [v0,v1],_=>
    match xs,hxl with
    | [y0,y1],_=>
      have g0:=hf 0 _ rfl;have g1:=hf 1 _ rfl
      simp [zbo] at g0 g1
      obtain ⟨z0,e0,_⟩:=DataW.trod_int Tryz.underlying3 g0;obtain ⟨z1,e1,_⟩:=DataW.trod_int Tryz.underlying3 g1
      simp at e0 e1
      exact⟨(z0,z1),by rw [e0,e1]⟩
theorem zkm {H:Type} {enc:TypeId×Value→H} {x:DataW H×List MemPlace} (h:DataW.trod enc Tryz.prog W 0 (fun _=>true) true n 30 cs=some x):
    ∃(r:Rt) (a:Option Addr) (m c:Nat),cs= [.int .i64 r.v,.slice a m c,.int .i64 r.t]∧BI W a m r.ks∧m≤c∧c≤maxLen:=by
  obtain ⟨xs,k,hk,hxy,hl,hxl,hf⟩:=DataW.trod_struct Tryz.underlying30 h;rw [zkn] at hl
  match cs,hl with
  | [v0,v1,v2],_=>
    match xs,hxl with
    | [y0,y1,y2],_=>
      have g0:=hf 0 _ rfl;have g1:=hf 1 _ rfl;have g2:=hf 2 _ rfl
      simp [zbo,zjr] at g0 g1 g2
      obtain ⟨z0,e0,_⟩:=DataW.trod_int Tryz.underlying3 g0;obtain ⟨z2,e2,_⟩:=DataW.trod_int Tryz.underlying3 g2;obtain ⟨a,m,c,ks,rfl,hi,h1,h2⟩:=zln g1
      simp at e0 e2
      exact⟨⟨z0,ks,z2⟩,a,m,c,by rw [e0,e2],hi,h1,h2⟩
theorem zkx {H:Type} {enc:TypeId×Value→H} {x:DataW H×List MemPlace} (h:DataW.trod enc Tryz.prog W 0 (fun _=>true) true n 45 cs=some x):
    ∃(v u:Int) (a:Option Addr) (m c:Nat) (ts:List T3),cs= [.int .i64 v,.int .i64 u,.slice a m c]∧BT W a m ts:=by
  obtain ⟨xs,k,hk,hxy,hl,hxl,hf⟩:=DataW.trod_struct Tryz.underlying45 h;rw [zlz] at hl
  match cs,hl with
  | [v0,v1,v2],_=>
    match xs,hxl with
    | [y0,y1,y2],_=>
      have g0:=hf 0 _ rfl;have g1:=hf 1 _ rfl;have g2:=hf 2 _ rfl
      simp [zbo,zqm] at g0 g1 g2
      obtain ⟨z0,e0,_⟩:=DataW.trod_int Tryz.underlying3 g0;obtain ⟨z1,e1,_⟩:=DataW.trod_int Tryz.underlying3 g1;obtain ⟨a,m,c,ts,rfl,hi⟩:=zjm g2
      simp at e0 e1
      exact⟨z0,z1,a,m,c,ts,by rw [e0,e1],hi.bt⟩
theorem zka {H:Type} {enc:TypeId×Value→H} {x:DataW H×List MemPlace}
    (h:DataW.trod enc Tryz.prog W 0 (fun _=>true) true fuel 25 [v]=some x):
    ∃a n c l,v=.slice a n c∧BG W a n l:=by
  rcases Go.Deep.open_slice Tryz.underlying25 h with ⟨hcs,hx⟩| ⟨ad,len,cap,m,n,D,Pl,hcs,_,hl,hm,hmm,hx,hV⟩
  {
  simp at hcs
  subst hcs;exact⟨none,0,0, [],rfl,⟨.inl rfl,rfl,by decide⟩⟩
  }
  {
  simp at hcs hmm
  subst hcs hmm;have hone: ∀i,∃t:S2,i<len→∀j u,([Value.int .i64 t.1,.int .i64 t.2]:List Value)[j]?=some u→W.cell? ((ad.add (i * 2)).add j)=some u:=by
    intro i
    by_cases hi:i<len
    {
    obtain ⟨cs',h1,h2⟩:=hV i (by omega);obtain ⟨t,rfl⟩:=open_sig h2;rw [zl4] at h1;obtain ⟨_,hlen,hcell⟩:=World.cells?_some h1;refine⟨t,fun _ j u hj=> ?_⟩;have hj3:j<2:=by
      have:=(List.getElem?_eq_some_iff.1 hj).1
      simpa using this
    rw [hcell j (by simpa using hj3)];exact hj
    }
    { exact⟨(0,0),fun h=>absurd h hi⟩ }
  obtain ⟨R,hR⟩:=Classical.axiomOfChoice hone;refine⟨some ad,len,m,(List.range len).map R,rfl, ?_,by simp,Nat.le_trans hl hm⟩
  by_cases h0:len=0
  { exact .inl (by simp [h0]) }
  obtain ⟨b,off,spot⟩:=ad;have hs:spot=none:=by
    have:=hR 0 (by omega) 0 _ rfl;rw [Nat.zero_mul] at this;have:=World.cell?_spot this
    simpa [Addr.add] using this
  subst hs;refine .inr ⟨b,off,rfl,fun i t hi=> ?_⟩;have hi2:i<len:=by
    have:=(List.getElem?_eq_some_iff.1 hi).1
    simpa using this
  have hri:R i=t:=by simpa [hi2] using hi
  have hc:=hR i hi2;rw [hri] at hc;have hadd: (⟨b,off,none⟩:Addr).add (i * 2)= ⟨b,off+i * 2,none⟩:=by unfold Addr.add;split<;>simp_all
  rw [hadd] at hc;exact⟨by simpa [Addr.add] using hc 0 _ rfl,zeb (hc 1 _ rfl)⟩
  }
end
end Go.Proofs.YthmekfcgdfckaaaGreatDoor
