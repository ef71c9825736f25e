/- The contract of meta.ReleaseText. The contracts of trust.checkRelease, allMeant. The contract of trust.Take. Plain facts: what is taken is newer, and signed; without signatures it isn't taken, nor twice. -/
import Derived.Test.YthmekfcgdfckaaaGreatDoorWt8
import Derived.Test.YthmekfcgdfckaaaGreatDoorWt0
import Derived.Deep.AppendLies
import Derived.Test.YthmekfcgdfckaaaGreatDoorWt17
import Derived.Deep.RegionHeld3
import Derived.Deep.DeepCutAuto
import Derived.Test.YthmekfcgdfckaaaGreatDoorWt18
set_option maxRecDepth 1000000
set_option maxHeartbeats 0
namespace Go.Proofs.YthmekfcgdfckaaaGreatDoor
variable {v u ver now units:Int} {ts:List T3} {w sigs:List Int} {k:Nat} {ss:List ByteArray} {t:Tr} {l:List S2} {r:Rt} {ws:List (List Int)} {o:Of}
section
open Go.RowKit
theorem zj1 (w:World) (b:Nat) (x:Int) (t:TypeId) (hb:b=w.heap.size):zag (w.alloc (.cells #[.int .i64 x] t)) (some ⟨b,0,none⟩) [x]:=
  zd2 w b [x] _ t hb rfl
theorem rel_I64 (h:relE v u ts=0): (∀x∈ [v],I64 x)∧(∀x∈ [u],I64 x)∧∀t∈ts,∀x∈ [t.1,t.2.1,t.2.2],I64 x:=by
  obtain ⟨h1,h2,h3⟩:=relE_IR h;refine⟨fun x hx=> ?_,fun x hx=> ?_,fun t ht x hx=> ?_⟩
  { simp at hx;subst hx;exact h1 }
  { simp at hx;subst hx;exact h2 }
  {
  obtain ⟨a,b,c⟩:=h3 t ht
  simp at hx
  rcases hx with rfl|rfl|rfl
  { exact a }
  { exact b }
  {
  exact c
  }
  }
def prt (v u:Int) (ts:List T3) (k:Nat):List ByteArray:=bs (headT v u)::(ts.take k).map (fun t=>bs (tgtT t))
theorem row_one {w:World} {B b:Nat} {s:ByteArray} (h:za4 w B [s]) (hb:b≤B):w.ownsRow b 9 1 (.slice (some ⟨B,0,none⟩) 1 1) 1 (svals [s]):=
  ⟨rfl,.inr ⟨B,1,(svals [s]).toArray,rfl,hb,h,Nat.le_refl _,by decide,by simp [svals],by simp [svals]⟩⟩
theorem prt_len {n:Nat} (hn:ts.length=n) (hk:k≤n): (prt v u ts k).length=k+1:=by simp [prt];omega
theorem prt_all {n:Nat} (hn:ts.length=n): (prt v u ts n).map (·.data.toList)=headT v u::ts.map tgtT:=by
  unfold prt;rw [List.take_of_length_le (by omega)]
  simp [bs]
theorem prt_next (hk:k<ts.length):svals (prt v u ts (k+1))=svals (prt v u ts k)++ [.string (bs (wr [ts[k].1,ts[k].2.1,ts[k].2.2]))]:=by
  unfold prt svals;rw [List.take_succ_eq_append_getElem hk,List.map_append,List.map_cons,List.map_append,List.map_cons,List.map_cons,List.map_nil,List.map_nil];rfl
theorem one_str (s:ByteArray): ∀u∈ [Value.string s],u.oneCell' =true:=by
  intro u hu;simp at hu;subst hu;rfl
theorem row_strs {w:World} {b n:Nat} {v:Value} (h:w.ownsRow b 9 1 v n (svals ss)) (hn:ss.length=n): ∃A C,v=.slice A n C∧n≤C∧za1 w A ss:=by
  obtain ⟨_,⟨rfl,rfl⟩| ⟨g,cap,cur,rfl,_,hg,hc,_,hs,ht⟩⟩:=h
  { exact⟨none,0,rfl,Nat.le_refl _,.inl (by simpa using hn)⟩ }
  {
  refine⟨_,cap,rfl,hc,.inr ⟨g,0,rfl,fun i hi=> ?_⟩⟩;have hi2: (cur.toList.take (n * 1))[i]?=some (.string (ss.getD i ByteArray.empty)):=by rw [ht];simp [svals,hi]
  rw [List.getElem?_take,if_pos (by omega)] at hi2;rw [Nat.zero_add];exact zaa hg i _ (by simpa using hi2)
  }
theorem headT_app {s t:ByteArray} (v u:Int) (h:s=bs relW) (h2:t=bs untW):s++bs (wr [v])++t++bs (wr [u])=bs (headT v u):=zn9 relW (wr [v]) untW (wr [u]) h h2
theorem zfx (v u:Int) (a:Option Addr) (n c:Nat) (ts:List T3) (w:World) (h:zbm w a ts) (hn:ts.length=n) (hm:n≤maxLen) (hT:Tab w):
    Calls Tryz.prog 104 #[relv v u a n c] w fun e w' =>e=.returned (.tuple #[.string (bs (relTx v u ts)),.int .i64 (relE v u ts)])∧Below w.heap.size w w' :=by
  have hw0:Below w.heap.size w (w.alloc (.cells #[.int .i64 v,.int .i64 u,.slice a n c] 45)):=bA1;have b0:=hide (heap_alloc_last w (.cells #[.int .i64 v,.int .i64 u,.slice a n c] 45));have i0:=h.below hw0;have t0:=hT.below hw0;have HC:=hide (fun W (hW:zbm W a ts)=>zff v u a n c ts W hW hn hm);unfold relv at HC⊢
  by_cases h0:relE v u ts=0
  {
  have HX:=hide (show relTx v u ts=relT v u ts by unfold relTx;rw [if_pos h0]);obtain ⟨k1,k2,k3⟩:=rel_I64 h0;have hl:n≤4:=by have:=(zk4 h0).2.2.1;omega
  have HW:=hide (fun W B x (kx: ∀y∈ [x],I64 y) (hW:zag W (some ⟨B,0,none⟩) [x]) (hTW:Tab W)=>zdp (some ⟨B,0,none⟩) 1 1 [x] W hW rfl kx (by omega) hTW);have l1:=hide (zeh k1 (by simp));have l2:=hide (zeh k2 (by simp));have K1:=hide k1;have K2:=hide k2;have K3:=hide k3;have H0:=hide h0;rw [h0] at HC;rw [h0];have hadd1: ¬9223372036854775807<8+(bs (wr [v])).size:=by rw [zdk];have:=l1.out;omega
  have hadd2: ¬9223372036854775807<8+(bs (wr [v])).size+7:=by rw [zdk];have:=l1.out;omega
  have hadd3: ¬9223372036854775807<8+(bs (wr [v])).size+7+(bs (wr [u])).size:=by rw [zdk,zdk];have:=l1.out;have:=l2.out;omega
  have HN:=hide hn;clear hn k1 k2 k3 h0;go_enter Tryz.func104,Tryz.ntmps104;go_wp2_with fail;generalize w.alloc (.cells #[.int .i64 v,.int .i64 u,.slice a n c] 45)=W at *;refine(zae HC _ i0).mono ?_;rintro e w1 ⟨rfl,hb1⟩;replace b0:=hide (zab b0.out hb1);replace i0:=i0.below hb1;replace t0:=t0.below hb1;replace hw0:=bT hw0 hb1;clear hb1;replace HW:=hide (fun W B x (hW:Below w1.heap.size w1 W) kx (hi:zag W (some ⟨B,0,none⟩) [x])=>(HW.out W B x kx hi (t0.below hW)).mono fun _ _ h=>(⟨h.1,h.2,hW.trans (h.2.mono hW.size)⟩:_∧Below W.heap.size W _∧Below w1.heap.size w1 _));go_upto_region 4 with fail
  go_cut [5] (fun v5 wx=>∃B,v5=.slice (some ⟨B,0,none⟩) 1 1∧w1.heap.size≤B∧Hid (za4 wx B [bs (headT v u)])∧Below w1.heap.size w1 wx)
  case first=>
    have hb5:True:=trivial
    go_region_held3 (fun w' =>w'.cell? ⟨w.heap.size,0,none⟩=some (.int .i64 v)∧w'.cell? ⟨w.heap.size,1,none⟩=some (.int .i64 u)∧w'.cell? ⟨w.heap.size,2,none⟩=some (.slice a n c)∧Below w1.heap.size w1 w')
      (first| (refine keep3 ?_ b0.out;(repeat(first|with_reducible assumption|with_reducible exact Below.refl _ _|with_reducible refine Below.drew ?_|with_reducible refine zaf ?_ _));done))
      ((first
        | (go_at_call 168;refine(zae HW _ _ v ?_ K1.out ?_).mono ?_;(focus((repeat(first|with_reducible assumption|with_reducible exact Below.refl _ _|with_reducible refine Below.drew ?_|with_reducible refine zaf ?_ _));done));(focus((repeat(first|with_reducible refine zf6 ?_| (with_reducible refine zj1 _ _ v _ ?_;(first|with_reducible rfl| (simp;done)))|with_reducible refine zag.alloc ?_ _|with_reducible refine zag.below ?_ hb5));done));rintro e w5 ⟨rfl,hb5,hk5⟩)
        | (go_at_call 168;refine(zae HW _ _ u ?_ K2.out ?_).mono ?_;(focus((repeat(first|with_reducible assumption|with_reducible exact Below.refl _ _|with_reducible refine Below.drew ?_|with_reducible refine zaf ?_ _));done));(focus((repeat(first|with_reducible refine zf6 ?_| (with_reducible refine zj1 _ _ u _ ?_;(first|with_reducible rfl| (simp;done)))|with_reducible refine zag.alloc ?_ _|with_reducible refine zag.below ?_ hb5));done));rintro e w5 ⟨rfl,hb5,hk5⟩)))
    all_goals
      go_wp2_with fail
      go_meet
      case rel=>
        refine⟨_,rfl,hk5.size, ?_,zaf hk5 _⟩
        show za4 _ _ _
        rw [←headT_app v u rfl rfl];exact heap_alloc_last _ _
  case rest=>
  obtain ⟨B,rfl,hB,ho,hwc⟩:=hcut;have hB0:w.heap.size≤B:=Nat.le_trans hw0.size hB;replace b0:=hide (zab b0.out hwc);replace i0:=i0.below hwc;replace t0:=t0.below hwc;replace hw0:=bT hw0 hwc;have x2:=zaa b0.out 2 _ rfl;clear hwc hB HW hadd1 hadd2 hadd3 l1 l2 K1 K2;have hr0:=row_one ho.out hB0;clear ho;have HJ:=hide (fun W A C (hW:za1 W A (prt v u ts n)) (hC:n+1≤C)=>zot A (n+1) C (prt v u ts n) [59,32] W hW (prt_len HN.out (Nat.le_refl _)) hC (by omega) (by rw [prt_all HN.out];have:=relT_len H0.out;unfold relT at this;exact Nat.le_trans this (by decide)));rw [prt_all HN.out] at HJ;obtain ⟨ii,hii,iz0,iz1,iz2⟩:=info_parts zna;have hr1:Hid (wc.ownsRow w.heap.size 9 1 (.slice (some ⟨B,0,none⟩) 1 1) (0+1) (svals (prt v u ts 0))):=hr0;clear hr0;go_wp2_with fail
  go_loopw [5,29] (fun p i wq=>∃k:Nat,k≤n∧i=.int .i64 k∧Below w.heap.size w wq∧Hid (wq.ownsRow w.heap.size 9 1 p (k+1) (svals (prt v u ts k)))) (fun _ i _=>n - (intOf i).toNat)
  case atStart=>exact⟨0,Nat.zero_le _,rfl,hw0,hr1⟩
  case round=>
    rename_i p5
    clear hr1 x2 b0 i0 t0 hw0;obtain ⟨wq,rfl⟩: ∃wq:World,wq=wr:=⟨_,rfl⟩;obtain ⟨k,hk,rfl,hw,hr⟩:=hrel
    by_cases hlt:k<n
    {
    have i1:=h.below hw
    rcases i1 with rfl| ⟨bb,oo,rfl,hc0⟩
    {
    have:=HN.out
    simp at this
    omega
    }
    have hkx:k<ts.length:=by rw [HN.out];exact hlt
    obtain ⟨e0,e1,e2⟩:=hc0 k ts[k] (List.getElem?_eq_getElem hkx);have hk3:=K3.out ts[k] (List.getElem_mem hkx);have HP:=hide (prt_next (v:=v) (u:=u) hkx);clear hc0;generalize ts[k]=tk at *;have HR:=hide (fun W=>zl6 tk W);unfold tv at HR;have HW:=hide (fun W B (hW:zag W (some ⟨B,0,none⟩) [tk.1,tk.2.1,tk.2.2]) (hTW:Tab W)=>zdp (some ⟨B,0,none⟩) 3 3 [tk.1,tk.2.1,tk.2.2] W hW rfl hk3 (by omega) hTW);have hwA:=hw.alloc hw.size (.cells #[.int .i64 tk.1,.int .i64 tk.2.1,.int .i64 tk.2.2] 163);have hrA:=hr.out.alloc (.cells #[.int .i64 tk.1,.int .i64 tk.2.1,.int .i64 tk.2.2] 163);go_wp2_with fail;generalize wq.alloc (.cells #[.int .i64 tk.1,.int .i64 tk.2.1,.int .i64 tk.2.2] 163)=wA at *;refine(zae HR _).mono ?_;rintro e w2 ⟨rfl,hb2⟩;replace hwA:=bT hwA hb2;replace hrA:=hide (zba hrA hb2);clear hb2;have hwB:=hwA.alloc hwA.size (.cells #[.int .i64 tk.1,.int .i64 tk.2.1,.int .i64 tk.2.2] 226);have hrB:=hrA.out.alloc (.cells #[.int .i64 tk.1,.int .i64 tk.2.1,.int .i64 tk.2.2] 226);have iB:zag (w2.alloc (.cells #[.int .i64 tk.1,.int .i64 tk.2.1,.int .i64 tk.2.2] 226)) (some ⟨w2.heap.size,0,none⟩) [tk.1,tk.2.1,tk.2.2]:=zd2 _ _ _ _ _ rfl rfl;go_wp2_with fail;generalize w2.alloc (.cells #[.int .i64 tk.1,.int .i64 tk.2.1,.int .i64 tk.2.2] 226)=wB at *;refine(zae HW _ _ iB (hT.below hwB)).mono ?_;rintro e w3 ⟨rfl,hb3⟩;replace hwB:=bT hwB hb3;replace hrB:=zba hrB hb3;have hrC:=hrB.alloc (.cells #[.string (bs (wr [tk.1,tk.2.1,tk.2.2]))] 9);clear hb3
    go_wp2_with (at_builtin;refine wpList_append_lies _ rfl _ _ 22 rfl w.heap.size 9 ii _ 1 16 Tryz.underlying22 hii iz0 iz1 iz2 rfl (by omega) _ (k+1) _ rfl hrC ⟨w3.heap.size,0,none⟩ 1 1 [.string (bs (wr [tk.1,tk.2.1,tk.2.2]))] rfl rfl (zg5 _ _ _) (one_str _) (by omega) (by unfold maxLen;omega) (by omega) (by have:=hwB.size;simp;omega) (w3.heap.size+1) (by simp) ?_;intro g cap w4 hown4 hgr4 _ _)
    have hw4:Below w.heap.size w w4:=(hwB.alloc hwB.size _).grown hgr4 (by have:=hwB.size;simp;omega) (zc5 hrC);go_wp2_with fail
    go_roundw
    case rel=>
      refine⟨k+1,by omega,by go_num,hw4, ?_⟩
      show World.ownsRow _ _ _ _ _ _ _
      rw [HP.out];exact hown4
    case measure=>simp [intOf];omega
    }
    {
    have hkn:k=n:=by omega
    subst hkn;obtain ⟨A,C,rfl,hC,hiS⟩:=row_strs hr.out (prt_len HN.out (Nat.le_refl _));go_wp2_with fail;refine(zae HJ _ _ _ hiS hC).mono ?_;rintro e w5 ⟨rfl,hb5⟩;go_wp2_with fail;go_ret2;rw [HX.out];exact⟨rfl,(bT hw hb5)⟩
    }
  }
  {
  have hb: (relE v u ts !=0)=true:=by simpa using h0
  have HX:=hide (show relTx v u ts= [] by unfold relTx;rw [if_neg h0]);clear hn h0;generalize relE v u ts=q at *;go_enter Tryz.func104,Tryz.ntmps104;go_wp2_with fail;generalize w.alloc (.cells #[.int .i64 v,.int .i64 u,.slice a n c] 45)=W at *;refine(zae HC _ i0).mono ?_;rintro e w1 ⟨rfl,hb1⟩;replace hw0:=bT hw0 hb1;go_wp2_with fail;go_ret2;rw [HX.out];exact⟨rfl,hw0⟩
  }
end
section
open Go.RowKit
theorem crE_1 (h:relE v u ts≠0):crE ss l r v u ts sigs=relE v u ts:=by unfold crE;rw [if_neg h]
theorem crE_2 (h:relE v u ts=0) (h2:bookE ss≠0):crE ss l r v u ts sigs=bookE ss:=by unfold crE;rw [if_pos h,if_neg h2]
theorem crE_3 (h:relE v u ts=0) (h2:bookE ss=0):crE ss l r v u ts sigs=csE l r sigs (nameN ss (bs (relT v u ts))):=by unfold crE;rw [if_pos h,if_pos h2]
theorem zij (ab:Option Addr) (nb cb:Nat) (ss:List ByteArray) (a1:Option Addr) (n1 c1:Nat) (l:List S2) (r:Rt) (a2:Option Addr) (n2 c2:Nat) (v u:Int) (a3:Option Addr) (n3 c3:Nat) (ts:List T3) (a4:Option Addr) (n4 c4:Nat) (sigs:List Int) (w:World)
    (h0:BB w ab nb cb ss) (h1:BG w a1 n1 l) (h2:BI w a2 n2 r.ks) (h3:BT w a3 n3 ts) (h4:BI w a4 n4 sigs) (hT:Tab w):
    Calls Tryz.prog 273 #[bookv ab nb cb,.slice a1 n1 c1,rv r.v a2 n2 c2 r.t,relv v u a3 n3 c3,.slice a4 n4 c4] w fun e w' =>e=.returned (.int .i64 (crE ss l r v u ts sigs))∧Below w.heap.size w w' :=by
  have hw0:Below w.heap.size w (((w.alloc (.cells #[.slice ab nb cb] 24)).alloc (.cells #[.int .i64 r.v,.slice a2 n2 c2,.int .i64 r.t] 30)).alloc (.cells #[.int .i64 v,.int .i64 u,.slice a3 n3 c3] 45)):=(bA2).alloc (by simp;omega) _;have b0:=hide (zai (zai (heap_alloc_last w (.cells #[.slice ab nb cb] 24)) (.cells #[.int .i64 r.v,.slice a2 n2 c2,.int .i64 r.t] 30)) (.cells #[.int .i64 v,.int .i64 u,.slice a3 n3 c3] 45));have b1:=heap_alloc_last (w.alloc (.cells #[.slice ab nb cb] 24)) (.cells #[.int .i64 r.v,.slice a2 n2 c2,.int .i64 r.t] 30);rw [World.size_alloc] at b1;replace b1:=hide (zai b1 (.cells #[.int .i64 v,.int .i64 u,.slice a3 n3 c3] 45));have HB:=hide (fun W (hW:Below w.heap.size w W)=>zfx v u a3 n3 c3 ts W (h3.below hW).at_ h3.len h3.max (hT.below hW));have HC:=hide (fun W s (hW:Below w.heap.size w W)=>zjc ab nb cb ss s W (h0.below hW).at_ h0.len h0.cap h0.max h0.short);have HD:=hide (fun W name (hW:Below w.heap.size w W)=>zg8 a1 n1 c1 l r a2 n2 c2 a4 n4 c4 sigs name W (h1.below hW) (h2.below hW) (h4.below hW));unfold rv at HD⊢;unfold relv at HB⊢;unfold bookv at HC⊢;clear h0 h1 h2 h3 h4 hT;go_enter Tryz.func273,Tryz.ntmps273;go_wp2_with fail;generalize ((w.alloc (.cells #[.slice ab nb cb] 24)).alloc (.cells #[.int .i64 r.v,.slice a2 n2 c2,.int .i64 r.t] 30)).alloc (.cells #[.int .i64 v,.int .i64 u,.slice a3 n3 c3] 45)=W at *;refine(zae HB _ hw0).mono ?_;rintro e w1 ⟨rfl,hb⟩;replace b0:=hide (zab b0.out hb);replace b1:=hide (zab b1.out hb);replace hw0:=bT hw0 hb;clear hb HB
  by_cases z1:relE v u ts=0
  rotate_left
  {
  have HE:=hide (crE_1 (ss:=ss) (l:=l) (r:=r) (sigs:=sigs) z1);have hq: (relE v u ts !=0)=true:=by simpa using z1
  clear z1 HC HD;generalize relE v u ts=q at *;generalize bs (relTx v u ts)=sx at *;go_wp2_with fail;go_ret;exact⟨zap HE.out.symm,hw0⟩
  }
  rw [show relTx v u ts=relT v u ts by unfold relTx;rw [if_pos z1],z1];have Z1:=hide z1;clear z1;have x0:=zaa b0.out 0 _ rfl;generalize hsx:bs (relT v u ts)=sx;replace hsx:=hide hsx;replace HC:=hide (fun W hW=>HC.out W sx hW);go_wp2_with fail;refine(zae HC _ hw0).mono ?_;rintro e w2 ⟨rfl,hb⟩;replace b1:=hide (zab b1.out hb);replace hw0:=bT hw0 hb;clear hb HC x0
  by_cases z2:bookE ss=0
  rotate_left
  {
  have HE:=hide (crE_2 (l:=l) (r:=r) (sigs:=sigs) Z1.out z2);have hq: (bookE ss !=0)=true:=by simpa using z2
  clear z2 HD;generalize bookE ss=q at *;generalize nameE ss sx=q2 at *;go_wp2_with fail;go_ret;exact⟨zap HE.out.symm,hw0⟩
  }
  have HE:=hide (crE_3 (l:=l) (r:=r) (sigs:=sigs) Z1.out z2);rw [show nameE ss sx= (nameN ss sx:Int) by unfold nameE;rw [if_pos z2],z2];rw [hsx.out] at HE;clear z2;generalize (nameN ss sx:Int)=nm at *;have x0:=zaa b1.out 0 _ rfl;have x1:=zaa b1.out 1 _ rfl;have x2:=zaa b1.out 2 _ rfl;go_wp2_with fail;refine(zae HD _ _ hw0).mono ?_;rintro e w3 ⟨rfl,hb⟩;go_wp2_with fail;go_ret;exact⟨zap HE.out.symm,(bT hw0 hb)⟩
theorem meant_bad (hk:k<ts.length) (hk2:k<ws.length) (h:zcx ss ts[k] ws[k]=false):zb2 ss (ts.drop k) (ws.drop k)=false:=by
  rw [List.drop_eq_getElem_cons hk,List.drop_eq_getElem_cons hk2,zb2,h];rfl
theorem zrj (hk:k<ts.length) (hk2:k<ws.length) (h:zcx ss ts[k] ws[k]=true):zb2 ss (ts.drop k) (ws.drop k)=zb2 ss (ts.drop (k+1)) (ws.drop (k+1)):=by
  rw [List.drop_eq_getElem_cons hk,List.drop_eq_getElem_cons hk2,zb2,h];rfl
theorem meant1_1 {t:T3} (h:inE ss w≠0):zcx ss t w=false:=by unfold zcx;simp [h]
theorem meant1_2 {t:T3} (h: ¬inN ss w=t.2.1):zcx ss t w=false:=by unfold zcx;simp [h]
theorem meant1_3 {t:T3} (h: ¬(w.length:Int)=t.2.2):zcx ss t w=false:=by unfold zcx;simp [h]
theorem meant1_0 {t:T3} (h:inE ss w=0) (h2:inN ss w=t.2.1) (h3: (w.length:Int)=t.2.2):zcx ss t w=true:=by unfold zcx;simp [h,h2,h3]
theorem keepM {w1 W:World} {B bs_ os_:Nat} {v0 v1:Value} {ty:TypeId} (hb:Below w1.heap.size w1 W) (h:w1.heap[B]?=some (.cells #[v0] ty (0,0))) (hs:w1.cell? ⟨bs_,os_,none⟩=some v1):W.cell? ⟨B,0,none⟩=some v0∧W.cell? ⟨bs_,os_,none⟩=some v1∧Below w1.heap.size w1 W:=
  ⟨zaa (zab h hb) 0 _ rfl,by rw [hb.cell (zah hs)];exact hs,hb⟩
theorem znx (ab:Option Addr) (nb cb:Nat) (ss:List ByteArray) (a1:Option Addr) (n1 c1:Nat) (ts:List T3) (a2:Option Addr) (n2 c2:Nat) (ws:List (List Int)) (w:World)
    (h0:BB w ab nb cb ss) (h1:BT w a1 n1 ts) (h2:BL w a2 n2 ws) (hn:n1=n2) (hT:Tab w):
    Calls Tryz.prog 274 #[bookv ab nb cb,.slice a1 n1 c1,.slice a2 n2 c2] w fun e w' =>e=.returned (.bool (zb2 ss ts ws))∧Below w.heap.size w w' :=by
  have hw0:Below w.heap.size w (w.alloc (.cells #[.slice ab nb cb] 24)):=bA1;have b0:=hide (heap_alloc_last w (.cells #[.slice ab nb cb] 24));have HI:=hide (fun W a n c xs (hW:Below w.heap.size w W) (hi:BI W a n xs)=>zew ab nb cb ss a n c xs W (h0.below hW).at_ h0.len h0.cap h0.max h0.short hi.at_ hi.len hi.max (hT.below hW));have L1:=hide h1.len;have L2:=hide h2.len;have m1:=h1.max;have m2:=h2.max;have H1:=hide h1.at_;have H2:=hide h2.at_;have HNn:=hide hn;unfold maxLen at m1 m2;unfold bookv at HI⊢;clear h0 h1 h2 hT hn;go_enter Tryz.func274,Tryz.ntmps274;go_wp2_with fail;generalize w.alloc (.cells #[.slice ab nb cb] 24)=W at *
  go_loopw [13] (fun i wr=>∃k:Nat,k≤n1∧i=.int .i64 k∧Below w.heap.size w wr∧Hid (wr.heap[w.heap.size]?=some (.cells #[.slice ab nb cb] 24 (0,0)))∧Hid (zb2 ss (ts.drop k) (ws.drop k)=zb2 ss ts ws)) (fun i _=>n1 - (intOf i).toNat)
  case atStart=>exact⟨0,Nat.zero_le _,rfl,hw0,b0,rfl⟩
  case round=>
    clear b0 hw0;obtain ⟨wq,rfl⟩: ∃wq:World,wq=wr:=⟨_,rfl⟩;obtain ⟨k,hk,rfl,hw0,b0,hts⟩:=hrel
    by_cases hlt:k<n1
    {
    have hk1:k<ts.length:=by rw [L1.out];exact hlt
    have hk2:k<ws.length:=by rw [L2.out,←HNn.out];exact hlt
    have hlt2:k<n2:=by rw [←HNn.out];exact hlt
    have i1:=H1.out.below hw0;have i2:=H2.out.below hw0
    rcases i1 with e| ⟨b3,o3,rfl,hc3⟩
    { rw [e] at hk1;simp at hk1 }
    rcases i2 with e| ⟨b4,o4,rfl,hc4⟩
    { rw [e] at hk2;simp at hk2 }
    obtain ⟨e0,e1,e2⟩:=hc3 k ts[k] (List.getElem?_eq_getElem hk1);obtain ⟨ag,cg,g0,hig,hlg,hcg⟩:=hc4 k ws[k] (List.getElem?_eq_getElem hk2);have big:BI wq ag ws[k].length ws[k]:=⟨hig,rfl,by omega⟩;have HMb:=hide (meant_bad (ss:=ss) hk1 hk2);have HMn:=hide (zrj (ss:=ss) hk1 hk2);clear hc3 hc4 hig hlg hcg;generalize ts[k]=tk at *;generalize ws[k]=wk at *;obtain ⟨ng,hng⟩: ∃ng,ng=wk.length:=⟨_,rfl⟩;rw [←hng] at g0 big;have hbP:Below wq.heap.size wq (wq.alloc (.cells #[.int .i64 tk.1,.int .i64 tk.2.1,.int .i64 tk.2.2] 163)):=bA1;have bV:=hide (heap_alloc_last wq (.cells #[.int .i64 tk.1,.int .i64 tk.2.1,.int .i64 tk.2.2] 163));have b0P:=hide (zab b0.out hbP);have hwP:=bT hw0 hbP;have bgP:=big.below hbP;have gP: (wq.alloc (.cells #[.int .i64 tk.1,.int .i64 tk.2.1,.int .i64 tk.2.2] 163)).cell? ⟨b4,o4+k,none⟩=some (.slice ag ng cg):=by rw [hbP.cell (zah g0)];exact g0
    replace hng:=hide hng;go_upto_region 4 with fail
    generalize wq.alloc (.cells #[.int .i64 tk.1,.int .i64 tk.2.1,.int .i64 tk.2.2] 163)=wP at *;obtain ⟨V,hV⟩: ∃V,V=wq.heap.size:=⟨_,rfl⟩;rw [←hV] at bV⊢;clear e0 e1 e2 g0 hbP big b0 hw0 hV;have HIk:=hide (fun W' (hW:Below wP.heap.size wP W')=>HI.out W' ag ng cg wk ((bT hwP hW)) (bgP.below hW));have Q1:=hide (meant1_1 (ss:=ss) (t:=tk) (w:=wk));have Q2:=hide (meant1_2 (ss:=ss) (t:=tk) (w:=wk));have Q3:=hide (meant1_3 (ss:=ss) (t:=tk) (w:=wk));have Q0:=hide (meant1_0 (ss:=ss) (t:=tk) (w:=wk));rw [←hng.out] at Q3 Q0;generalize inE ss wk=qe at *;generalize inN ss wk=qn at *;refine wp_region_held_drew (S:=fun w' =>w'.cell? ⟨w.heap.size,0,none⟩=some (.slice ab nb cb)∧w'.cell? ⟨b4,o4+k,none⟩=some (.slice ag ng cg)∧Below wP.heap.size wP w') (by kernel_rfl) (keepM (Below.refl _ _).drew b0P.out gP) ?_;intro hHeld;refine Htk (i:=0) ?_
    try simp only [sq]
    refine Htk (i:=1) ?_
    try simp only [sq]
    refine Htk (i:=2) ?_
    try simp only [sq]
    refine Htk (i:=3) ?_
    try simp only [sq]
    refine Htk (i:=4) ?_
    try simp only [sq]
    refine wpAnyH_ready (rs:= [5]) (by kernel_rfl) (by simp) ?_;refine AllReadyH.cons (by rfl) (fun K hK=> ?_) AllReadyH.nil;go_simp;have hB:=hHeld.2.2;refine(zae HIk _ hB).mono ?_;rintro e w5 ⟨rfl,hb⟩;have hk5:=bT hB hb;go_wp2_with fail;refine hK.out _ _ (keepM hk5 b0P.out gP) (fun hHeld=> ?_);clear hK K hB
    try simp only [sq]
    refine Htk (i:=6) ?_
    try simp only [sq]
    refine Htk (i:=7) ?_
    try simp only [sq]
    refine Htk (i:=8) ?_
    try simp only [sq]
    refine Htk (i:=9) ?_
    try simp only [sq]
    refine Htk (i:=10) ?_
    try simp only [sq]
    refine wpAnyH_done (by kernel_rfl) ?_ _;have hw5:=bT hwP hk5;have b05:=hide (zab b0P.out hk5);have bV5:=hide (zab bV.out hk5);have g5:w5.cell? ⟨b4,o4+k,none⟩=some (.slice ag ng cg):=by rw [hk5.cell (zah gP)];exact gP
    have x1:=zaa bV5.out 1 _ rfl;have x2:=zaa bV5.out 2 _ rfl;clear hk5 hb gP bgP HIk hwP b0P bV
    by_cases z1:qe=0
    rotate_left
    {
    have HE:=hide (hts.out.symm.trans (HMb.out (Q1.out z1)));have d1: (qe !=0)=true:=by simpa using z1
    clear z1;go_wp2_with fail;go_quiet (fail);go_wp2_with fail;go_ret;exact⟨zan HE.out.symm,below_drewN hw5 _⟩
    }
    have d1: (qe !=0)=false:=by simpa using z1
    by_cases z2:qn=tk.2.1
    rotate_left
    {
    have HE:=hide (hts.out.symm.trans (HMb.out (Q2.out z2)));have d2: (qn !=tk.2.1)=true:=by simpa using z2
    clear z1 z2;go_wp2_with fail;go_quiet (fail);go_wp2_with fail;go_ret;exact⟨zan HE.out.symm,below_drewN hw5 _⟩
    }
    have d2: (qn !=tk.2.1)=false:=by simpa using z2
    by_cases z3: (ng:Int)=tk.2.2
    rotate_left
    {
    have HE:=hide (hts.out.symm.trans (HMb.out (Q3.out z3)));have d3: ((ng:Int) !=tk.2.2)=true:=by simpa using z3
    clear z1 z2 z3;go_wp2_with fail;go_quiet (fail);go_wp2_with fail;go_ret;exact⟨zan HE.out.symm,below_drewN hw5 _⟩
    }
    have d3: ((ng:Int) !=tk.2.2)=false:=by simpa using z3
    have HE:=hide (HMn.out (Q0.out z1 z2 z3));clear z1 z2 z3;go_wp2_with fail;go_quiet (fail);go_wp2_with fail
    go_roundw
    case rel=>exact⟨k+1,by omega,by go_num,below_drewN hw5 _,b05.out,HE.out.symm.trans hts.out⟩
    case measure=>simp [intOf];omega
    }
    {
    go_wp2_with fail;go_ret;have hx:=hts.out;rw [List.drop_eq_nil_of_le (by rw [L1.out];omega)] at hx;exact⟨zan (by rw [←hx];simp [zb2]),hw0⟩
    }
end
section
open Go.RowKit
structure OA where
  a1:Option Addr
  n1:Nat
  c1:Nat
  a2:Option Addr
  n2:Nat
  c2:Nat
  a3:Option Addr
  n3:Nat
  c3:Nat
  a4:Option Addr
  n4:Nat
  c4:Nat
  a5:Option Addr
  n5:Nat
  c5:Nat
def offv (v u:Int) (m:OA):Value:=.agg #[.slice m.a1 m.n1 m.c1,.slice m.a2 m.n2 m.c2,.int .i64 v,.int .i64 u,.slice m.a3 m.n3 m.c3,.slice m.a4 m.n4 m.c4,.slice m.a5 m.n5 m.c5]
def ofO (v u:Int) (m:OA):Obj:=.cells #[.slice m.a1 m.n1 m.c1,.slice m.a2 m.n2 m.c2,.int .i64 v,.int .i64 u,.slice m.a3 m.n3 m.c3,.slice m.a4 m.n4 m.c4,.slice m.a5 m.n5 m.c5] 47 (0,0)
structure BO (w:World) (m:OA) (o:Of):Prop where
  roots:BR w m.a1 m.n1 o.roots
  rsigs:BL w m.a2 m.n2 o.rsigs
  tgts:BT w m.a3 m.n3 o.ts
  sigs:BI w m.a4 m.n4 o.sigs
  imgs:BL w m.a5 m.n5 o.imgs
theorem BO.below {w w' :World} {m:OA} (h:BO w m o) (hb:Below w.heap.size w w'):BO w' m o:=⟨h.roots.below hb,h.rsigs.below hb,h.tgts.below hb,h.sigs.below hb,h.imgs.below hb⟩
theorem restE_1 (h:o.v≤ver):restE ss ver o now units=10:=by unfold restE;rw [if_pos h]
theorem restE_2 (h: ¬o.v≤ver) (h2:o.u<now):restE ss ver o now units=11:=by unfold restE;rw [if_neg h,if_pos h2]
theorem restE_3 (h: ¬o.v≤ver) (h2: ¬o.u<now) (h3: ¬(o.ts.length:Int)=units):restE ss ver o now units=4:=by unfold restE;rw [if_neg h,if_neg h2,if_pos h3]
theorem restE_4 (h: ¬o.v≤ver) (h2: ¬o.u<now) (h3: (o.ts.length:Int)=units) (h4: ¬(o.imgs.length:Int)=units):restE ss ver o now units=4:=by unfold restE;rw [if_neg h,if_neg h2,if_neg (by simpa using h3),if_pos h4]
theorem restE_5 (h: ¬o.v≤ver) (h2: ¬o.u<now) (h3: (o.ts.length:Int)=units) (h4: (o.imgs.length:Int)=units) (h5:zb2 ss o.ts o.imgs=false):restE ss ver o now units=5:=by unfold restE;rw [if_neg h,if_neg h2,if_neg (by simpa using h3),if_neg (by simpa using h4),h5];rfl
theorem restE_0 (h: ¬o.v≤ver) (h2: ¬o.u<now) (h3: (o.ts.length:Int)=units) (h4: (o.imgs.length:Int)=units) (h5:zb2 ss o.ts o.imgs=true):restE ss ver o now units=0:=by unfold restE;rw [if_neg h,if_neg h2,if_neg (by simpa using h3),if_neg (by simpa using h4),h5];rfl
theorem takeE_1 (h1:trE t≠0):takeE ss l t o now units=trE t:=by unfold takeE;rw [if_neg h1]
theorem takeE_2 (h1:trE t=0) (h2:allE ss l t o.roots o.rsigs≠0):takeE ss l t o now units=allE ss l t o.roots o.rsigs:=by unfold takeE;rw [if_pos h1,if_neg h2]
theorem takeE_3 (h1:trE t=0) (h2:allE ss l t o.roots o.rsigs=0) (h3:crE ss l (lastR t.r o.roots) o.v o.u o.ts o.sigs≠0):takeE ss l t o now units=crE ss l (lastR t.r o.roots) o.v o.u o.ts o.sigs:=by unfold takeE;rw [if_pos h1,if_pos h2,if_neg h3]
theorem takeE_4 (h1:trE t=0) (h2:allE ss l t o.roots o.rsigs=0) (h3:crE ss l (lastR t.r o.roots) o.v o.u o.ts o.sigs=0):takeE ss l t o now units=restE ss t.ver o now units:=by unfold takeE;rw [if_pos h1,if_pos h2,if_pos h3]
theorem csE_ok {name:Int} (h:csE l r sigs name=0):cntE l r sigs=0∧r.t≤(cntN l r.ks sigs name:Int):=by
  unfold csE at h
  split at h
  {
  rename_i h1
  split at h
  { cases h }
  { exact⟨h1,by omega⟩ }
  }
  {
  rename_i h1
  exact absurd h h1
  }
theorem cntE_ok (h:cntE l r sigs=0):sigE l=0∧r.e=0∧sigs.length≤50:=by
  unfold cntE at h
  split at h
  {
  rename_i h1
  split at h
  {
  rename_i h2
  split at h
  { cases h }
  { exact⟨h1,h2,by omega⟩ }
  }
  {
  rename_i h2
  exact absurd h h2
  }
  }
  {
  rename_i h1
  exact absurd h h1
  }
theorem crE_ok (h:crE ss l r v u ts sigs=0):relE v u ts=0∧bookE ss=0∧csE l r sigs (nameN ss (bs (relT v u ts)))=0:=by
  unfold crE at h
  split at h
  {
  rename_i h1
  split at h
  {
  rename_i h2
  exact⟨h1,h2,h⟩
  }
  {
  rename_i h2
  exact absurd h h2
  }
  }
  {
  rename_i h1
  exact absurd h h1
  }
def takeT (q:Int) (t:Tr) (o:Of):Tr:=turnT q ⟨t.r,o.v⟩ (lastR t.r o.roots)
theorem take_any (ab:Option Addr) (nb cb:Nat) (ss:List ByteArray) (a1:Option Addr) (n1 c1:Nat) (l:List S2) (t:Tr) (a2:Option Addr) (n2 c2:Nat) (o:Of) (m:OA) (now units:Int) (w:World)
    (h0:BB w ab nb cb ss) (h1:BG w a1 n1 l) (h2:BI w a2 n2 t.r.ks) (h3:BO w m o) (hT:Tab w):
    Calls Tryz.prog 240 #[bookv ab nb cb,.slice a1 n1 c1,trv t.r.v a2 n2 c2 t.r.t t.ver,offv o.v o.u m,.int .i64 now,.int .i64 units] w fun e w' =>TAns w' e (takeT (takeE ss l t o now units) t o) (takeE ss l t o now units) (Frsh w.heap.size)∧Below w.heap.size w w' :=by
  have hw0:Below w.heap.size w ((((w.alloc (bkO ab nb cb)).alloc (trO t a2 n2 c2)).alloc (ofO o.v o.u m)).alloc tzO):=((bA2).alloc (by simp;omega) _).alloc (by simp;omega) _;have tb:Hid (TB ((((w.alloc (bkO ab nb cb)).alloc (trO t a2 n2 c2)).alloc (ofO o.v o.u m)).alloc tzO) w.heap.size (bkO ab nb cb) (trO t a2 n2 c2) (ofO o.v o.u m) tzO):=
    ⟨zai (zai (zai (heap_alloc_last _ _) _) _) _,zai (zai (last1 _ _ _) _) _,zai (last2 _ _ _ _) _,last3 _ _ _ _ _⟩
  have HA:=hide (fun W (hW:Below w.heap.size w W)=>zee t a2 n2 c2 W (h2.below hW));have HB:=hide (fun W (hW:Below w.heap.size w W)=>zow ab nb cb ss a1 n1 c1 l t a2 n2 c2 m.a1 m.n1 m.c1 o.roots m.a2 m.n2 m.c2 o.rsigs W (h0.below hW) (h1.below hW) (h2.below hW) (h3.below hW).roots (h3.below hW).rsigs (hT.below hW));have HC:=hide (fun W (r:Rt) a n c (hW:Below w.heap.size w W) (hr:BI W a n r.ks)=>zij ab nb cb ss a1 n1 c1 l r a n c o.v o.u m.a3 m.n3 m.c3 o.ts m.a4 m.n4 m.c4 o.sigs W (h0.below hW) (h1.below hW) hr (h3.below hW).tgts (h3.below hW).sigs (hT.below hW));have HD:=hide (fun W (hW:Below w.heap.size w W) (hn:m.n3=m.n5)=>znx ab nb cb ss m.a3 m.n3 m.c3 o.ts m.a5 m.n5 m.c5 o.imgs W (h0.below hW) (h3.below hW).tgts (h3.below hW).imgs hn (hT.below hW));have H2o:=hide h2.old;have L3:=hide h3.tgts.len;have L5:=hide h3.imgs.len;unfold trv rv relv bookv at *;unfold offv;clear h0 h1 h2 h3 hT;unfold bkO trO ofO tzO at hw0 tb;unfold TAns trv at HB;go_enter Tryz.func240,Tryz.ntmps240;go_wp2_with fail;generalize (((w.alloc (.cells #[.slice ab nb cb] 24)).alloc (.cells #[.int .i64 t.r.v,.slice a2 n2 c2,.int .i64 t.r.t,.int .i64 t.ver] 32)).alloc (.cells #[.slice m.a1 m.n1 m.c1,.slice m.a2 m.n2 m.c2,.int .i64 o.v,.int .i64 o.u,.slice m.a3 m.n3 m.c3,.slice m.a4 m.n4 m.c4,.slice m.a5 m.n5 m.c5] 47)).alloc (.cells #[.int .i64 0,.slice none 0 0,.int .i64 0,.int .i64 0] 32)=W at *;refine(zae HA _ hw0).mono ?_;rintro e w1 ⟨rfl,hb⟩;replace tb:=hide (tb.out.below hb);replace hw0:=bT hw0 hb;clear hb HA
  by_cases z1:trE t=0
  rotate_left
  {
  have HE:=hide (takeE_1 (ss:=ss) (l:=l) (o:=o) (now:=now) (units:=units) z1);have ZN:=hide z1;have hq: (trE t !=0)=true:=by simpa using z1
  clear HB HC HD z1;generalize trE t=q at *;have y0:=zaa tb.out.b3 0 _ rfl;have fy0:=zad tb.out.b3 0;have y1:=zaa tb.out.b3 1 _ rfl;have fy1:=zad tb.out.b3 1;have y2:=zaa tb.out.b3 2 _ rfl;have fy2:=zad tb.out.b3 2;have y3:=zaa tb.out.b3 3 _ rfl;have fy3:=zad tb.out.b3 3;go_wp2_with fail;refine bodyPost_ret (v:=.tuple #[.agg #[.int .i64 0,.slice none 0 0,.int .i64 0,.int .i64 0],.int .i64 q]) (by simp [results,Tryz.results240,go_sem,y0,y1,y2,y3]) rfl ?_;exact⟨zbx HE.out ZN.out (za8 _),((((hw0).setCell (by show w.heap.size≤w.heap.size+1+1+1;omega) _).setCell (by show w.heap.size≤w.heap.size+1+1+1;omega) _).setCell (by show w.heap.size≤w.heap.size+1+1+1;omega) _).setCell (by show w.heap.size≤w.heap.size+1+1+1;omega) _⟩
  }
  have Z1:=hide z1;rw [z1];clear z1;have k0:=zaa tb.out.b0 0 _ rfl;have p0:=zaa tb.out.b1 0 _ rfl;have p1:=zaa tb.out.b1 1 _ rfl;have p2:=zaa tb.out.b1 2 _ rfl;have p3:=zaa tb.out.b1 3 _ rfl;have o0:=zaa tb.out.b2 0 _ rfl;have o1:=zaa tb.out.b2 1 _ rfl;have hsz:=zak tb.out.b3;have HE2:=hide (takeE_2 (ss:=ss) (l:=l) (o:=o) (now:=now) (units:=units) Z1.out);have HE3:=hide (takeE_3 (ss:=ss) (l:=l) (o:=o) (now:=now) (units:=units) Z1.out);have HE4:=hide (takeE_4 (ss:=ss) (l:=l) (o:=o) (now:=now) (units:=units) Z1.out);generalize allE ss l t o.roots o.rsigs=A at *;obtain ⟨T,hTT⟩: ∃T,T=turnT A t (lastR t.r o.roots):=⟨_,rfl⟩;rw [←hTT] at HB;replace hTT:=hide hTT;go_wp2_with fail;refine(zae HB _ hw0).mono ?_;rintro e w2 ⟨⟨a5,n5,c5,rfl,hi5,hf5⟩,hb⟩;replace tb:=hide (tb.out.below hb);replace hw0:=bT hw0 hb;have hfar:T.r.ks= []∨∀ad,a5=some ad→ad.block≠w.heap.size+1:=by
    rcases hf5 with ⟨rfl,hr⟩|hf5
    {
    by_cases hA:A=0
    {
    have:T.r.ks=t.r.ks:=by rw [hTT.out,hA,hr];rfl
    rw [this];exact H2o.out.imp id (fun h ad e=>by have:=h ad e;omega)
    }
    {
    left
    rw [hTT.out,zoe hA];rfl
    }
    }
    { exact .inr (fun ad e=>by have:=hf5 ad e;omega) }
  clear hb HB hf5 hsz H2o k0 o0 o1 p0 p1 p2 p3;have y0:=zaa tb.out.b1 0 _ rfl;have fy0:=zad tb.out.b1 0;have y1:=zaa tb.out.b1 1 _ rfl;have fy1:=zad tb.out.b1 1;have y2:=zaa tb.out.b1 2 _ rfl;have fy2:=zad tb.out.b1 2;have y3:=zaa tb.out.b1 3 _ rfl;have fy3:=zad tb.out.b1 3;have hiS:=(((hi5.set2 _ 0 (.int .i64 T.r.v) hfar).set2 _ 1 (.slice a5 n5 c5) hfar).set2 _ 2 (.int .i64 T.r.t) hfar).set2 _ 3 (.int .i64 T.ver) hfar;have hwS:Below w.heap.size w ((((w2.setCell ⟨w.heap.size+1,0,none⟩ (.int .i64 T.r.v)).setCell ⟨w.heap.size+1,1,none⟩ (.slice a5 n5 c5)).setCell ⟨w.heap.size+1,2,none⟩ (.int .i64 T.r.t)).setCell ⟨w.heap.size+1,3,none⟩ (.int .i64 T.ver)):=((((hw0).setCell (by show w.heap.size≤w.heap.size+1;omega) _).setCell (by show w.heap.size≤w.heap.size+1;omega) _).setCell (by show w.heap.size≤w.heap.size+1;omega) _).setCell (by show w.heap.size≤w.heap.size+1;omega) _;have tbS:Hid (TB ((((w2.setCell ⟨w.heap.size+1,0,none⟩ (.int .i64 T.r.v)).setCell ⟨w.heap.size+1,1,none⟩ (.slice a5 n5 c5)).setCell ⟨w.heap.size+1,2,none⟩ (.int .i64 T.r.t)).setCell ⟨w.heap.size+1,3,none⟩ (.int .i64 T.ver)) w.heap.size (bkO ab nb cb) (trO T a5 n5 c5) (ofO o.v o.u m) tzO):=⟨zfo tb.out.b0 (by omega),zjh tb.out.b1,zfo tb.out.b2 (by omega),zfo tb.out.b3 (by omega)⟩;unfold bkO trO ofO tzO at tbS;have hk1:=Nat.le_refl 0;go_upto_region 5 with fail
  generalize (((w2.setCell ⟨w.heap.size+1,0,none⟩ (.int .i64 T.r.v)).setCell ⟨w.heap.size+1,1,none⟩ (.slice a5 n5 c5)).setCell ⟨w.heap.size+1,2,none⟩ (.int .i64 T.r.t)).setCell ⟨w.heap.size+1,3,none⟩ (.int .i64 T.ver)=wS at *;clear tb hw0 hi5 hfar y0 y1 y2 y3 fy0 fy1 fy2 fy3 hk1;have tb:=tbS;have hw0:=hwS;clear tbS hwS
  by_cases z2:A=0
  rotate_left
  {
  have HE:=hide (HE2.out z2);have ZN:=hide z2;have hq: (A !=0)=true:=by simpa using z2
  clear HC HD z2;have y0:=zaa tb.out.b3 0 _ rfl;have fy0:=zad tb.out.b3 0;have y1:=zaa tb.out.b3 1 _ rfl;have fy1:=zad tb.out.b3 1;have y2:=zaa tb.out.b3 2 _ rfl;have fy2:=zad tb.out.b3 2;have y3:=zaa tb.out.b3 3 _ rfl;have fy3:=zad tb.out.b3 3;go_wp2_with fail;refine bodyPost_ret (v:=.tuple #[.agg #[.int .i64 0,.slice none 0 0,.int .i64 0,.int .i64 0],.int .i64 A]) (by simp [results,Tryz.results240,go_sem,y0,y1,y2,y3]) rfl ?_;exact⟨zbx HE.out ZN.out (za8 _),((((hw0).setCell (by show w.heap.size≤w.heap.size+1+1+1;omega) _).setCell (by show w.heap.size≤w.heap.size+1+1+1;omega) _).setCell (by show w.heap.size≤w.heap.size+1+1+1;omega) _).setCell (by show w.heap.size≤w.heap.size+1+1+1;omega) _⟩
  }
  have hT' :T= ⟨lastR t.r o.roots,t.ver⟩:=by rw [hTT.out,z2];rfl
  replace HE3:=hide (HE3.out z2);replace HE4:=hide (HE4.out z2);subst hT';rw [z2];clear z2 hTT HE2;generalize hL:lastR t.r o.roots=L at *;replace hL:=hide hL;have k0:=zaa tb.out.b0 0 _ rfl;have p0:=zaa tb.out.b1 0 _ rfl;have p1:=zaa tb.out.b1 1 _ rfl;have p2:=zaa tb.out.b1 2 _ rfl;have o2:=zaa tb.out.b2 2 _ rfl;have o3:=zaa tb.out.b2 3 _ rfl;have o4:=zaa tb.out.b2 4 _ rfl;have o5:=zaa tb.out.b2 5 _ rfl;go_wp2_with fail;refine(zae HC _ L a5 n5 c5 hw0 hiS).mono ?_;rintro e w3 ⟨rfl,hb⟩;replace tb:=hide (tb.out.below hb);replace hw0:=bT hw0 hb;replace hiS:=hiS.below hb;clear hb HC k0 p0 p1 p2 o2 o3 o4 o5;have HK:=hide (crE_ok (ss:=ss) (l:=l) (r:=L) (v:=o.v) (u:=o.u) (ts:=o.ts) (sigs:=o.sigs));generalize crE ss l L o.v o.u o.ts o.sigs=C at *
  by_cases z3:C=0
  rotate_left
  {
  have HE:=hide (HE3.out z3);have ZN:=hide z3;have hq: (C !=0)=true:=by simpa using z3
  clear HD z3 HK;have y0:=zaa tb.out.b3 0 _ rfl;have fy0:=zad tb.out.b3 0;have y1:=zaa tb.out.b3 1 _ rfl;have fy1:=zad tb.out.b3 1;have y2:=zaa tb.out.b3 2 _ rfl;have fy2:=zad tb.out.b3 2;have y3:=zaa tb.out.b3 3 _ rfl;have fy3:=zad tb.out.b3 3;go_wp2_with fail;refine bodyPost_ret (v:=.tuple #[.agg #[.int .i64 0,.slice none 0 0,.int .i64 0,.int .i64 0],.int .i64 C]) (by simp [results,Tryz.results240,go_sem,y0,y1,y2,y3]) rfl ?_;exact⟨zbx HE.out ZN.out (za8 _),((((hw0).setCell (by show w.heap.size≤w.heap.size+1+1+1;omega) _).setCell (by show w.heap.size≤w.heap.size+1+1+1;omega) _).setCell (by show w.heap.size≤w.heap.size+1+1+1;omega) _).setCell (by show w.heap.size≤w.heap.size+1+1+1;omega) _⟩
  }
  have hn5:n5≤1000:=by
    have h:=(zft (cntE_ok (csE_ok (HK.out z3).2.2).1).2.1).2.1;have:=hiS.len;omega
  replace HE4:=hide (HE4.out z3);rw [z3];clear z3 HK HE3;have p3:=zaa tb.out.b1 3 _ rfl;have o2:=zaa tb.out.b2 2 _ rfl
  by_cases z4:o.v≤t.ver
  {
  have HE:=hide (HE4.out.trans (restE_1 z4));have d4:decide (o.v≤t.ver)=true:=by simpa using z4
  clear z4;have y0:=zaa tb.out.b3 0 _ rfl;have fy0:=zad tb.out.b3 0;have y1:=zaa tb.out.b3 1 _ rfl;have fy1:=zad tb.out.b3 1;have y2:=zaa tb.out.b3 2 _ rfl;have fy2:=zad tb.out.b3 2;have y3:=zaa tb.out.b3 3 _ rfl;have fy3:=zad tb.out.b3 3;go_wp2_with fail;refine bodyPost_ret (v:=.tuple #[.agg #[.int .i64 0,.slice none 0 0,.int .i64 0,.int .i64 0],.int .i64 10]) (by simp [results,Tryz.results240,go_sem,y0,y1,y2,y3]) rfl ?_;exact⟨zbx HE.out (by decide) (za8 _),((((hw0).setCell (by show w.heap.size≤w.heap.size+1+1+1;omega) _).setCell (by show w.heap.size≤w.heap.size+1+1+1;omega) _).setCell (by show w.heap.size≤w.heap.size+1+1+1;omega) _).setCell (by show w.heap.size≤w.heap.size+1+1+1;omega) _⟩
  }
  have d4:decide (o.v≤t.ver)=false:=by simpa using z4
  have Z4:=hide z4;clear z4;have o3:=zaa tb.out.b2 3 _ rfl
  by_cases z5:o.u<now
  {
  have HE:=hide (HE4.out.trans (restE_2 Z4.out z5));have d5:decide (o.u<now)=true:=by simpa using z5
  clear z5;have y0:=zaa tb.out.b3 0 _ rfl;have fy0:=zad tb.out.b3 0;have y1:=zaa tb.out.b3 1 _ rfl;have fy1:=zad tb.out.b3 1;have y2:=zaa tb.out.b3 2 _ rfl;have fy2:=zad tb.out.b3 2;have y3:=zaa tb.out.b3 3 _ rfl;have fy3:=zad tb.out.b3 3;go_wp2_with fail;refine bodyPost_ret (v:=.tuple #[.agg #[.int .i64 0,.slice none 0 0,.int .i64 0,.int .i64 0],.int .i64 11]) (by simp [results,Tryz.results240,go_sem,y0,y1,y2,y3]) rfl ?_;exact⟨zbx HE.out (by decide) (za8 _),((((hw0).setCell (by show w.heap.size≤w.heap.size+1+1+1;omega) _).setCell (by show w.heap.size≤w.heap.size+1+1+1;omega) _).setCell (by show w.heap.size≤w.heap.size+1+1+1;omega) _).setCell (by show w.heap.size≤w.heap.size+1+1+1;omega) _⟩
  }
  have d5:decide (o.u<now)=false:=by simpa using z5
  have Z5:=hide z5;clear z5;have o4:=zaa tb.out.b2 4 _ rfl;have o6:=zaa tb.out.b2 6 _ rfl
  by_cases z6: (m.n3:Int)=units
  rotate_left
  {
  have HE:=hide (HE4.out.trans (restE_3 (by have:=Z4.out;omega) (by have:=Z5.out;omega) (by rw [L3.out];exact z6)));have d6: ((m.n3:Int) !=units)=true:=by simpa using z6
  clear z6;have y0:=zaa tb.out.b3 0 _ rfl;have fy0:=zad tb.out.b3 0;have y1:=zaa tb.out.b3 1 _ rfl;have fy1:=zad tb.out.b3 1;have y2:=zaa tb.out.b3 2 _ rfl;have fy2:=zad tb.out.b3 2;have y3:=zaa tb.out.b3 3 _ rfl;have fy3:=zad tb.out.b3 3;go_wp2_with fail;refine bodyPost_ret (v:=.tuple #[.agg #[.int .i64 0,.slice none 0 0,.int .i64 0,.int .i64 0],.int .i64 4]) (by simp [results,Tryz.results240,go_sem,y0,y1,y2,y3]) rfl ?_;exact⟨zbx HE.out (by decide) (za8 _),((((hw0).setCell (by show w.heap.size≤w.heap.size+1+1+1;omega) _).setCell (by show w.heap.size≤w.heap.size+1+1+1;omega) _).setCell (by show w.heap.size≤w.heap.size+1+1+1;omega) _).setCell (by show w.heap.size≤w.heap.size+1+1+1;omega) _⟩
  }
  have d6: ((m.n3:Int) !=units)=false:=by simpa using z6
  have Z6:=hide z6;clear z6
  by_cases z7: (m.n5:Int)=units
  rotate_left
  {
  have HE:=hide (HE4.out.trans (restE_4 (by have:=Z4.out;omega) (by have:=Z5.out;omega) (by rw [L3.out];exact Z6.out) (by rw [L5.out];exact z7)));have d7: ((m.n5:Int) !=units)=true:=by simpa using z7
  clear z7;have y0:=zaa tb.out.b3 0 _ rfl;have fy0:=zad tb.out.b3 0;have y1:=zaa tb.out.b3 1 _ rfl;have fy1:=zad tb.out.b3 1;have y2:=zaa tb.out.b3 2 _ rfl;have fy2:=zad tb.out.b3 2;have y3:=zaa tb.out.b3 3 _ rfl;have fy3:=zad tb.out.b3 3;go_wp2_with fail;refine bodyPost_ret (v:=.tuple #[.agg #[.int .i64 0,.slice none 0 0,.int .i64 0,.int .i64 0],.int .i64 4]) (by simp [results,Tryz.results240,go_sem,y0,y1,y2,y3]) rfl ?_;exact⟨zbx HE.out (by decide) (za8 _),((((hw0).setCell (by show w.heap.size≤w.heap.size+1+1+1;omega) _).setCell (by show w.heap.size≤w.heap.size+1+1+1;omega) _).setCell (by show w.heap.size≤w.heap.size+1+1+1;omega) _).setCell (by show w.heap.size≤w.heap.size+1+1+1;omega) _⟩
  }
  have d7: ((m.n5:Int) !=units)=false:=by simpa using z7
  have Z7:=hide z7;clear z7;have k0:=zaa tb.out.b0 0 _ rfl;go_wp2_with fail;refine(zae HD _ hw0 (by have:=Z6.out;have:=Z7.out;omega)).mono ?_;rintro e w4 ⟨rfl,hb⟩;replace tb:=hide (tb.out.below hb);replace hw0:=bT hw0 hb;replace hiS:=hiS.below hb;clear hb HD k0 p3 o2 o3 o4 o6;cases z8:zb2 ss o.ts o.imgs
  {
  have HE:=hide (HE4.out.trans (restE_5 (by have:=Z4.out;omega) (by have:=Z5.out;omega) (by rw [L3.out];exact Z6.out) (by rw [L5.out];exact Z7.out) z8));clear z8;have y0:=zaa tb.out.b3 0 _ rfl;have fy0:=zad tb.out.b3 0;have y1:=zaa tb.out.b3 1 _ rfl;have fy1:=zad tb.out.b3 1;have y2:=zaa tb.out.b3 2 _ rfl;have fy2:=zad tb.out.b3 2;have y3:=zaa tb.out.b3 3 _ rfl;have fy3:=zad tb.out.b3 3;go_wp2_with fail;refine bodyPost_ret (v:=.tuple #[.agg #[.int .i64 0,.slice none 0 0,.int .i64 0,.int .i64 0],.int .i64 5]) (by simp [results,Tryz.results240,go_sem,y0,y1,y2,y3]) rfl ?_;exact⟨zbx HE.out (by decide) (za8 _),((((hw0).setCell (by show w.heap.size≤w.heap.size+1+1+1;omega) _).setCell (by show w.heap.size≤w.heap.size+1+1+1;omega) _).setCell (by show w.heap.size≤w.heap.size+1+1+1;omega) _).setCell (by show w.heap.size≤w.heap.size+1+1+1;omega) _⟩
  }
  have HE:=hide (HE4.out.trans (restE_0 (by have:=Z4.out;omega) (by have:=Z5.out;omega) (by rw [L3.out];exact Z6.out) (by rw [L5.out];exact Z7.out) z8));clear z8 HE4;have p0:=zaa tb.out.b1 0 _ rfl;have p1:=zaa tb.out.b1 1 _ rfl;have p2:=zaa tb.out.b1 2 _ rfl;have o2:=zaa tb.out.b2 2 _ rfl;have hsz:=zak tb.out.b3;have HT:=hide (zh7 L a5 n5 c5 o.v w4 hiS hn5);unfold rv trv at HT;go_wp2_with fail;refine(zae HT).mono ?_;rintro e w5 ⟨rfl,hbi,hb⟩;replace tb:=hide (tb.out.below hb);have hwE:=bT hw0 hb;clear hb HT p0 p1 p2 o2;have y0:=zaa tb.out.b3 0 _ rfl;have fy0:=zad tb.out.b3 0;have y1:=zaa tb.out.b3 1 _ rfl;have fy1:=zad tb.out.b3 1;have y2:=zaa tb.out.b3 2 _ rfl;have fy2:=zad tb.out.b3 2;have y3:=zaa tb.out.b3 3 _ rfl;have fy3:=zad tb.out.b3 3;go_wp2_with fail;refine bodyPost_ret (v:=.tuple #[.agg #[.int .i64 L.v,.slice (some ⟨w4.heap.size+2,0,none⟩) n5 n5,.int .i64 L.t,.int .i64 o.v],.int .i64 0]) (by simp [results,Tryz.results240,go_sem,y0,y1,y2,y3]) rfl ?_;rw [HE.out,show takeT 0 t o= ⟨L,o.v⟩ by rw [←hL.out];rfl];refine⟨⟨some ⟨w4.heap.size+2,0,none⟩,n5,n5,rfl, ?_,fun ad e=>by cases e;exact Nat.le_trans hw0.size (by simp)⟩,((((hwE).setCell (by show w.heap.size≤w.heap.size+1+1+1;omega) _).setCell (by show w.heap.size≤w.heap.size+1+1+1;omega) _).setCell (by show w.heap.size≤w.heap.size+1+1+1;omega) _).setCell (by show w.heap.size≤w.heap.size+1+1+1;omega) _⟩;exact(((hbi.set _ 0 _ (by omega)).set _ 1 _ (by omega)).set _ 2 _ (by omega)).set _ 3 _ (by omega)
abbrev aO (m:OA) (o:Of):Array Value:=#[.slice m.a1 m.n1 m.c1,.slice m.a2 m.n2 m.c2,.int .i64 o.v,.int .i64 o.u,.slice m.a3 m.n3 m.c3,.slice m.a4 m.n4 m.c4,.slice m.a5 m.n5 m.c5]
end
section
open Go.RowKit
theorem zsh (h:takeE ss l t o now units=0):
    trE t=0∧allE ss l t o.roots o.rsigs=0∧crE ss l (lastR t.r o.roots) o.v o.u o.ts o.sigs=0∧restE ss t.ver o now units=0:=by
  unfold takeE at h
  split at h
  {
  rename_i h1
  split at h
  {
  rename_i h2
  split at h
  {
  rename_i h3
  exact⟨h1,h2,h3,h⟩
  }
  {
  rename_i h3
  exact absurd h h3
  }
  }
  {
  rename_i h2
  exact absurd h h2
  }
  }
  {
  rename_i h1
  exact absurd h h1
  }
theorem zty (h:restE ss ver o now units=0):
    ver<o.v∧now≤o.u∧(o.ts.length:Int)=units∧(o.imgs.length:Int)=units∧zb2 ss o.ts o.imgs=true:=by
  unfold restE at h
  split at h
  { cases h }
  rename_i h1
  split at h
  { cases h }
  rename_i h2
  split at h
  { cases h }
  rename_i h3
  split at h
  { cases h }
  rename_i h4
  split at h
  {
  rename_i h5
  exact⟨by omega,by omega,by simpa using h3,by simpa using h4,h5⟩
  }
  {
  cases h
  }
theorem last_ok (h:takeE ss l t o now units=0) (hv:0≤ver∧ver≤1000):trE ⟨lastR t.r o.roots,ver⟩=0:=by
  have h3:=(crE_ok (zsh h).2.2.1).2.2;have h4:=(cntE_ok (csE_ok h3).1).2.1;rw [zkd (inR_t hv.1 hv.2)];exact h4
end
end Go.Proofs.YthmekfcgdfckaaaGreatDoor
