/- The contract of the statements' 'offered'. -/
import Derived.Test.YthmekfcgdfckaaaGreatDoorWt39
import Derived.Test.YthmekfcgdfckaaaGreatDoorWt2
import Derived.Deep.DeepCutAuto
set_option maxRecDepth 1000000
set_option maxHeartbeats 0
namespace Go.Proofs.YthmekfcgdfckaaaGreatDoor
section
open Go.RowKit
attribute [local go_sem ↓] Go.wp_at_zero Go.wp_at_succ exH_ld exH_st exH_al exO_ld
attribute [local go_sem] zuu zup rdF_H wrF_H zur zgj zli World.setRow_alloc_new
theorem rdF_10 {P:Program} {w:World} {t u:TypeId} {b:Nat} {fr:Nat×Nat} (v0 v1 v2 v3 v4 v5 v6 v7 v8 v9:Value):rdF P w t 10 b (some (.cells #[v0,v1,v2,v3,v4,v5,v6,v7,v8,v9] u fr))=.ok (.agg #[v0,v1,v2,v3,v4,v5,v6,v7,v8,v9]) w:=zub rfl
attribute [local go_sem] rdF_10
def offX (os:List Of) (x:Hp):Hp:=if x.k=1 then⟨x.k,x.u,x.j,os.getD (x.j % 3).toNat of9⟩ else x
def offL (os:List Of) (l:List Hp):List Hp:=(l.take 160).map (offX os)
structure SJ (W w:World) (l:List Hp) (v:Value) (wr:World):Prop where
  bel:Below w.heap.size w wr
  row: ∃vs,wr.ownsRow w.heap.size 49 10 v l.length vs∧Vs (HR W (fun _=>False)) l vs
theorem SJ.keep {W w wr w' :World} {l:List Hp} {v:Value} (h:SJ W w l v wr) (hb:Below wr.heap.size wr w'):SJ W w l v w' :=by
  obtain ⟨vs,h1,h2⟩:=h.row;exact⟨h.bel.trans (hb.mono h.bel.size),vs,zba h1 hb,h2⟩
theorem SJ.app {W w wr w4:World} {l l2:List Hp} {v v' :Value} {cs:List Value} (h:SJ W w l v wr) (hc:Chg (fun b=>v.ownBlock=some b) wr w4) (hv:Vs (HR W (fun _=>False)) l2 cs)
    (ho: ∀vs,wr.ownsRow w.heap.size 49 10 v l.length vs→w4.ownsRow w.heap.size 49 10 v' (l.length+l2.length) (vs++cs)):SJ W w (l++l2) v' w4:=by
  obtain ⟨vs,h1,h2⟩:=h.row;refine⟨h.bel.trans (hc.below (fun b e=>(h1.lt b e).1) h.bel.size),_,by simpa using ho vs h1,h2.app hv⟩
def OffAns (W w:World) (os:List Of) (l:List Hp) (e:Ending) (w' :World):Prop:=∃a n c,e=.returned (.slice a n c)∧(offL os l).length=n∧SJ W w (offL os l) (.slice a n c) w'
theorem zvv (l:List Hp) (a:Option Addr) (n c:Nat) (os:List Of) (K:Nat→Prop) (oa:Option Addr) (oc:Nat) (W0 w:World) (h:RIn HR W0 (fun _=>False) a n c l) (ho:RIn OR W0 K oa 3 oc os) (hw0:Below W0.heap.size W0 w) (hB: ∀x∈l,-9223372036854775808≤x.j∧x.j≤9223372036854775807):
    Calls Tryz.prog 24 #[.slice a n c,.slice oa 3 oc] w (OffAns W0 w os l):=by
  have hcap:=h.cap;have hoc:=ho.cap;have HH:=hide h;have HO:=hide ho;have HB:=hide hB;have HW0:=hide hw0;clear h ho hB hw0;go_enter Tryz.func24,Tryz.ntmps24;go_upto_region 2 with fail
  go_cut [12,13,14] (fun x y i wc=>∃q:Nat,x=.slice a q c∧y=.int .i64 q∧i=.int .i64 0∧wc=w∧Hid (q=min n 160))
  case first=>
    by_cases hn:n≤160
    {
    have h1: (n:Int)≤160:=by omega
    have h2: ¬(160:Int)<n:=by omega
    go_wp2_with fail
    go_meet
    case rel=>exact⟨(min (n:Int) 160).toNat,rfl,congrArg (Value.int .i64) (by omega),rfl,rfl,by show _=_;omega⟩
    }
    {
    have h1: ¬(n:Int)≤160:=by omega
    have h2: (160:Int)<n:=by omega
    have h3:160≤c:=by omega
    go_wp2_with fail
    go_meet
    case rel=>exact⟨(min (n:Int) 160).toNat,rfl,congrArg (Value.int .i64) (by omega),rfl,rfl,by show _=_;omega⟩
    }
  case rest=>
    obtain ⟨q,rfl,rfl,rfl,hwc,HQ⟩:=hcut;replace hwc:=hwc.symm;subst hwc;have HN:=hide HH.out.len;obtain ⟨vs,r1,r2,-⟩:=HH.out.row;have R1:=hide r1;have R2:=hide r2;obtain ⟨vo,p1,p2,-⟩:=HO.out.row;have P1:=hide p1;have P2:=hide p2;have HOl:=hide HO.out.len;have hqn:q≤n∧q≤160:=by have:=HQ.out;omega
    obtain ⟨iH,hiH,hz0,hz1,hz2⟩:=info_parts infoHap;clear r1 r2 p1 p2 HH HO;go_wp2_with fail
    go_loopw [5,14] (fun v i wq=>∃k:Nat,k≤q∧i=.int .i64 k∧Hid (SJ W0 w ((l.take k).map (offX os)) v wq)) (fun _ i _=>q - (intOf i).toNat)
    case atStart=>exact⟨0,by omega,rfl,⟨Below.refl _ _, [],World.ownsRow_nil _ _ _ _,rfl⟩⟩
    case round=>
      obtain ⟨wq,rfl⟩: ∃wq:World,wq=wr:=⟨_,rfl⟩;obtain ⟨k,hk,rfl,hI⟩:=hrel;obtain ⟨vz,hvs,-⟩:=hI.out.row;obtain ⟨aa,ca,rfl⟩:=zbk hvs;have hll: ((l.take k).map (offX os)).length=k:=by rw [List.length_map,List.length_take,HN.out];omega
      by_cases hkq:k<q
      {
      have hkI: (k:Int)< (q:Int):=by omega
      have hul:k<l.length:=by rw [HN.out];omega
      have hB0:=hI.out.bel;have hB:=HW0.out.trans (hB0.mono HW0.out.size);obtain ⟨b,off,mo,rfl,q0,qc⟩:=zuh R1.out R2.out (List.getElem?_eq_getElem hul);have HX:Hid ((l.take (k+1)).map (offX os)= (l.take k).map (offX os)++ [offX os l[k]]):=by show _=_;rw [List.take_succ_eq_append_getElem hul,List.map_append];rfl
      have hxb:=HB.out l[k] (List.getElem_mem hul);generalize l[k]=x at *;have y0:=zuq wq b (off+k * 10) x mo (fun j u hu=>(hB.cell (zah (qc j u hu))).trans (qc j u hu));have hxo:BO W0 mo x.o:=q0;have HXO:=hide hxo;have hbW:Below wq.heap.size wq (wq.alloc (.cells (hpC x mo) 49)):=bA1;have hbx:=heap_alloc_last wq (.cells (hpC x mo) 49);generalize (l.take k).map (offX os)=lk at *;have HI:=hI;have HLL:=hide hll;have HKQ:=hide hkq;clear q0 qc hul hI hvs hk hkq hxo hll;go_upto_region 5 with fail
      generalize wq.alloc (.cells (hpC x mo) 49)=W at *;have c0:=zaa hbx 0 (.int .i64 x.k) rfl
      go_cut [25] (fun z wc=>z=.bool (decide (x.k=1))∧wc=W)
      case first=>
        by_cases hk1:x.k=1
        {
        have hne: (x.k==1)=true:=by simpa using hk1
        have HD:Hid (decide (x.k=1)=true):=by show _=_;simpa using hk1
        clear hk1;go_wp2_with fail
        go_meet
        case rel=>exact⟨by rw [HD.out],rfl⟩
        }
        {
        have hne: (x.k==1)=false:=by simpa using hk1
        have HD:Hid (decide (x.k=1)=false):=by show _=_;simpa using hk1
        clear hk1;go_wp2_with fail
        go_meet
        case rel=>exact⟨by rw [HD.out],rfl⟩
        }
      case rest=>
        obtain ⟨rfl,hwc⟩:=hcut;replace hwc:=hwc.symm;subst hwc
        go_upto_if 25 with fail
        go_cut [] (fun wc=>∃mo' :OA,Hid (BO W0 mo' (offX os x).o)∧Hid (wc.heap[wq.heap.size]?=some (.cells (hpC (offX os x) mo') 49 (0,0)))∧Hid (Below wq.heap.size wq wc))
        case first=>
          by_cases hk1:x.k=1
          {
          have hd:decide (x.k=1)=true:=by simpa using hk1
          rw [hd];clear hd;have HK1:=hide hk1;have c2:=zaa hbx 2 (.int .i64 x.j) rfl;have HAt:=hide (fun W' =>at_any x.j 3 W' (by decide) (by decide) hxb);obtain ⟨i,hi⟩: ∃i:Nat,(i:Int)=x.j % 3:=⟨(x.j % 3).toNat,Int.toNat_of_nonneg (Int.emod_nonneg _ (by decide))⟩;have hi3: (i:Int)<3:=by rw [hi];exact Int.emod_lt_of_pos _ (by decide)
          have hin:i<os.length:=by rw [HOl.out];omega
          obtain ⟨bo,oo,mo',rfl,hbo,hco⟩:=zme P1.out P2.out (List.getElem?_eq_getElem hin);have HOX:Hid ((offX os x).o=os[i]∧offX os x= ⟨x.k,x.u,x.j,os[i]⟩):=by
            have: (x.j % 3).toNat=i:=by omega
            unfold offX;rw [if_pos hk1,this,List.getD_eq_getElem?_getD,List.getElem?_eq_getElem hin];exact⟨rfl,rfl⟩
          have HBO:=hide hbo;generalize os[i]=o at *;have HRd:=hide (fun W' (hW' :Below W0.heap.size W0 W')=>rdO_at hco hW');clear hk1 hbo hco;have HW2:=hide ((bT hB hbW));have y1:=HRd.out _ HW2.out;have d3:=zaa hbx 3 _ rfl;have d4:=zaa hbx 4 _ rfl;have d5:=zaa hbx 5 _ rfl;have d6:=zaa hbx 6 _ rfl;have d7:=zaa hbx 7 _ rfl;have d8:=zaa hbx 8 _ rfl;have d9:=zaa hbx 9 _ rfl;have f3:=zad hbx 3;have f4:=zad hbx 4;have f5:=zad hbx 5;have f6:=zad hbx 6;have f7:=zad hbx 7;have f8:=zad hbx 8;have f9:=zad hbx 9;have HBX:=hide hbx;have HBW:=hide hbW;clear hbx hbW hin
          go_wp2_with fail;refine(zae HAt _).mono ?_;rintro e w7 ⟨rfl,h7⟩;replace h7:=h7.symm;subst h7;rw [←hi];clear hi HAt;go_wp2_with fail
          go_meet
          case rel=>
            refine⟨mo',by rw [HOX.out.1];exact HBO, ?_, ?_⟩
            {
            rw [HOX.out.2];exact zie (zie (zie (zie (zie (zie (zie HBX.out))))))
            }
            { exact HBW.out.trans ((((((((Chg.refl (fun b=>b=wq.heap.size) W).set (p:=⟨wq.heap.size,3,none⟩) rfl _).set (p:=⟨wq.heap.size,4,none⟩) rfl _).set (p:=⟨wq.heap.size,5,none⟩) rfl _).set (p:=⟨wq.heap.size,6,none⟩) rfl _).set (p:=⟨wq.heap.size,7,none⟩) rfl _).set (p:=⟨wq.heap.size,8,none⟩) rfl _).set (p:=⟨wq.heap.size,9,none⟩) rfl _|>.below (fun b e=>Nat.le_of_eq e.symm) HBW.out.size) }
          }
          {
          have hd:decide (x.k=1)=false:=by simpa using hk1
          rw [hd];have HF:Hid (BO W0 mo (offX os x).o)∧Hid (W.heap[wq.heap.size]?=some (.cells (hpC (offX os x) mo) 49 (0,0)))∧Hid (Below wq.heap.size wq W):=by
            unfold offX;rw [if_neg hk1];exact⟨HXO,hbx,hbW⟩
          clear hk1 hbx hbW hd;go_wp2_with fail
          go_meet
          case rel=>exact⟨mo,HF⟩
          }
        case rest=>
          obtain ⟨w8,rfl⟩: ∃w8:World,w8=wc:=⟨_,rfl⟩;obtain ⟨mo',H1,H2,H3⟩:=hcut;have hS:=HI.out.keep H3.out;obtain ⟨vy,hvy,-⟩:=hS.row;obtain ⟨g,cap,w4,hr,hown,hc,-⟩:=zed (P:=Tryz.prog) w8 61 49 w.heap.size iH _ 10 160 Tryz.underlying61 hiH hz0 hz1 hz2 rfl (by omega) (by omega) _ _ vy hvy (hpC (offX os x) mo') rfl (by simp [hpC,Value.oneCell']) (by rw [HLL.out];omega) hS.bel.size;have HI2:Hid (SJ W0 w (lk++ [offX os x]) (.slice (some ⟨g,0,none⟩) (lk.length+1) cap) w4):=by
            refine hS.app (l2:= [offX os x]) (cs:=(hpC (offX os x) mo').toList) hc ⟨(hpC (offX os x) mo').toList, [],by simp,⟨mo',rfl,H1⟩,rfl⟩ (fun us hus=> ?_);obtain rfl:=zfg hus hvy;exact hown
          have bx:bk w8 wq.heap.size=some (.cells (hpC (offX os x) mo') 49 (0,0)):=H2;have HR:=hide hr;generalize offX os x=y at *;unfold hpC at bx HR;clear hr hown hc hvy hS hbx hbW c0 HI y0
          go_wp2_with (at_builtin;refine Lib.wpList_append_run _ rfl _ _ 61 61 rfl _ _ rfl rfl _ _ HR.out ?_)
          go_roundw
          case rel=>exact⟨k+1,HKQ.out,by go_num,by show SJ _ _ _ _ _;rw [HX.out];exact HI2⟩
          case measure=>have:=HKQ.out;simp [intOf];omega
      }
      {
      have hkk:k=q:=by omega
      subst hkk;have HA:Hid (OffAns W0 w os l (.returned (.slice aa ((l.take k).map (offX os)).length ca)) wq):=by
        have e:offL os l= (l.take k).map (offX os):=by
          unfold offL;have:=HQ.out
          by_cases h:n≤160
          { rw [show k=n by omega,List.take_of_length_le (by rw [HN.out];omega),List.take_of_length_le (by rw [HN.out];omega)] }
          { rw [show k=160 by omega] }
        refine⟨_,_,_,rfl,by rw [e], ?_⟩;rw [e];exact hI.out
      clear hI hvs hk hkq hll;go_wp2_with fail;go_ret;exact HA
      }
end
end Go.Proofs.YthmekfcgdfckaaaGreatDoor
