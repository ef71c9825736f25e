/- The contract of flash.change: as many words are changed as there is power for. -/
import Derived.Test.YthmekfcgdfckaaaGreatDoorWn0
import Derived.Deep.DrawnRows
set_option maxRecDepth 1000000
set_option maxHeartbeats 0
namespace Go.Proofs.YthmekfcgdfckaaaGreatDoor
variable {fuel:Int} {n k g:Nat} {w:World}
section
open Go.RowKit
attribute [local go_sem ↓] Go.wp_at_zero Go.wp_at_succ
def cnt (fuel:Int) (n:Nat):Nat:=if fuel<0 then n else min n fuel.toNat
def burn (fuel:Int) (k:Nat):Int:=if fuel<0 then fuel else fuel - k
def chg (nx:Nat→Int→Int) (p:Nat):Nat→List Int→List Int
  |0,ws=>ws
  |k+1,ws=>(chg nx p k ws).set (p+k) (nx k (ws.getD (p+k) 0))
theorem zbw (nx:Nat→Int→Int) (p k:Nat) (ws:List Int): (chg nx p k ws).length=ws.length:=by
  induction k with
  |zero=>rfl
  |succ k ih=>simp [chg,ih]
theorem zrq (nx:Nat→Int→Int) (p k j:Nat) (ws:List Int) (hj:j<ws.length): (chg nx p k ws).getD j 0=if p≤j∧j<p+k then nx (j - p) (ws.getD j 0) else ws.getD j 0:=by
  induction k with
  |zero=>simp [chg];omega
  |succ k ih=>
    simp only [chg]
    by_cases h:p+k=j
    {
    subst h;rw [if_pos ⟨by omega,by omega⟩];have:p+k< (chg nx p k ws).length:=by rw [zbw];exact hj
    simp [this]
    }
    {
    have e: ((chg nx p k ws).set (p+k) (nx k (ws.getD (p+k) 0))).getD j 0= (chg nx p k ws).getD j 0:=by simp [h]
    rw [e,ih]
    by_cases c:p≤j∧j<p+k
    { rw [if_pos c,if_pos ⟨c.1,by omega⟩] }
    {
    rw [if_neg c,if_neg (by omega)]
    }
    }
theorem zjd (nx:Nat→Int→Int) (p k:Nat) (ws:List Int) (hj:p+k<ws.length): (chg nx p k ws).getD (p+k) 0=ws.getD (p+k) 0:=by
  rw [zrq _ _ _ _ _ hj,if_neg (by omega)]
def perr (fuel:Int) (n:Nat):Int:=if cnt fuel n=n then 0 else 7
theorem zr7 (fuel:Int) (n:Nat):cnt fuel n≤n:=by unfold cnt;split<;>omega
theorem cnt_end (h:n≤cnt fuel n):cnt fuel n=n:=Nat.le_antisymm (zr7 _ _) h
theorem zsx (h:cnt fuel n=n):perr fuel n=0:=by unfold perr;rw [if_pos h]
theorem zst (h:cnt fuel n<n):perr fuel n=7:=by unfold perr;rw [if_neg (by omega)]
theorem zsy (n:Nat) (h:fuel<0):cnt fuel n=n:=by unfold cnt;rw [if_pos h]
theorem zks (n:Nat) (h: ¬fuel<0):cnt fuel n=min n fuel.toNat:=by unfold cnt;rw [if_neg h]
theorem zeo (k:Nat) (h:fuel<0):burn fuel k=fuel:=by unfold burn;rw [if_pos h]
theorem ze4 (k:Nat) (h: ¬fuel<0):burn fuel k=fuel - k:=by unfold burn;rw [if_neg h]
theorem cnt_stop (_hk:k<n) (h:k≤cnt fuel n) (hz:burn fuel k=0):cnt fuel n=k:=by
  by_cases hf:fuel<0
  { rw [zeo _ hf] at hz;omega }
  { rw [ze4 _ hf] at hz;rw [zks _ hf] at *;omega }
theorem cnt_go (hk:k<n) (h:k≤cnt fuel n) (hz:burn fuel k≠0):k+1≤cnt fuel n:=by
  by_cases hf:fuel<0
  { rw [zsy _ hf];omega }
  { rw [ze4 _ hf] at hz;rw [zks _ hf] at *;omega }
theorem burn_neg (h0:k≤cnt fuel n) (h:burn fuel k<0):burn fuel (k+1)=burn fuel k:=by
  by_cases hf:fuel<0
  { rw [zeo _ hf,zeo _ hf] }
  { rw [ze4 _ hf] at h;rw [zks _ hf] at h0;omega }
theorem burn_pos (h:0<burn fuel k):burn fuel (k+1)=burn fuel k - 1:=by
  by_cases hf:fuel<0
  { rw [zeo _ hf] at h;omega }
  { rw [ze4 _ hf,ze4 _ hf];omega }
theorem zpr (h0: -1≤fuel) (h1:fuel≤100000) (h:k≤cnt fuel n): -1≤burn fuel k∧burn fuel k≤100000:=by
  by_cases hf:fuel<0
  { rw [zeo _ hf];omega }
  {
  rw [ze4 _ hf];rw [zks _ hf] at h;omega
  }
def Box (w:World) (bo g L:Nat) (fuel:Int):Prop:=w.heap[bo]?=some (.cells #[.slice (some ⟨g,0,none⟩) L L,.int .i64 fuel] 28 (0,0))
theorem Box.cell0 {bo L:Nat} (h:Box w bo g L fuel):w.cell? ⟨bo,0,none⟩=some (.slice (some ⟨g,0,none⟩) L L):=by
  unfold Box at h;simp [World.cell?,h]
theorem Box.cell1 {bo L:Nat} (h:Box w bo g L fuel):w.cell? ⟨bo,1,none⟩=some (.int .i64 fuel):=by
  unfold Box at h;simp [World.cell?,h]
theorem Box.free {bo L:Nat} (h:Box w bo g L fuel) (i:Nat):w.frozen? ⟨bo,i,none⟩=false:=by
  unfold Box at h;simp [World.frozen?,h]
theorem Box.set {bo L:Nat} (h:Box w bo g L fuel) (f:Int):Box (w.setCell ⟨bo,1,none⟩ (.int .i64 f)) bo g L f:=by
  unfold Box at h⊢;simp only [World.setCell,Array.getElem?_modify]
  simp [h]
theorem Box.other {bo L:Nat} (h:Box w bo g L fuel) (b i:Nat) (v:Value) (hb:bo≠b):Box (w.setCell ⟨b,i,none⟩ v) bo g L fuel:=by
  unfold Box at h⊢;rw [Below.heap_setCell _ _ _ _ hb];exact h
theorem zat.other {xs:List Int} (h:zat w g xs) (b i:Nat) (v:Value) (hb:g≠b):zat (w.setCell ⟨b,i,none⟩ v) g xs:=by
  unfold zat at h⊢;rw [Below.heap_setCell _ _ _ _ hb];exact h
theorem zkq (gf:Nat) (caps:Array Value) (nx:Nat→Int→Int) (B bo g L p n:Nat) (fuel:Int) (ws:List Int) (w:World)
    (hgf: (gf=282∧caps=#[])∨(gf=284∧∃a,caps=#[.pointer (some a)]))
    (hbox:Box w bo g L fuel) (hown:zat w g ws) (hL:ws.length=L) (hmax:L≤192) (hfit:p+n≤L) (hne:bo≠g) (hB1:B≤bo) (hB2:B≤g) (hf0: -1≤fuel) (hf1:fuel≤100000)
    (hnx: ∀(i:Nat) (old:Int) (w1:World),i<n→Below B w w1→Calls Tryz.prog gf (#[.int .i64 i,.int .i64 old]++caps) w1 fun e w' =>e=.returned (.int .i64 (nx i old))∧w' =w1):
    Calls Tryz.prog 281 #[.pointer (some ⟨bo,0,none⟩),.int .i64 p,.int .i64 n,.func (.func gf) #[] caps] w fun e w' =>
      e=.returned (.int .i64 (perr fuel n))∧Box w' bo g L (burn fuel (cnt fuel n))∧zat w' g (chg nx p (cnt fuel n) ws)∧Below B w w' :=by
  have HL:=hide hL;clear hL;have HX:=hide hnx;clear hnx;have hne' : ¬g=bo:=fun e=>hne e.symm
  rcases hgf with ⟨rfl,rfl⟩| ⟨rfl,a,rfl⟩
  all_goals
    go_enter Tryz.func281,Tryz.ntmps281;go_wp2
    go_loopw [11] (fun i wr=>∃k:Nat,k≤n∧k≤cnt fuel n∧i=.int .i64 k∧Box wr bo g L (burn fuel k)∧zat wr g (chg nx p k ws)∧Below B w wr) (fun i _=>n - (intOf i).toNat)
    case atStart=>exact⟨0,Nat.zero_le _,Nat.zero_le _,rfl,by simpa [burn] using hbox,hown,Below.refl _ _⟩
    case round=>
      obtain ⟨k,hk,hkc,rfl,hbx,how,hbe⟩:=hrel
      by_cases hlt:k<n
      {
      have c0:=hbx.cell0;have c1:=hbx.cell1;have f1:=hbx.free 1;have bb:=zpr hf0 hf1 hkc
      by_cases hz:burn fuel k=0
      {
      rw [hz] at c1;have HZ:=hide hz;clear hz;go_wp2;go_ret;have e:=cnt_stop hlt hkc HZ.out;refine⟨zao (zst (by omega)).symm, ?_, ?_,hbe⟩
      { rw [e];exact hbx }
      { rw [e];exact how }
      }
      {
      have hgo:=cnt_go hlt hkc hz;have hpk:p+k< (chg nx p k ws).length:=by rw [zbw,HL.out];omega
      have cw:=how.cell (p+k) hpk;have fw:=how.free (p+k);rw [zjd nx p k ws (by rw [HL.out];omega)] at cw;have i1: (0:Int)≤(p:Int)+(k:Int):=by omega
      have i2: (p:Int)+(k:Int)< (L:Int):=by omega
      have i3:IntKind.i64.wrap ((p:Int)+(k:Int))= (p:Int)+(k:Int):=by rw [IntKind.wrap_i64];omega
      have i4: ((p:Int)+(k:Int)).toNat=p+k:=by omega
      have HB:=hide (⟨fun h=>burn_neg hkc h,fun h=>burn_pos h⟩: (burn fuel k<0→burn fuel (k+1)=burn fuel k)∧(0<burn fuel k→burn fuel (k+1)=burn fuel k - 1));obtain ⟨f,hf⟩: ∃f,f=burn fuel k:=⟨_,rfl⟩;rw [←hf] at c1 hz bb;have HF:=hide hf;clear hf cw fw
      by_cases hpos:0<f
      {
      have hb1: (f==0)=false:=by simp;omega
      have hbx2:=hbx.set (f - 1);have how2:=how.other bo 1 (.int .i64 (f - 1)) hne';have hbe2:=hbe.setCell (p:=⟨bo,1,none⟩) hB1 (.int .i64 (f - 1));clear hbe how hbx;go_wp2;have hF2:Hid (f - 1=burn fuel (k+1)):=by have:=HB.out.2 (by have:=HF.out;omega);show _=_;rw [this,←HF.out]
      generalize wr.setCell ⟨bo,1,none⟩ (.int .i64 (f - 1))=w2 at *;have d0:=hbx2.cell0;have d1:=how2.cell (p+k) hpk;have d2:=how2.free (p+k);rw [zjd nx p k ws (by rw [HL.out];omega)] at d1;obtain ⟨old,hold⟩: ∃old,old=ws.getD (p+k) 0:=⟨_,rfl⟩;rw [←hold] at d1;have HO:=hide hold;clear hold;clear c1 c0
      go_region_with ((first|go_at_call 282|go_at_call 284);refine(zae HX k old _ hlt ?_).mono ?_;exact hbe2.drew;rintro e w1 ⟨rfl,rfl⟩)
      all_goals
        go_wp2
        go_roundw
        case rel=>
          refine⟨k+1,by omega,hgo,by go_num, ?_, ?_,(hbe2.setCell (p:=⟨g,p+k,none⟩) hB2 _).drew⟩
          { rw [←hF2.out];exact hbx2.other g (p+k) _ hne }
          {
          show zat _ g ((chg nx p k ws).set (p+k) (nx k (ws.getD (p+k) 0)))
          rw [←HO.out];exact how2.set (p+k) (nx k old)
          }
        case measure=>simp [intOf];omega
      }
      {
      have hb1: (f==0)=false:=by simp;omega
      have hb2:decide (0<f)=false:=by simp;omega
      have hbx2:=hbx;rw [←HF.out] at hbx2;have how2:=how;have hbe2:=hbe;clear hbe how hbx;go_wp2;have hF2:Hid (f=burn fuel (k+1)):=by have:=HB.out.1 (by have:=HF.out;omega);show _=_;rw [this,←HF.out]
      have d0:=hbx2.cell0;have d1:=how2.cell (p+k) hpk;have d2:=how2.free (p+k);rw [zjd nx p k ws (by rw [HL.out];omega)] at d1;obtain ⟨old,hold⟩: ∃old,old=ws.getD (p+k) 0:=⟨_,rfl⟩;rw [←hold] at d1;have HO:=hide hold;clear hold;clear c1 c0
      go_region_with ((first|go_at_call 282|go_at_call 284);refine(zae HX k old _ hlt ?_).mono ?_;exact hbe2.drew;rintro e w1 ⟨rfl,rfl⟩)
      all_goals
        go_wp2
        go_roundw
        case rel=>
          refine⟨k+1,by omega,hgo,by go_num, ?_, ?_,(hbe2.setCell (p:=⟨g,p+k,none⟩) hB2 _).drew⟩
          { rw [←hF2.out];exact hbx2.other g (p+k) _ hne }
          {
          show zat _ g ((chg nx p k ws).set (p+k) (nx k (ws.getD (p+k) 0)))
          rw [←HO.out];exact how2.set (p+k) (nx k old)
          }
        case measure=>simp [intOf];omega
      }
      }
      }
      {
      go_wp2;go_ret;have e:=cnt_end (show n≤cnt fuel n by omega);obtain rfl:k=n:=by omega
      refine⟨zao (zsx e).symm, ?_, ?_,hbe⟩
      { rw [e];exact hbx }
      {
      rw [e];exact how
      }
      }
end
end Go.Proofs.YthmekfcgdfckaaaGreatDoor
