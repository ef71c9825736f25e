/- The statement VehicleNetCardSaid: a message that is sent is the last on its way; lost or taken, the others keep their order. The package variables of Go's library stand as their own text lays them (the card ties them). -/
import Derived.Test.YthmekfcgdfckaaaGreatDoorWn42
import Derived.Test.YthmekfcgdfckaaaGreatDoorWn43
import Derived.Test.YthmekfcgdfckaaaGreatDoorCards
import Derived.Test.YthmekfcgdfckaaaGreatDoorTie
import Derived.OpenShut
import Derived.LaidMore
import Derived.Lay
import Derived.SevenTiedAt
import Derived.Stop.Joined
set_option maxRecDepth 1000000
set_option maxHeartbeats 0
namespace Go.Proofs.YthmekfcgdfckaaaGreatDoor
section
open Go.ChangeShapes Go.WideShapes Go.ChangeAt Go.RowKit Go.Joins
open Go.ChangeMaps (open_string shut_string)
theorem zil (os:Os) (started:os.Started) (H:Type) (enc:TypeId×Value→H):
    ReturnsInHanded {} Tryz.checked os 4 .any (fun w args=>(Rows.vehicleNetSpec.pre enc Tryz.prog Tryz.f4 Rows.vehicleNetRow.domain false w args∧laidMetH Tryz.prog Rows.vehicleNetRow.laid w)∧sizedMet enc Tryz.prog Tryz.f4 (OpenSpec.ofChange Rows.vehicleNetSpec) false w args)
      (Rows.vehicleNetSpec.post enc Tryz.prog Tryz.f4 false true false false):=by
  refine returnsInHanded_of_change_and (C:=Tryz.checked) (X:=fun w _=>laidMetH Tryz.prog Rows.vehicleNetRow.laid w) (fun _ _ _ hh h=>h.of_heap hh) own started (by kernel_rfl) Tryz.func4
    (ChangeSpec.witness_shaped (enc:=enc) (C:=Tryz.checked) (os:=os) (X:=fun w _=>laidMetH Tryz.prog Rows.vehicleNetRow.laid w) false (World.laidAll Tryz.prog os Rows.vehicleNetRow.laid) #[.agg aZ,.int .i64 0] 8 (World.laidAll_os _ _ _)
      (World.shaped_of_ZipB (by kernel_rfl) (by kernel_rfl)) (by kernel_rfl) (by kernel_rfl) (by kernel_rfl)
      (by rw [MakeChecks.laidMetH_plain _ _ _ (by kernel_rfl)];exact laidMet_laidAll _ (by kernel_rfl) (by kernel_rfl))) ?_
  intro W base args ds gs before hval0 hW _ _ hL _;rw [MakeChecks.laidMetH_plain _ _ _ (by kernel_rfl)] at hL;have hval: ∀(j:Nat) t v,Tryz.f4.params[j]?=some t→args[j]?=some v→Value.okWide Tryz.prog W .any base t v:=hval0;have hW' :=hW;obtain ⟨p,q,hA0,hV,rfl,hfz,hnd⟩:=hW;have hA:DataW.TrodAll enc Tryz.prog W 0 (fun _=>true) true Tryz.f4.params.toList args.toList ds p:=hA0;rw [Tryz.params4] at hA hval;obtain ⟨v0,vs0,d0,ds0,p0,q0,hargs,rfl,rfl,h0,r0⟩:=trodAll_cons hA;obtain ⟨v1,vs1,d1,ds1,p1,q1,rfl,rfl,rfl,h1,r1⟩:=trodAll_cons r0;obtain ⟨rfl,rfl,rfl⟩:=trodAll_nil r1;obtain rfl:args=#[v0,v1]:=by cases args;simp_all
  obtain ⟨rfl,rfl⟩:=trodVars_none hV;have k0:=h0;have lt0: ∀x∈p0,x.block<W.heap.size:=by obtain ⟨m,hm⟩:=k0;exact DataW.trod_lt m _ _ _ hm
  obtain ⟨v0,m0,rfl,in0⟩:=zm8 (hval 0 40 v0 rfl rfl) h0;obtain ⟨x1,rfl,rfl,rfl,w1⟩:=open_int Tryz.underlying3 (hval 1 3 v1 rfl rfl) h1;clear hA0 hval0;have hT:Tab W:=zu9 hL.tail.tail;refine(vNet_law v0 m0 x1 W in0 hT (zb3 w1)).mono fun e W' ⟨he,bel⟩=> ?_
  subst he;exact⟨_,rfl,_,_,_, [],_, [],hW',trodAll_mk1 (shut_bool Tryz.underlying4 _),(trodAll_cons_mk (Below.trod laidOut (by kernel_rfl) (of_decide_eq_true (by kernel_rfl)) k0 bel lt0) (trodAll_cons_mk (shut_int Tryz.underlying3 w1) trodAll_mk0)),rfl,bel.frame _,fun h=>by cases h⟩
theorem zly {a b:Bool} (h:a=true) (g:b=true): (a&&b)=true:=by rw [h,g];rfl
theorem zik:joinedFacts Tryz.pinned.checked.prog 4 Tryz.f4 Rows.vehicleNetSpec Rows.vehicleNetRow=true:=by
  unfold joinedFacts
  iterate 31 (refine zly ?_ ?_)
  all_goals as_aux_lemma=>kernel_rfl
theorem zj2:Rows.VehicleNetSaid:=
  OpenClaim.holds_of_wide 4 Tryz.f4 rfl rfl rfl rfl rfl rfl rfl ⟨rfl,rfl,rfl,rfl,rfl⟩ rfl rfl rfl rfl rfl (by kernel_rfl) Tryz.func4 zik
    (of_decide_eq_true (by kernel_rfl)) (by unfold Func.isWrapper;first| (rw [if_pos (by decide+kernel)];kernel_rfl)| (rw [if_neg (by decide+kernel)];exact⟨rfl,rfl⟩))
    (fun os started H enc _=>zil os started H enc)
theorem zi2 (f:FuncId) (fn:Func) (hf:Tryz.pinned.checked.prog.funcNamed "wainwright/wainwrightlaw.VehicleNet"=some f) (hfn:Tryz.pinned.checked.prog.funcs[f]?=some fn):
    Rows.vehicleNetCard.stood.looks=Tryz.pinned.checked.prog.looks []∧∀(j:Nat) t,fn.params[j]?=some t→Tryz.pinned.checked.prog.wantsStandIn t=false:=by
  obtain rfl:f=4:=Option.some.inj ((show Tryz.prog.funcNamed "wainwright/wainwrightlaw.VehicleNet"=some 4 by kernel_rfl).symm.trans hf)|>.symm
  obtain rfl:fn=Tryz.f4:=(Option.some.inj (Tryz.func4.symm.trans hfn)).symm;refine⟨by kernel_rfl,fun j t ht=> ?_⟩;rw [Tryz.params4] at ht;have hm:t∈ [40,3]:=by simpa using Array.mem_of_getElem? ht
  have hall: ([40,3].all fun u=>!Tryz.prog.wantsStandIn u)=true:=by kernel_rfl
  exact(show Tryz.prog.wantsStandIn t=false by simpa using List.all_eq_true.1 hall t hm)
theorem vehicleNet_holds:Rows.VehicleNetCardSaid:=
  Claim7.holds_tied_plain_at .later [] _ _ _ _ zj2 (fun _ h=>by cases h) (by kernel_rfl) (fun _ h=>by cases h) vehicleNet_row_tie rfl ⟨rfl,rfl⟩ (by kernel_rfl) rfl zi2 (by kernel_rfl)
#print axioms vehicleNet_holds
end
end Go.Proofs.YthmekfcgdfckaaaGreatDoor
