/- The statement VehicleGoesCardSaid: whatever the script, once the campaign is ended, a release that enough have signed and that is newer comes to run everywhere, if all are up; one that too few have signed doesn't. The package variables of Go's library stand as their own text lays them (the card ties them). -/
import Derived.Test.YthmekfcgdfckaaaGreatDoorWzXVGo
import Derived.Test.YthmekfcgdfckaaaGreatDoorWz25
import Derived.Test.YthmekfcgdfckaaaGreatDoorCards
import Derived.Test.YthmekfcgdfckaaaGreatDoorTie
import Derived.OpenShut
import Derived.Lay
import Derived.SevenTiedAt
import Derived.Stop.Joined
set_option maxRecDepth 1000000
set_option maxHeartbeats 0
namespace Go.Proofs.YthmekfcgdfckaaaGreatDoor
open Go.RowKit
section
open Go.ChangeShapes Go.WideShapes Go.ChangeAt Go.RowKit Go.Joins
open Go.ChangeMaps (open_string shut_string)
theorem zyl (os:Os) (started:os.Started) (H:Type) (enc:TypeId×Value->H):
 ReturnsInHanded {} Tryz.checked os 8 .any (fun w args=>(Rows.vehicleGoesSpec.pre enc Tryz.prog Tryz.f8 Rows.vehicleGoesRow.domain false w args/\laidMetH Tryz.prog Rows.vehicleGoesRow.laid w)/\sizedMet enc Tryz.prog Tryz.f8 (OpenSpec.ofChange Rows.vehicleGoesSpec) false w args)
  (Rows.vehicleGoesSpec.post enc Tryz.prog Tryz.f8 false true false false):=by
 refine returnsInHanded_of_change_and (C:=Tryz.checked) (X:=fun w _=>laidMetH Tryz.prog Rows.vehicleGoesRow.laid w) (fun _ _ _ hh h=>h.of_heap hh) own started (by kernel_rfl) Tryz.func8
  (ChangeSpec.witness_shaped (enc:=enc) (C:=Tryz.checked) (os:=os) (X:=fun w _=>laidMetH Tryz.prog Rows.vehicleGoesRow.laid w) false (World.laidAll Tryz.prog os Rows.vehicleGoesRow.laid) #[iV 0,nV] 8 (World.laidAll_os _ _ _)
   (World.shaped_of_ZipB (by kernel_rfl) (by kernel_rfl)) (by kernel_rfl) (by kernel_rfl) (by kernel_rfl)
   (by rw [MakeChecks.laidMetH_plain _ _ _ (by kernel_rfl)];exact laidMet_laidAll _ (by kernel_rfl) (by kernel_rfl))) ?_
 intro W base args ds gs before hval0 hW _ _ hL _;rw [MakeChecks.laidMetH_plain _ _ _ (by kernel_rfl)] at hL;have hval: ∀(j:Nat) t v,Tryz.f8.params[j]?=some t->args[j]?=some v->Value.okWide Tryz.prog W .any base t v:=hval0;have hW' :=hW;obtain ⟨p,q,hA0,hV,rfl,hfz,hnd⟩:=hW;have hA:DataW.TrodAll enc Tryz.prog W 0 (fun _=>true) true Tryz.f8.params.toList args.toList ds p:=hA0;rw [Tryz.params8] at hA hval;obtain ⟨v0,vs0,d0,ds0,p0,q0,hargs,rfl,rfl,h0,r0⟩:=trodAll_cons hA;obtain ⟨v1,vs1,d1,ds1,p1,q1,rfl,rfl,rfl,h1,r1⟩:=trodAll_cons r0;obtain ⟨rfl,rfl,rfl⟩:=trodAll_nil r1;obtain rfl:args=#[v0,v1]:=by cases args;simp_all
 obtain ⟨rfl,rfl⟩:=trodVars_none hV;have k1:=h1;have lt1: ∀x∈p1,x.block<W.heap.size:=by obtain ⟨m,hm⟩:=k1;exact DataW.trod_lt m _ _ _ hm
 obtain ⟨x0,rfl,rfl,rfl,w0⟩:=open_int Tryz.underlying3 (hval 0 3 v0 rfl rfl) h0;obtain ⟨a1,n1,c1,l1,rfl,in1,bd1⟩:=zvw (hval 1 61 v1 rfl rfl) h1;clear hA0 hval0;have hT:Tab W:=zu9 hL.tail.tail;refine(vGoes_law x0 l1 a1 n1 c1 W hT (zb3 w0) in1 bd1).mono fun e W' ⟨he,bel⟩=> ?_
 subst he;exact⟨_,rfl,_,_,_, [],_, [],hW',trodAll_mk1 (shut_bool Tryz.underlying4 _),(trodAll_cons_mk (shut_int Tryz.underlying3 w0) (trodAll_cons_mk (Below.trod zy6 (by kernel_rfl) (of_decide_eq_true (by kernel_rfl)) k1 bel lt1) trodAll_mk0)),rfl,bel.frame _,fun h=>by cases h⟩
theorem zyo {a b:Bool} (h:a=true) (g:b=true): (a&&b)=true:=by rw [h,g];rfl
theorem zyk:joinedFacts Tryz.pinned.checked.prog 8 Tryz.f8 Rows.vehicleGoesSpec Rows.vehicleGoesRow=true:=by
 unfold joinedFacts
 iterate 31 (refine zyo ?_ ?_)
 all_goals as_aux_lemma=>kernel_rfl
theorem zyn:Rows.VehicleGoesSaid:=
 OpenClaim.holds_of_wide 8 Tryz.f8 rfl rfl rfl rfl rfl rfl rfl ⟨rfl,rfl,rfl,rfl,rfl⟩ rfl rfl rfl rfl rfl (by kernel_rfl) Tryz.func8 zyk
  (of_decide_eq_true (by kernel_rfl)) (by unfold Func.isWrapper;first| (rw [KK (by decide+kernel)];kernel_rfl)| (rw [KJ (by decide+kernel)];exact⟨rfl,rfl⟩))
  (fun os started H enc _=>zyl os started H enc)
theorem zym (f:FuncId) (fn:Func) (hf:Tryz.pinned.checked.prog.funcNamed "wainwright/wainwrightlaw.VehicleGoes"=some f) (hfn:Tryz.pinned.checked.prog.funcs[f]?=some fn):
 Rows.vehicleGoesCard.stood.looks=Tryz.pinned.checked.prog.looks []/\∀(j:Nat) t,fn.params[j]?=some t->Tryz.pinned.checked.prog.wantsStandIn t=false:=by
 obtain rfl:f=8:=kJ ((show Tryz.prog.funcNamed "wainwright/wainwrightlaw.VehicleGoes"=some 8 by kernel_rfl).symm.trans hf)|>.symm
 obtain rfl:fn=Tryz.f8:=(kJ (Tryz.func8.symm.trans hfn)).symm;refine⟨by kernel_rfl,fun j t ht=> ?_⟩;rw [Tryz.params8] at ht;have hm:t∈ [3,61]:=by simpa using Array.mem_of_getElem? ht
 have hall: ([3,61].all fun u=>!Tryz.prog.wantsStandIn u)=true:=by kernel_rfl
 exact(show Tryz.prog.wantsStandIn t=false by simpa using kH.1 hall t hm)
theorem vehicleGoes_holds:Rows.VehicleGoesCardSaid:=
 Claim7.holds_tied_plain_at .later [] _ _ _ _ zyn (fun _ h=>by cases h) (by kernel_rfl) (fun _ h=>by cases h) vehicleGoes_row_tie rfl ⟨rfl,rfl⟩ (by kernel_rfl) rfl zym (by kernel_rfl)
#print axioms vehicleGoes_holds
end
end Go.Proofs.YthmekfcgdfckaaaGreatDoor
