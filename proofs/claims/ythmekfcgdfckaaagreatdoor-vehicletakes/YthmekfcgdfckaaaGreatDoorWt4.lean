/- The contract of log.laid: how the records stand in a sector; the first that is wrong. The contract of log.Records. -/
import Derived.Test.YthmekfcgdfckaaaGreatDoorWt3
import Derived.Deep.DeepCutAuto
set_option maxRecDepth 1000000
set_option maxHeartbeats 0
namespace Go.Proofs.YthmekfcgdfckaaaGreatDoor
variable {r xs:List Int} {rs:List (List Int)} {B:Nat} {w:World}
section
open Go.RowKit
set_option linter.unusedSimpArgs false
attribute [local go_sem ↓] Go.wp_at_zero Go.wp_at_succ
def addL (xs one:List Int):List Int:=xs++headS one.length::one
def addE (xs one:List Int):Int:=if recE one≠0 then recE one else if 31< (addL xs one).length then 8 else 0
def laidS:List (List Int)→List Int→List Int×Int
  | [],xs=>(xs,0)
  |r::rs,xs=>if addE xs r≠0 then([],addE xs r) else laidS rs (addL xs r)
theorem zet (h:addE xs r≠0):laidS (r::rs) xs= ([],addE xs r):=by
  show(if _ then _ else _)=_;rw [if_pos h]
theorem zex (h:addE xs r=0):laidS (r::rs) xs=laidS rs (addL xs r):=by
  show(if _ then _ else _)=_;rw [if_neg (by simpa using h)]
theorem zsa (h:recE r=0):1≤r.length∧r.length≤4∧okL r=true:=by
  unfold recE at h
  split at h
  { simp at h }
  {
  split at h
  { simp at h }
  {
  rename_i h1 h2
  simp at h2
  exact⟨by omega,by omega,h2⟩
  }
  }
theorem zdj {b:Nat} {w' :World} {o:Obj} (hb:Below B w w') (h:w.heap[b]?=some o) (hlt:b<B):w'.heap[b]?=some o:=by rw [hb.block b hlt];exact h
def zb7 (B:Nat) (w wr:World) (xs:List Int):Prop:=
  ∃v,wr.heap[B]?=some (.cells #[v] 26 (0,0))∧wr.ownsRow (B+1) 3 1 v xs.length (vals xs)∧Below B w wr
def AddAns (B:Nat) (w:World) (xs one:List Int) (e:Ending) (w' :World):Prop:=
  e=.returned (.int .i64 (addE xs one))∧Below B w w' ∧(addE xs one=0→zb7 B w w' (addL xs one))
theorem zb7.below {wr:World} (h:zb7 B w wr xs):Below B w wr:=by
  obtain ⟨_,_,_,h⟩:=h;exact h
theorem zob {w2:World} {V v:Value} (h:w2.heap[B]?=some (.cells #[v] 26 (0,0))) (hown:w2.ownsRow (B+1) 3 1 V xs.length (vals xs)) (hb:Below B w w2):zb7 B w (w2.setCell ⟨B,0,none⟩ V) xs:=by
  refine⟨V, ?_, ?_,hb.setCell (Nat.le_refl _) _⟩
  {
  simp only [World.setCell,Array.getElem?_modify]
  simp [h]
  }
  {
  obtain ⟨h1,h2⟩:=hown;refine⟨h1, ?_⟩
  rcases h2 with h2| ⟨g,cap,cur,hv,hg,hh,hr⟩
  { exact .inl h2 }
  {
  exact .inr ⟨g,cap,cur,hv,hg,by rw [Below.heap_setCell _ _ _ _ (by simp;omega)];exact hh,hr⟩
  }
  }
theorem addL_own {base g n cap:Nat} {one:List Int} (h:w.ownsRow base 3 1 (.slice (some ⟨g,0,none⟩) (xs.length+1+n) cap) (xs.length+1+n) (vals xs++vals [headS n]++vals one)) (hn:one.length=n):
    w.ownsRow base 3 1 (.slice (some ⟨g,0,none⟩) (xs.length+1+n) cap) (addL xs one).length (vals (addL xs one)):=by
  subst hn;have e1: (addL xs one).length=xs.length+1+one.length:=by simp [addL];omega
  have e2:vals (addL xs one)=vals xs++vals [headS one.length]++vals one:=by simp [addL,vals]
  rw [e1,e2];exact h
theorem zq5 (w:World) (n:Nat): ∀j u,(vals [headS n])[j]?=some u→(w.alloc (.cells #[.int .i64 (headS n)] 3)).cell? ((⟨w.heap.size,0,none⟩:Addr).add j)=some u:=by
  intro j u h;cases j with
  |zero=>simp [vals] at h;subst h;simp [Addr.add]
  |succ j=>simp [vals] at h
theorem addFn_any (B:Nat) (a:Option Addr) (n c:Nat) (one xs:List Int) (w:World) (h:zag w a one) (hn:one.length=n) (hm:n≤maxLen) (hfr: ∀b off,a=some ⟨b,off,none⟩→0<n→b<B) (hst:zb7 B w w xs) (hx:xs.length≤31):
    Calls Tryz.prog 302 #[.slice a n c,.pointer (some ⟨B,0,none⟩)] w (AddAns B w xs one):=by
  obtain ⟨ii,hii,iz0,iz1,iz2⟩:=info_parts zef;have HC:=hide (zf3 a n c one w h hn hm);have HN:=hide hn;obtain ⟨v,hbox,hown,_⟩:=hst;have HB:=hide hbox;have x0:=zaa hbox 0 _ rfl;have f0:=zad hbox 0;have ltB:=zak hbox;clear hn hbox;go_enter Tryz.func302,Tryz.ntmps302;go_wp2_with fail;refine(zae HC).mono ?_;rintro e w' ⟨rfl,rfl⟩
  by_cases e1:recE one=0
  rotate_left
  {
  have e1' : (recE one !=0)=true:=by simpa using e1
  have hr:Hid (addE xs one=recE one):=by show _=_;unfold addE;rw [if_pos e1]
  have hr2:Hid (addE xs one≠0):=by show¬_;rw [hr.out];exact e1
  go_wp2;go_ret;exact⟨zao hr.out.symm,Below.refl _ _,fun h=>absurd h hr2.out⟩
  }
  have e1' : (recE one !=0)=false:=by simpa using e1
  have parts:=zsa e1;rw [HN.out] at parts;have E1:=hide e1;clear e1;have hf:=hide (fun W=>zj9 a n c W (by omega));obtain ⟨b,off,rfl⟩:=h.nonempty (by rw [HN.out];omega);have hbB:b<B:=hfr _ _ rfl (by omega);have HI:=hide h;have hge:=zc5 hown;have x1:w'.drew.cell? ⟨B,0,none⟩=some v:=x0;have x2: (w'.alloc (.cells #[.int .i64 (headS n)] 3)).drew.cell? ⟨B,0,none⟩=some v:=zaa (zai HB.out _) 0 _ rfl;have x3: (w'.drew.alloc (.cells #[.int .i64 (headS n)] 3)).cell? ⟨B,0,none⟩=some v:=x2;have x4: (w'.alloc (.cells #[.int .i64 (headS n)] 3)).cell? ⟨B,0,none⟩=some v:=x2;clear h hfr HC;go_wp2_with fail;refine wp_region_held_drew (S:=fun _=>True) (by kernel_rfl) trivial (fun hHeld=> ?_);refine wpAnyH_take (i:=1) (v:= ?_) rfl (by kernel_rfl) (by kernel_rfl) (by kernel_rfl) (fun _ _ _ h=>h) (Or.inl ⟨by rfl, ?_⟩) trivial ?_;rotate_left
  {
  intro w hSw;go_simp
  try with_reducible rfl
  }
  try simp only [List.getElem_toArray,List.getElem_cons_zero,List.getElem_cons_succ,Act.put,List.setIfInBounds_toArray,List.set_cons_zero,List.set_cons_succ]
  refine wpAnyH_take (i:=5) (v:= ?_) rfl (by kernel_rfl) (by kernel_rfl) (by kernel_rfl) (fun _ _ _ h=>h) (Or.inl ⟨by rfl, ?_⟩) trivial ?_;rotate_left
  {
  intro w hSw;go_simp
  try with_reducible rfl
  }
  try simp only [List.getElem_toArray,List.getElem_cons_zero,List.getElem_cons_succ,Act.put,List.setIfInBounds_toArray,List.set_cons_zero,List.set_cons_succ]
  refine wpAnyH_ready (rs:= [0,2]) (by kernel_rfl) (by simp) ?_;refine(AllReadyH.cons rfl (fun K hK=> ?_) (AllReadyH.cons rfl (fun K hK=> ?_) AllReadyH.nil));rotate_left;go_simp;refine(zae hf _).mono ?_;rintro e W1 ⟨rfl,rfl⟩;go_wp2_with fail;refine hK.out _ _ trivial (fun hHeld=> ?_);clear hK K
  try simp only [List.getElem_toArray,List.getElem_cons_zero,List.getElem_cons_succ,Act.put,List.setIfInBounds_toArray,List.set_cons_zero,List.set_cons_succ]
  refine wpAnyH_ready (rs:= [0,3]) (by kernel_rfl) (by simp) ?_;refine(AllReadyH.cons rfl (fun K hK=> ?_) (AllReadyH.cons rfl (fun K hK=> ?_) AllReadyH.nil));rotate_left;go_simp;refine hK.out _ _ trivial (fun hHeld=> ?_);clear hK K
  try simp only [List.getElem_toArray,List.getElem_cons_zero,List.getElem_cons_succ,Act.put,List.setIfInBounds_toArray,List.set_cons_zero,List.set_cons_succ]
  refine wpAnyH_ready (rs:= [0]) (by kernel_rfl) (by simp) ?_;refine(AllReadyH.cons rfl (fun K hK=> ?_) AllReadyH.nil);go_simp;refine hK.out _ _ trivial (fun hHeld=> ?_);clear hK K
  try simp only [List.getElem_toArray,List.getElem_cons_zero,List.getElem_cons_succ,Act.put,List.setIfInBounds_toArray,List.set_cons_zero,List.set_cons_succ]
  rotate_left;go_simp;refine hK.out _ _ trivial (fun hHeld=> ?_);clear hK K
  try simp only [List.getElem_toArray,List.getElem_cons_zero,List.getElem_cons_succ,Act.put,List.setIfInBounds_toArray,List.set_cons_zero,List.set_cons_succ]
  refine wpAnyH_ready (rs:= [2]) (by kernel_rfl) (by simp) ?_;refine(AllReadyH.cons rfl (fun K hK=> ?_) AllReadyH.nil);go_simp;refine(zae hf _).mono ?_;rintro e W1 ⟨rfl,rfl⟩;go_wp2_with fail;refine hK.out _ _ trivial (fun hHeld=> ?_);clear hK K
  try simp only [List.getElem_toArray,List.getElem_cons_zero,List.getElem_cons_succ,Act.put,List.setIfInBounds_toArray,List.set_cons_zero,List.set_cons_succ]
  refine wpAnyH_ready (rs:= [3]) (by kernel_rfl) (by simp) ?_;refine(AllReadyH.cons rfl (fun K hK=> ?_) AllReadyH.nil);go_simp;refine hK.out _ _ trivial (fun hHeld=> ?_);clear hK K
  try simp only [List.getElem_toArray,List.getElem_cons_zero,List.getElem_cons_succ,Act.put,List.setIfInBounds_toArray,List.set_cons_zero,List.set_cons_succ]
  rotate_left;go_simp;refine hK.out _ _ trivial (fun hHeld=> ?_);clear hK K
  try simp only [List.getElem_toArray,List.getElem_cons_zero,List.getElem_cons_succ,Act.put,List.setIfInBounds_toArray,List.set_cons_zero,List.set_cons_succ]
  refine wpAnyH_ready (rs:= [3]) (by kernel_rfl) (by simp) ?_;refine(AllReadyH.cons rfl (fun K hK=> ?_) AllReadyH.nil);go_simp;refine hK.out _ _ trivial (fun hHeld=> ?_);clear hK K
  try simp only [List.getElem_toArray,List.getElem_cons_zero,List.getElem_cons_succ,Act.put,List.setIfInBounds_toArray,List.set_cons_zero,List.set_cons_succ]
  all_goals
    refine wpAnyH_ready (rs:= [4]) (by kernel_rfl) (by simp) ?_;refine(AllReadyH.cons rfl (fun K hK=> ?_) AllReadyH.nil);refine step_append_lies _ (by rfl) _ _ 26 (by rfl) (B+1) 3 ii _ 1 8 Tryz.underlying26 hii iz0 iz1 iz2 rfl (by omega) v xs.length (vals xs) (by rfl) (zba hown ((Below.refl _ w').alloc (Nat.le_refl _) _).drew) ⟨w'.heap.size,0,none⟩ 1 1 (vals [headS n]) (by rfl) rfl (zq5 _ _) (zbu _) (by omega) (by unfold maxLen;omega) (by omega) (by simp;omega) (w'.heap.size+1) (by simp) ?_;intro g1 cap1 w1 hown1 hgrow1 hat1 hlt1;have hB1:Below (B+1) w' w1:=((Below.refl _ w').alloc (by omega) _).drew.grown hgrow1 (by simp;omega) (fun k hk=>by have:=hge k hk;omega);refine hK.out _ _ trivial (fun hHeld=> ?_);clear hK K
    try simp only [List.getElem_toArray,List.getElem_cons_zero,List.getElem_cons_succ,Act.put,List.setIfInBounds_toArray,List.set_cons_zero,List.set_cons_succ]
    refine wpAnyH_ready (rs:= [6]) (by kernel_rfl) (by simp) ?_;refine(AllReadyH.cons rfl (fun K hK=> ?_) AllReadyH.nil);refine zf4 _ (by rfl) _ _ 26 208 (by rfl) (B+1) 3 3 ii _ 1 8 Tryz.underlying26 Tryz.underlying208 hii iz0 iz1 iz2 rfl (by omega) (.slice (some ⟨g1,0,none⟩) (xs.length+1) cap1) (xs.length+1) _ (by rfl) hown1 ⟨b,off,none⟩ n c (vals one) (by rfl) (by rw [za3,HN.out,Nat.mul_one]) (zl8 (HI.out.low hB1 (by omega))) (zbu one) (by omega) (by unfold maxLen;omega) (by omega) (by have:=hB1.size;omega) w1.heap.size rfl ?_;intro g2 cap2 w2 hown2 hgrow2 hat2 hlt2;have hB2:Below (B+1) w' w2:=hB1.grown hgrow2 (by have:=hB1.size;omega) (fun k hk=>by have:=zc5 hown1 k hk;omega);have z0:=zaa (zdj hB2 HB.out (by omega)) 0 _ rfl;have z1:=zad (zdj hB2 HB.out (by omega)) 0;refine hK.out _ _ trivial (fun hHeld=> ?_);clear hK K
    try simp only [List.getElem_toArray,List.getElem_cons_zero,List.getElem_cons_succ,Act.put,List.setIfInBounds_toArray,List.set_cons_zero,List.set_cons_succ]
    refine wpAnyH_ready (rs:= [7]) (by kernel_rfl) (by simp) ?_;refine(AllReadyH.cons rfl (fun K hK=> ?_) AllReadyH.nil);go_simp;refine hK.out _ _ trivial (fun hHeld=> ?_);clear hK K
    try simp only [List.getElem_toArray,List.getElem_cons_zero,List.getElem_cons_succ,Act.put,List.setIfInBounds_toArray,List.set_cons_zero,List.set_cons_succ]
    refine wpAnyH_done (by kernel_rfl) ?_ _;have hV:=zob (zdj hB2 HB.out (by omega)) (addL_own hown2 HN.out) (hB2.mono (by omega));have hcB: (w2.setCell ⟨B,0,none⟩ (.slice (some ⟨g2,0,none⟩) (xs.length+1+n) cap2)).cell? ⟨B,0,none⟩=some (.slice (some ⟨g2,0,none⟩) (xs.length+1+n) cap2):=by
      have:=zdj hB2 HB.out (show B<B+1 by omega);simp only [World.setCell,World.cell?,Array.getElem?_modify]
      simp [this]
    have HL:Hid ((addL xs one).length=xs.length+1+n):=by show _=_;simp [addL,HN.out];omega
    have HV:=hide hV;clear hV hown2 hown1 hgrow1 hgrow2 x1 x2 x3 x4 z0 z1
    by_cases big:31<xs.length+1+n
    {
    have hr:Hid (addE xs one=8):=by show _=_;unfold addE;rw [if_neg (by simpa using E1.out),HL.out,if_pos big]
    have big' : (31:Int)< (xs.length:Int)+1+(n:Int):=by omega
    go_wp2;go_ret;exact⟨zao hr.out.symm,HV.out.below,fun h=>by rw [hr.out] at h;cases h⟩
    }
    {
    have hr:Hid (addE xs one=0):=by show _=_;unfold addE;rw [if_neg (by simpa using E1.out),HL.out,if_neg big]
    have big' : ¬(31:Int)< (xs.length:Int)+1+(n:Int):=by omega
    go_wp2;go_ret;exact⟨zao hr.out.symm,HV.out.below,fun _=>HV.out⟩
    }
theorem zop (h:addE xs r=0): (addL xs r).length≤31:=by
  unfold addE at h
  split at h
  { rename_i h1;exact absurd h h1 }
  {
  split at h
  { simp at h }
  {
  omega
  }
  }
theorem zag.lt_of {b off:Nat} (h:zag w (some ⟨b,off,none⟩) xs) (hn:0<xs.length):b<w.heap.size:=by
  rcases h with rfl| ⟨b',off',e,hc⟩
  { simp at hn }
  {
  cases e;exact zah (hc 0 hn)
  }
theorem zb7.step {wr w' :World} {ys:List Int} (h:zb7 B w wr xs) (h' :zb7 B wr w' ys):zb7 B w w' ys:=by
  obtain ⟨v,h1,h2,h3⟩:=h';exact⟨v,h1,h2,h.below.trans h3⟩
theorem zb7.here {wr:World} (h:zb7 B w wr xs):zb7 B wr wr xs:=by
  obtain ⟨v,h1,h2,h3⟩:=h;exact⟨v,h1,h2,Below.refl _ _⟩
theorem laid_any (ak:Option Addr) (nk ck:Nat) (keep:List (List Int)) (ar:Option Addr) (nr cr:Nat) (r:List Int) (w:World) (hk:zck w ak keep) (hnk:keep.length=nk) (hmk:nk≤maxLen) (hr:zag w ar r) (hnr:r.length=nr) (hmr:nr≤maxLen):
    Calls Tryz.prog 286 #[.slice ak nk ck,.slice ar nr cr] w (Reads w (laidS (keep++ [r]) [])):=by
  have hst0:zb7 w.heap.size w (w.alloc (.cells #[.slice none 0 0] 26)) []:=⟨.slice none 0 0,heap_alloc_last _ _,World.ownsRow_nil _ _ _ _,bA1⟩;have HA:=hide (fun (a:Option Addr) (n c:Nat) (one xs:List Int) (W:World) (hw:Below w.heap.size w W) (h:zag w a one) (hn:one.length=n) (hm:n≤maxLen) (hst:zb7 w.heap.size W W xs) (hx:xs.length≤31)=>
    addFn_any w.heap.size a n c one xs W (h.below hw) hn hm (fun b off e h0=>by subst e;exact h.lt_of (by omega)) hst hx)
  have HNK:=hide hnk;have HNR:=hide hnr;clear hnk hnr;unfold maxLen at hmk;go_enter Tryz.func286,Tryz.ntmps286;go_wp2
  go_loopw [15] (fun i wr=>∃(k:Nat) (xs:List Int),k≤nk∧i=.int .i64 k∧zb7 w.heap.size w wr xs∧xs.length≤31∧Hid (laidS (keep++ [r]) []=laidS (keep.drop k++ [r]) xs)) (fun i _=>nk - (intOf i).toNat)
  case atStart=>exact⟨0, [],Nat.zero_le _,rfl,hst0,by simp,by show _=_;rw [List.drop_zero]⟩
  case round=>
    obtain ⟨k,xs,hkn,rfl,hst,hx,hl⟩:=hrel;have hbe:=hst.below
    by_cases hlt:k<nk
    {
    have hkl:k<keep.length:=by rw [HNK.out];exact hlt
    rcases hk with rfl| ⟨b,off,rfl,hc⟩
    { simp at hkl }
    obtain ⟨ai,ci,q1,q2,q3,q4⟩:=hc k keep[k] (List.getElem?_eq_getElem hkl);have hd:Hid (keep.drop k++ [r]=keep[k]::(keep.drop (k+1)++ [r])):=by show _=_;rw [List.drop_eq_getElem_cons hkl];rfl
    obtain ⟨one,hone⟩: ∃one,one=keep[k]:=⟨_,rfl⟩;rw [←hone] at q1 q2 q3 hd;obtain ⟨n1,hn1⟩: ∃n1,n1=one.length:=⟨_,rfl⟩;rw [←hn1] at q1 q3;have q1' :wr.cell? ⟨b,off+k,none⟩=some (.slice ai n1 ci):=by rw [hbe.cell (zah q1)];exact q1
    have HN1:=hide hn1;have HS:=hide hst;clear hone hn1 hc q1 hst;go_wp2_with fail;refine(zae HA ai n1 ci one xs wr hbe q2 HN1.out.symm (by omega) HS.out.here hx).mono ?_;rintro e w1 ⟨rfl,hb1,hst1⟩
    by_cases e1:addE xs one=0
    {
    have e1' : (addE xs one !=0)=false:=by simpa using e1
    have hs2:=HS.out.step (hst1 e1);have hlen2:=zop e1;have hl2:Hid (laidS (keep++ [r]) []=laidS (keep.drop (k+1)++ [r]) (addL xs one)):=by show _=_;rw [hl.out,hd.out,zex e1]
    have HS2:=hide hs2;clear hs2 hst1 e1 hl hd;go_wp2
    go_roundw
    case rel=>exact⟨k+1,addL xs one,by omega,by go_num,HS2.out,hlen2,hl2⟩
    case measure=>simp [intOf];omega
    }
    {
    have e1' : (addE xs one !=0)=true:=by simpa using e1
    have hl2:Hid (laidS (keep++ [r]) []= ([],addE xs one)):=by show _=_;rw [hl.out,hd.out,zet e1]
    clear hst1 e1 hl hd;go_wp2;go_ret2;exact zfw hl2.out (hbe.trans hb1)
    }
    }
    {
    have hd:Hid (keep.drop k++ [r]= [r]):=by show _=_;rw [List.drop_eq_nil_of_le (by rw [HNK.out];omega)];rfl
    have HS:=hide hst;clear hst;go_wp2_with fail;refine(zae HA ar nr cr r xs wr hbe hr HNR.out hmr HS.out.here hx).mono ?_;rintro e w1 ⟨rfl,hb1,hst1⟩
    by_cases e1:addE xs r=0
    {
    have e1' : (addE xs r !=0)=false:=by simpa using e1
    obtain ⟨v,hbox,hown,hb2⟩:=HS.out.step (hst1 e1);have hl2:Hid (laidS (keep++ [r]) []= (addL xs r,0)):=by show _=_;rw [hl.out,hd.out,zex e1];rfl
    have c0:=zaa hbox 0 _ rfl;obtain ⟨g,cap,rfl,hg,hlt2⟩:=hown.form (by simp [addL];omega);have q:=zjq hown rfl;have Q:=hide q;clear hst1 e1 hl hd hown q;go_wp2;go_ret2;exact⟨⟨some ⟨g,0,none⟩,(addL xs r).length,cap,by rw [hl2.out];rfl,by rw [hl2.out];exact Q.out.1.isInts,by rw [hl2.out],Q.out.2.2.1,zal.here (by omega) 0⟩,hb2⟩
    }
    {
    have e1' : (addE xs r !=0)=true:=by simpa using e1
    have hl2:Hid (laidS (keep++ [r]) []= ([],addE xs r)):=by show _=_;rw [hl.out,hd.out,zet e1]
    clear hst1 e1 hl hd;go_wp2;go_ret2;exact zfw hl2.out (hbe.trans hb1)
    }
    }
end
section
open Go.RowKit
attribute [local go_sem ↓] Go.wp_at_zero Go.wp_at_succ
def logR (ws:List Int):List (List Int):=(za7 (secL ws (secN ws))).1
def restS (ws:List Int):List Int:=(za7 (secL ws (secN ws))).2
def recsS (ws:List Int) (fuel:Int):List (List Int)×Int:=if lchk ws fuel≠0 then([],lchk ws fuel) else(logR ws,0)
def RecsAns (w:World) (r:List (List Int)×Int) (e:Ending) (w' :World):Prop:=
  (∃a n c,e=.returned (.tuple #[.slice a n c,.int .i64 r.2])∧zck w' a r.1∧r.1.length=n∧n≤c∧c≤maxLen)∧Below w.heap.size w w'
theorem zdm {ws:List Int} {fuel:Int} (h:lchk ws fuel=0):chk ws fuel=0∧64≤ws.length∧ws.length≤192∧okL ws=true∧genN ws≠0∧genN ws≤60000:=by
  unfold lchk at h
  split at h
  { rename_i h1;exact absurd h h1 }
  {
  rename_i h1
  split at h
  { simp at h }
  {
  rename_i h2
  have h3:secS ws fuel=0:=by simpa using h1
  unfold secS at h3
  split at h3
  { rename_i h4;exact absurd h3 h4 }
  {
  rename_i h4
  split at h3
  { simp at h3 }
  {
  have h5:chk ws fuel=0:=by simpa using h4
  have q:=zhq h5;exact⟨h5,by omega,by omega,q.2.2.2,by omega,by omega⟩
  }
  }
  }
  }
theorem zgk (ws:List Int):secN ws=0∨secN ws=1:=by unfold secN;split<;>simp
theorem zvz (a:Option Addr) (n c:Nat) (ws:List Int) (fuel:Int) (w:World) (h:zag w a ws) (hn:ws.length=n) (hcap:n≤c) (hm:n≤maxLen):
    Calls Tryz.prog 26 #[.agg #[.slice a n c,.int .i64 fuel]] w (RecsAns w (recsS ws fuel)):=by
  have hw:Below w.heap.size w (w.alloc (.cells #[.slice a n c,.int .i64 fuel] 28)):=bA1;have i0:=h.below hw;have HS:=hide (fun W (h:zag W a ws)=>zd5 a n c ws fuel W h hn hm);have HG:=hide (fun W (h:zag W a ws) (h64:64≤n)=>zfv a n c ws fuel W h hn hm h64);have HP:=hide (fun W (h:zag W a ws) (hm:n≤192) (hok:okL ws=true) (h64:64≤n)=>zmb a n c ws fuel (secN ws) W h hn hcap hm hok (zgk ws) h64);have B0:=hide (heap_alloc_last w (.cells #[.slice a n c,.int .i64 fuel] 28));have HN:=hide hn;clear hn;go_enter Tryz.func26,Tryz.ntmps26;go_wp2_with fail;generalize w.alloc (.cells #[.slice a n c,.int .i64 fuel] 28)=W at *;refine(zae HS _ i0).mono ?_;rintro e w1 ⟨rfl,hb1⟩;have hw1:=bT hw hb1
  by_cases e1:lchk ws fuel=0
  rotate_left
  {
  have e1' : (lchk ws fuel !=0)=true:=by simpa using e1
  have hr:Hid (recsS ws fuel= ([],lchk ws fuel)):=by show _=_;unfold recsS;rw [if_pos e1]
  go_wp2;go_ret2;rw [hr.out];exact⟨⟨none,0,0,rfl,.inl rfl,rfl,Nat.le_refl _,by unfold maxLen;omega⟩,hw1⟩
  }
  have e1' : (lchk ws fuel !=0)=false:=by simpa using e1
  have hr:Hid (recsS ws fuel= (logR ws,0)):=by show _=_;unfold recsS;rw [if_neg (by simpa using e1)]
  have parts:=zdm e1;rw [HN.out] at parts;clear e1;have c00:=zaa (zab B0.out hb1) 0 _ rfl;have c01:=zaa (zab B0.out hb1) 1 _ rfl;go_wp2_with fail;refine(zae HG _ (i0.below hb1) parts.2.1).mono ?_;rintro e w2 ⟨rfl,hb2⟩;have hw2:=bT hw1 hb2;have c10:=zaa (zab (zab B0.out hb1) hb2) 0 _ rfl;have c11:=zaa (zab (zab B0.out hb1) hb2) 1 _ rfl;go_wp2_with fail;refine(zae HP _ ((i0.below hb1).below hb2) parts.2.2.1 parts.2.2.2.1 parts.2.1).mono ?_;rintro e w3 ⟨⟨v,a3,m3,cc3,rfl,hmk,hi3,hn3,hm3,hok3⟩,hb3⟩;obtain ⟨av,cv,rfl,q1,q2,q3⟩:=hmk.isRecs;have HQ:=hide q3;clear hmk hn3;have hw3:=bT hw2 hb3;go_wp2;go_ret2;rw [hr.out];exact⟨⟨av,_,cv,rfl,HQ.out,rfl,q1,q2⟩,hw3⟩
end
end Go.Proofs.YthmekfcgdfckaaaGreatDoor
