/- The contracts of unit.meantWords and of hearPrepare's closures. The contract of gate.kept: the records that say a state. The contract of gate.note: a record in a gateway of one's own. The contract of gate.count, of either list. -/
import Derived.Test.YthmekfcgdfckaaaGreatDoorWn15
import Derived.Test.YthmekfcgdfckaaaGreatDoorWn9
import Derived.Test.YthmekfcgdfckaaaGreatDoorWn13
import Derived.Test.YthmekfcgdfckaaaGreatDoorWn14
import Derived.Deep.DeepCutAuto
set_option maxRecDepth 1000000
set_option maxHeartbeats 0
namespace Go.Proofs.YthmekfcgdfckaaaGreatDoor
variable {ws:List Int} {w W:World} {B F bv bd:Nat} {g:Gt} {m:GA} {a:Option Addr} {bs:List Bool}
section
open Go.RowKit
attribute [local go_sem ↓] Go.wp_at_zero Go.wp_at_succ
theorem bodyS_len (ws:List Int) (fu s k:Int): (bodyS ws fu s k).1.length≤ws.length:=by
  unfold bodyS
  split
  { simp }
  {
  split
  { simp }
  {
  simp
  omega
  }
  }
def mntB (ss:List ByteArray) (ws:List Int) (fu s:Int) (m:Ms):Bool:=
  decide ((bodyS ws fu s m.at').2=0)&&(decide (inE ss (bodyS ws fu s m.at').1=0)&&(decide (inN ss (bodyS ws fu s m.at').1≠0)&&decide (inN ss (bodyS ws fu s m.at').1=m.im)))
theorem bodyS_bad {fu s k:Int} (h: (bodyS ws fu s k).2≠0): (bodyS ws fu s k).1= []:=by
  unfold bodyS at h⊢
  split
  { rfl }
  {
  rename_i h1
  rw [if_neg h1] at h
  split
  { rfl }
  {
  rename_i h2
  rw [if_neg h2] at h;exact absurd rfl h
  }
  }
def MntAns (w:World) (words:List Int) (q:Bool) (e:Ending) (w' :World):Prop:=
  (∃a n c,e=.returned (.tuple #[.slice a n c,.bool q])∧BI w' a n words∧zal w.heap.size a)∧Below w.heap.size w w'
theorem bk3 {o0 o1 o2:Obj}: (((w.alloc o0).alloc o1).alloc o2).heap[w.heap.size]?=some o0∧(((w.alloc o0).alloc o1).alloc o2).heap[w.heap.size+1]?=some o1∧(((w.alloc o0).alloc o1).alloc o2).heap[w.heap.size+1+1]?=some o2:=
  ⟨zai (zai (heap_alloc_last _ _) _) _,zai (zau _ _ _) _,zb9 _ _ _ _⟩
theorem zlu (ab:Option Addr) (nb cb:Nat) (ss:List ByteArray) (a:Option Addr) (n c:Nat) (ws:List Int) (fu s:Int) (m:Ms) (am:Option Addr) (nm cm:Nat) (w:World) (h0:BB w ab nb cb ss) (h:BW w a n c ws) (hT:Tab w):
    Calls Tryz.prog 314 #[bookv ab nb cb,.agg #[.slice a n c,.int .i64 fu],.int .i64 s,msv m am nm cm] w (MntAns w (bodyS ws fu s m.at').1 (mntB ss ws fu s m)):=by
  have hw0:Below w.heap.size w (((w.alloc (.cells #[.slice ab nb cb] 24)).alloc (.cells #[.slice a n c,.int .i64 fu] 28)).alloc (.cells (aM m am nm cm) 99)):=(bA2).alloc (by simp;omega) _;have bb:=hide (bk3 (w:=w) (o0:=.cells #[.slice ab nb cb] 24 (0,0)) (o1:=.cells #[.slice a n c,.int .i64 fu] 28 (0,0)) (o2:=.cells (aM m am nm cm) 99 (0,0)));have HB:=hide (fun W (hW:Below w.heap.size w W)=>zq0 a n c ws fu s m.at' W (h.below hW).at_ h.len h.max h.cap);have HI:=hide (fun W a2 n2 c2 xs (hW:Below w.heap.size w W) (hi:BI W a2 n2 xs)=>zew ab nb cb ss a2 n2 c2 xs W (h0.below hW).at_ h0.len h0.cap h0.max h0.short hi.at_ hi.len hi.max (hT.below hW));have hlen:=bodyS_len ws fu s m.at';rw [h.len] at hlen;have hmx:=h.max;have hbad:=hide (bodyS_bad (ws:=ws) (fu:=fu) (s:=s) (k:=m.at'));unfold mntB;unfold bookv msv;unfold bookv at HI;clear h h0 hT;have f0:=zaa bb.out.2.1 0 _ rfl;have f1:=zaa bb.out.2.1 1 _ rfl;have y3:=zaa bb.out.2.2 3 _ rfl;generalize bodyS ws fu s m.at' =R at *;obtain ⟨Q,hQ⟩: ∃Q:Bool,Q= (decide (R.2=0)&&(decide (inE ss R.1=0)&&(decide (inN ss R.1≠0)&&decide (inN ss R.1=m.im)))):=⟨_,rfl⟩;rw [←hQ];replace hQ:=hide hQ;go_enter Tryz.func314,Tryz.ntmps314;go_wp2_with fail;generalize ((w.alloc (.cells #[.slice ab nb cb] 24)).alloc (.cells #[.slice a n c,.int .i64 fu] 28)).alloc (.cells (aM m am nm cm) 99)=W at *;refine(zae HB _ hw0).mono ?_;rintro e w1 ⟨⟨a1,n1,c1,rfl,hi1,hn1,hc1,hf1⟩,hb⟩;replace hf1:=zal.mono hf1 hw0.size;have hi1' :BI w1 a1 n1 R.1:=⟨hi1,hn1,by rw [←hn1];exact Nat.le_trans hlen hmx⟩;have B0:=hide (zab bb.out.1 hb);have B2:=hide (zab bb.out.2.2 hb);replace hw0:=bT hw0 hb;clear hb HB f0 f1 y3 bb hn1 hi1
  by_cases z1:R.2=0
  rotate_left
  {
  have hq: (R.2 !=0)=true:=by simpa using z1
  have HE:=hide (hbad.out z1);have hd:Q=false:=by rw [hQ.out];simp [z1]
  subst hd;clear z1 hQ;go_wp2_with fail;go_ret2;rw [HE.out];exact⟨⟨none,0,0,rfl,⟨.inl rfl,rfl,by decide⟩,zal.nil _⟩,hw0⟩
  }
  have hq: (R.2 !=0)=false:=by simpa using z1
  have hd:Hid (Q= (decide (inE ss R.1=0)&&(decide (inN ss R.1≠0)&&decide (inN ss R.1=m.im)))):=by show _=_;rw [hQ.out];simp [z1]
  rw [z1];clear z1 hq hbad hQ;have k0:=zaa B0.out 0 _ rfl;go_wp2_with fail;refine(zae HI _ a1 n1 c1 R.1 hw0 hi1').mono ?_;rintro e w2 ⟨rfl,hb⟩;have hi2:=hide (hi1'.below hb);have B2' :=hide (zab B2.out hb);replace hw0:=bT hw0 hb;clear hb k0 HI B0 B2 hi1';have y4:=zaa B2'.out 4 _ rfl;generalize inE ss R.1=qe at *;generalize inN ss R.1=qn at *;have hfin: ∀(b:Bool) (nq:Nat),b=Q→MntAns w R.1 Q (.returned (.tuple #[.slice a1 n1 c1,.bool b])) (w2.drewN nq):=by
    rintro b nq rfl;exact⟨⟨a1,n1,c1,rfl,hi2.out.below (below_drewN (Below.refl _ _) nq),hf1⟩,below_drewN hw0 nq⟩
  have HF:=hide hfin
  clear hfin
  by_cases e1:qe=0
  rotate_left
  {
  have d1: (qe==0)=false:=by simpa using e1
  have HX:=hide (show false=Q by rw [hd.out];simp [e1]);clear e1;go_wp2_with fail;go_quiet (fail);go_wp2_with fail;go_ret2;exact HF.out _ _ HX.out
  }
  have d1: (qe==0)=true:=by simpa using e1
  by_cases e2:qn=0
  {
  have d2: (qn !=0)=false:=by simpa using e2
  have HX:=hide (show false=Q by rw [hd.out];simp [e2]);clear e1 e2;go_wp2_with fail;go_quiet (fail);go_wp2_with fail;go_ret2;exact HF.out _ _ HX.out
  }
  have d2: (qn !=0)=true:=by simpa using e2
  have HX:=hide (show(qn==m.im)=Q by rw [hd.out];simp [e1,e2];rfl);clear e1 e2;cases g: (qn==m.im)
  {
  rw [g] at HX;go_wp2_with fail;go_quiet (fail);go_wp2_with fail;go_ret2;exact HF.out _ _ HX.out
  }
  {
  rw [g] at HX;go_wp2_with fail;go_quiet (fail);go_wp2_with fail;go_ret2;exact HF.out _ _ HX.out
  }
theorem zei (m:Ms) (a:Option Addr) (n c:Nat) (y:Bool) (b:Nat) (w:World) (h:w.heap[b]?=some (.cells (aM m a n c) 99 (0,0))):
    Calls Tryz.prog 312 #[.bool y,.pointer (some ⟨b,0,none⟩)] w (OneM w (voteM m y)):=by
  have y1:=zaa h 1 _ rfl;have y2:=zaa h 2 _ rfl;clear h;go_enter Tryz.func312,Tryz.ntmps312;go_wp2_with fail;go_ret;exact⟨⟨_,rfl,zg1 (m:=voteM m y) rfl (heap_alloc_last _ _),Nat.le_refl _⟩,bA1⟩
theorem whole_any (m:Ms) (am:Option Addr) (nm cm:Nat) (ai:Option Addr) (ni ci:Nat) (img:List Int) (name er:Int) (bm bw:Nat) (aw:Option Addr) (nw cw:Nat) (words:List Int) (w:World)
    (hm:w.heap[bm]?=some (.cells (aM m am nm cm) 99 (0,0))) (hc:w.cell? ⟨bw,0,none⟩=some (.slice aw nw cw)) (hi:BI w ai ni img) (hw:BI w aw nw words):
    Calls Tryz.prog 315 #[.slice ai ni ci,.int .i64 name,.int .i64 er,.pointer (some ⟨bm,0,none⟩),.pointer (some ⟨bw,0,none⟩)] w fun e w' =>e=.returned (.bool (decide (er=0)&&(decide (name=m.im)&&eqL img words)))∧Below w.heap.size w w' :=by
  have HQ:=hide (zfj ai aw ni nw ci cw img words (eqL img words) w hi.at_ hw.at_ hi.len hw.len rfl hi.max hw.max);have y4:=zaa hm 4 _ rfl;clear hm hi hw
  by_cases z1:er=0
  rotate_left
  {
  have HE:=hide (show(decide (er=0)&&(decide (name=m.im)&&eqL img words))=false by simp [z1]);have d1: (er==0)=false:=by simpa using z1
  clear z1;go_enter Tryz.func315,Tryz.ntmps315;go_wp2_with fail;go_ret;exact⟨zan HE.out.symm,Below.refl _ _⟩
  }
  have d1: (er==0)=true:=by simpa using z1
  by_cases z2:name=m.im
  rotate_left
  {
  have HE:=hide (show(decide (er=0)&&(decide (name=m.im)&&eqL img words))=false by simp [z2]);have d2: (name==m.im)=false:=by simpa using z2
  clear z1 z2;go_enter Tryz.func315,Tryz.ntmps315;go_wp2_with fail;go_ret;exact⟨zan HE.out.symm,Below.refl _ _⟩
  }
  have d2: (name==m.im)=true:=by simpa using z2
  have HE:=hide (show(decide (er=0)&&(decide (name=m.im)&&eqL img words))=eqL img words by simp [z1,z2]);clear z1 z2;generalize eqL img words=q at *;go_enter Tryz.func315,Tryz.ntmps315;go_wp2_with fail;refine(zae HQ).mono ?_;rintro e w' ⟨rfl,k,rfl⟩;go_wp2_with fail;go_ret;exact⟨zan HE.out.symm,below_drewN (Below.refl _ _) k⟩
end
section
open Go.RowKit
attribute [local go_sem ↓] Go.wp_at_zero Go.wp_at_succ
structure KpI (w0 W:World) (K X:Nat) (s:Gs) (v:Value) (rs:List (List Int)):Prop where
  bK:W.heap[K]?=some (.cells #[v] 75 (0,0))
  bX:W.heap[X]?=some (gsO s)
  mak:zbp w0 W v rs
theorem row_ne {base n:Nat} {v:Value} {vs cs:List Value} {cs' :Array Value} {t t' :TypeId} (h:w.ownsRow base t 1 v n vs) (hB:w.heap[B]?=some (.cells cs' t' (0,0))) (hne:t' ≠t) (_:cs= []):some B≠v.ownBlock:=by
  obtain ⟨_,⟨hv,_⟩| ⟨g,cap,cur,hv,hg,hh,_⟩⟩:=h
  { rw [hv];intro e;cases e }
  {
  rw [hv];intro e;have:B=g:=by simpa [Value.ownBlock] using e
  subst this;rw [hB] at hh
  simp at hh
  exact hne hh.2
  }
theorem zbp.setK {w0:World} {K:Nat} {v v' u:Value} {rs:List (List Int)} (h:zbp w0 W v rs) (hK:W.heap[K]?=some (.cells #[u] 75 (0,0))) (hK0:w0.heap.size≤K):zbp w0 (W.setCell ⟨K,0,none⟩ v') v rs:=by
  have hT:W.grownBy (W.setCell ⟨K,0,none⟩ v') (some K):=zac (World.grownBy.refl _ _) 0 v';obtain ⟨vs,hown,hr⟩:=h.own;refine⟨⟨vs,hown.kept hT ?_,fun i r hi=> ?_⟩,zam h.below hT hK0 h.below.size⟩
  {
  right
  exact fun e=>row_ne (cs:= []) hown hK (by decide) rfl e.symm
  }
  {
  obtain ⟨g,c,h1,⟨cur,h2,h3⟩,h4⟩:=hr i r hi;refine⟨g,c,h1,⟨cur,zar h2 hT ?_,h3⟩,h4⟩;intro e;subst e;rw [hK] at h2
  simp at h2
  }
theorem zo7 (w0:World) (K X:Nat) (s:Gs) (v:Value) (rs:List (List Int)) (so:Bool) (kind:Int) (W:World) (h:KpI w0 W K X s v rs) (hK:w0.heap.size≤K) (hl:rs.length≤10):
    Calls Tryz.prog 296 #[.bool so,.int .i64 kind,.pointer (some ⟨K,0,none⟩),.pointer (some ⟨X,0,none⟩)] W fun e w' =>e=.returned (.tuple #[])∧∃v',KpI w0 w' K X s v' (rs++if so=true then [[kind,s.n]] else []):=by
  obtain ⟨irr,hir,rz0,rz1,rz2⟩:=info_parts zgb;cases so
  {
  have H0:=hide h;clear h;go_enter Tryz.func296,Tryz.ntmps296;go_wp2_with fail
  first|go_end0|refine bodyPost_ret (results_none rfl _ _ _) rfl ?_
  exact⟨rfl,v,by first|exact H0.out|simpa using H0.out⟩
  }
  {
  have bX:=hide h.bX;unfold gsO at bX;have bK:=hide h.bK;obtain ⟨vs,hown,hr⟩:=h.mak.own;have hbe:=h.mak.below;have hbB:=zaf (zaf (Below.refl W.heap.size W) (.cells #[.int .i64 kind,.int .i64 s.n] 3)) (.cells #[.slice (some ⟨W.heap.size,0,none⟩) 2 2] 208);have hrow:=zba hown hbB;have hnews:=zg5 (W.alloc (.cells #[.int .i64 kind,.int .i64 s.n] 3)) (.slice (some ⟨W.heap.size,0,none⟩) 2 2) 208;rw [World.size_alloc] at hnews;have bR:=hide (zai (heap_alloc_last W (.cells #[.int .i64 kind,.int .i64 s.n] 3)) (.cells #[.slice (some ⟨W.heap.size,0,none⟩) 2 2] 208));have x0:=zaa bX.out 0 _ rfl;have k0:=zaa bK.out 0 _ rfl;have hW0:=hbe.size;have HO:=hide hown;have HR:=hide hr;clear hown hr h;go_enter Tryz.func296,Tryz.ntmps296
  go_wp2_with (at_builtin;refine wpList_append_lies _ rfl _ _ 75 rfl w0.heap.size 208 irr _ 1 24 Tryz.underlying75 hir rz0 rz1 rz2 rfl (by omega) v rs.length vs rfl hrow ⟨W.heap.size+1,0,none⟩ 1 1 [.slice (some ⟨W.heap.size,0,none⟩) 2 2] rfl rfl hnews (zkz _ _ _) (by omega) (by unfold maxLen;omega) (by omega) (by simp;omega) _ rfl ?_)
  intro g cap w5 hown5 hgr hat hlt;have hkK:w5.heap[K]?=some (.cells #[v] 75 (0,0)):=by
    have h1:=zab bK.out hbB;rw [hgr.block K (zak h1) (row_ne (cs:= []) hrow h1 (by decide) rfl)];exact h1
  have hkX:w5.heap[X]?=some (.cells (aS s) 72 (0,0)):=by
    have h1:=zab bX.out hbB;rw [hgr.block X (zak h1) (row_ne (cs:= []) hrow h1 (by decide) rfl)];exact h1
  have hmk:=hide (zbp.step (r:= [kind,s.n]) hbe HO.out HR.out hbB ⟨_,bR.out,rfl⟩ (Nat.le_refl 2) (by decide) hown5 hgr);have HkK:=hide hkK;have HkX:=hide hkX;have k5:=zaa hkK 0 _ rfl;have f5:=zad hkK 0;clear hown5 hgr hat k0 x0 hrow hnews;go_wp2_with fail
  first|go_end0|refine bodyPost_ret (results_none rfl _ _ _) rfl ?_
  refine⟨rfl,_,heap_setCell_same _ _ _ _ _ _ HkK.out, ?_,hmk.out.setK HkK.out hK⟩;have hT:w5.grownBy (w5.setCell ⟨K,0,none⟩ (.slice (some ⟨g,0,none⟩) (rs.length+1) cap)) (some K):=zac (World.grownBy.refl _ _) 0 _;refine zar HkX.out hT ?_;intro e;subst e;have:=HkX.out;rw [HkK.out] at this
  simp at this
  }
theorem kepG_0 {s:Gs} (h:s.n=0):kepG s= []:=by unfold kepG;rw [if_pos h]
theorem kepG_1 {s:Gs} (h:s.n≠0):kepG s= (([[1,s.n,s.v]]++if s.co=true then [[2,s.n]] else [])++if s.ab=true then [[3,s.n]] else [])++if s.en=true then [[4,s.n]] else []:=by
  unfold kepG;rw [if_neg h]
  simp
def KeptA (w:World) (rs:List (List Int)) (e:Ending) (w' :World):Prop:=(∃a c,e=.returned (.slice a rs.length c)∧rs.length≤c∧c≤maxLen∧zck w' a rs)∧Below w.heap.size w w'
theorem kept_any (s:Gs) (w:World):Calls Tryz.prog 276 #[gsv s] w (KeptA w (kepG s)):=by
  unfold gsv
  by_cases z:s.n=0
  {
  have HE:=hide (kepG_0 z);have d: (s.n==0)=true:=by simpa using z
  clear z;go_enter Tryz.func276,Tryz.ntmps276;go_wp2_with fail;go_ret;rw [HE.out];exact⟨⟨none,0,rfl,Nat.le_refl _,by decide,.inl rfl⟩,bA1⟩
  }
  {
  have HE:=hide (kepG_1 z);have d: (s.n==0)=false:=by simpa using z
  have hw4:Below w.heap.size w ((((w.alloc (.cells (aS s) 72)).alloc (.cells #[.int .i64 1,.int .i64 s.n,.int .i64 s.v] 3)).alloc (.cells #[.slice (some ⟨w.heap.size+1,0,none⟩) 3 3] 208)).alloc (.cells #[.slice (some ⟨w.heap.size+1+1,0,none⟩) 1 1] 75)):=((bA2).alloc (by simp;omega) _).alloc (by simp;omega) _;have b0:Hid (((((w.alloc (.cells (aS s) 72)).alloc (.cells #[.int .i64 1,.int .i64 s.n,.int .i64 s.v] 3)).alloc (.cells #[.slice (some ⟨w.heap.size+1,0,none⟩) 3 3] 208)).alloc (.cells #[.slice (some ⟨w.heap.size+1+1,0,none⟩) 1 1] 75)).heap[w.heap.size]?=some (gsO s)):=zai bk3.1 _;have b1:Hid (((((w.alloc (.cells (aS s) 72)).alloc (.cells #[.int .i64 1,.int .i64 s.n,.int .i64 s.v] 3)).alloc (.cells #[.slice (some ⟨w.heap.size+1,0,none⟩) 3 3] 208)).alloc (.cells #[.slice (some ⟨w.heap.size+1+1,0,none⟩) 1 1] 75)).heap[w.heap.size+1]?=some (.cells #[.int .i64 1,.int .i64 s.n,.int .i64 s.v] 3 (0,0))):=zai bk3.2.1 _;have b2:Hid (((((w.alloc (.cells (aS s) 72)).alloc (.cells #[.int .i64 1,.int .i64 s.n,.int .i64 s.v] 3)).alloc (.cells #[.slice (some ⟨w.heap.size+1,0,none⟩) 3 3] 208)).alloc (.cells #[.slice (some ⟨w.heap.size+1+1,0,none⟩) 1 1] 75)).heap[w.heap.size+1+1]?=some (.cells #[.slice (some ⟨w.heap.size+1,0,none⟩) 3 3] 208 (0,0))):=zai bk3.2.2 _;have b3:Hid (((((w.alloc (.cells (aS s) 72)).alloc (.cells #[.int .i64 1,.int .i64 s.n,.int .i64 s.v] 3)).alloc (.cells #[.slice (some ⟨w.heap.size+1,0,none⟩) 3 3] 208)).alloc (.cells #[.slice (some ⟨w.heap.size+1+1,0,none⟩) 1 1] 75)).heap[w.heap.size+1+1+1]?=some (.cells #[.slice (some ⟨w.heap.size+1+1,0,none⟩) 1 1] 75 (0,0))):=zj3 _ _ _ _ _;have hk0:Hid (KpI w ((((w.alloc (.cells (aS s) 72)).alloc (.cells #[.int .i64 1,.int .i64 s.n,.int .i64 s.v] 3)).alloc (.cells #[.slice (some ⟨w.heap.size+1,0,none⟩) 3 3] 208)).alloc (.cells #[.slice (some ⟨w.heap.size+1+1,0,none⟩) 1 1] 75)) (w.heap.size+1+1+1) w.heap.size s (.slice (some ⟨w.heap.size+1+1,0,none⟩) 1 1) [[1,s.n,s.v]]):=by
    refine⟨b3.out,b0.out,⟨⟨[.slice (some ⟨w.heap.size+1,0,none⟩) 3 3],⟨rfl,.inr ⟨_,1,_,rfl,by omega,b2.out,Nat.le_refl _,by decide,rfl,rfl⟩⟩,fun i r hi=> ?_⟩,hw4⟩⟩
    match i with
    |0=>simp at hi;subst hi;exact⟨_,3,rfl,⟨_,b1.out,rfl⟩,Nat.le_refl _,by decide⟩
    |i+1=>simp at hi
  have HAd:=hide (fun v rs so kind W h hl=>zo7 w (w.heap.size+1+1+1) w.heap.size s v rs so kind W h (by omega) hl);clear z b1 b2;have x2: ((((w.alloc (.cells (aS s) 72)).alloc (.cells #[.int .i64 1,.int .i64 s.n,.int .i64 s.v] 3)).alloc (.cells #[.slice (some ⟨w.heap.size+1,0,none⟩) 3 3] 208)).alloc (.cells #[.slice (some ⟨w.heap.size+1+1,0,none⟩) 1 1] 75)).cell? ⟨w.heap.size,2,none⟩=some (.bool s.co):=by have:=b0.out;unfold gsO at this;exact zaa this 2 _ rfl
  go_enter Tryz.func276,Tryz.ntmps276;go_wp2_with fail;generalize ((((w.alloc (.cells (aS s) 72)).alloc (.cells #[.int .i64 1,.int .i64 s.n,.int .i64 s.v] 3)).alloc (.cells #[.slice (some ⟨w.heap.size+1,0,none⟩) 3 3] 208)).alloc (.cells #[.slice (some ⟨w.heap.size+1+1,0,none⟩) 1 1] 75))=W at *;refine(zae HAd _ _ _ _ _ hk0.out (by simp)).mono ?_;rintro e w1 ⟨rfl,v1,hk1⟩;have b0' :=hide hk1.bX;unfold gsO at b0';have K1:=hide hk1;clear x2 b0 b3 hk0 hk1 hw4;have x3:=zaa b0'.out 3 _ rfl;go_wp2_with fail;refine(zae HAd _ _ _ _ _ K1.out (by cases s.co<;>simp)).mono ?_;rintro e w2 ⟨rfl,v2,hk2⟩;have b0'' :=hide hk2.bX;unfold gsO at b0'';have K2:=hide hk2;clear x3 b0' K1 hk2;have x4:=zaa b0''.out 4 _ rfl;go_wp2_with fail;refine(zae HAd _ _ _ _ _ K2.out (by cases s.co<;>cases s.ab<;>simp)).mono ?_;rintro e w3 ⟨rfl,v3,hk3⟩;rw [←HE.out] at hk3;have K3:=hide hk3;have y0:=zaa hk3.bK 0 _ rfl;obtain ⟨a,c,rfl,hc1,hc2,hrc⟩:=hk3.mak.isRecs;have HRc:=hide hrc;clear x4 b0'' K2 hk3 hrc HAd;go_wp2_with fail;go_ret;exact⟨⟨a,c,rfl,hc1,hc2,HRc.out⟩,K3.out.mak.below⟩
  }
end
section
open Go.RowKit
attribute [local go_sem ↓] Go.wp_at_zero Go.wp_at_succ
theorem dnG_7 {r:List Int×Int×Int} (h:r.2.2=7):dnG g r= (⟨r.1,r.2.1,false,g.t,zbj g.vo,zbj g.di⟩,false):=by unfold dnG;rw [if_pos h]
theorem dnG_0 {r:List Int×Int×Int} (h:r.2.2=0):dnG g r= (⟨r.1,r.2.1,g.up,g.t,g.vo,g.di⟩,true):=by unfold dnG;rw [if_neg (by rw [h];decide),if_pos h]
theorem dnG_e {r:List Int×Int×Int} (h7:r.2.2≠7) (h0:r.2.2≠0):dnG g r= (g,false):=by unfold dnG;rw [if_neg h7,if_neg h0]
theorem zk1 {b:Nat} {x y x' y' :Value} {t:TypeId} (h:W.heap[b]?=some (.cells #[x,y] t (0,0))): ((W.setCell ⟨b,0,none⟩ x').setCell ⟨b,1,none⟩ y').heap[b]?=some (.cells #[x',y'] t (0,0)):=by
  simp only [World.setCell,Array.getElem?_modify]
  simp [h]
theorem appS_len (ws:List Int) (f:Int) (r:List Int) (keep:List (List Int)): (appS ws f r keep).1.length≤ws.length:=by
  unfold appS
  split
  { simp }
  { exact zi4 _ _ _ }
theorem GOwn.below {w' :World} (h:GOwn w F m g bv bd) (hb:Below w.heap.size w w'):GOwn w' F m g bv bd:=
  ⟨h.ws.below hb,h.ks.below hb,h.av,h.ad,h.vo.below hb,h.di.below hb,h.nv,h.nd,h.fv,h.fd,h.ne,h.wv,h.wd,h.kv,h.kd,h.fa,h.fk⟩
theorem GBox.below {w' :World} (h:GBox w F B m g bv bd) (hb:Below w.heap.size w w'):GBox w' F B m g bv bd:=
  ⟨zab h.box hb,h.own.below hb,h.fB,h.nv,h.nd,h.oa,h.ok⟩
theorem gt_set2 {f:Int} {n c:Nat} (h:W.heap[B]?=some (gtO g m)):
    ((W.setCell ⟨B,0,none⟩ (.slice a n c)).setCell ⟨B,1,none⟩ (.int .i64 f)).heap[B]?=some (gtO ⟨ws,f,g.up,g.t,g.vo,g.di⟩ ⟨a,n,c,m.ak,m.nk,m.ck,m.av,m.nv,m.cv,m.ad,m.nd,m.cd⟩):=by
  unfold gtO at *;simp only [World.setCell,Array.getElem?_modify]
  simp [h]
theorem gt_set3 {f:Int} {n c:Nat} {up:Bool} (h:W.heap[B]?=some (gtO g m)):
    (((W.setCell ⟨B,0,none⟩ (.slice a n c)).setCell ⟨B,1,none⟩ (.int .i64 f)).setCell ⟨B,2,none⟩ (.bool up)).heap[B]?=some (gtO ⟨ws,f,up,g.t,g.vo,g.di⟩ ⟨a,n,c,m.ak,m.nk,m.ck,m.av,m.nv,m.cv,m.ad,m.nd,m.cd⟩):=by
  unfold gtO at *;simp only [World.setCell,Array.getElem?_modify]
  simp [h]
theorem GBox.flash {wc W' :World} {f:Int} {up:Bool} {n c:Nat} (h:GBox w F B m g bv bd) (hb:Below w.heap.size w wc) (hi:zag wc a ws) (hn:ws.length=n) (hc:n≤c) (hm:n≤maxLen) (hf:zal w.heap.size a)
    (hg:wc.grownBy W' (some B)) (hbox:W'.heap[B]?=some (gtO ⟨ws,f,up,g.t,g.vo,g.di⟩ ⟨a,n,c,m.ak,m.nk,m.ck,m.av,m.nv,m.cv,m.ad,m.nd,m.cd⟩)):GBox W' F B ⟨a,n,c,m.ak,m.nk,m.ck,m.av,m.nv,m.cv,m.ad,m.nd,m.cd⟩ ⟨ws,f,up,g.t,g.vo,g.di⟩ bv bd:=by
  have o:=h.own;have hB:=zak h.box;exact⟨hbox,⟨⟨zax hi hg (za6 hf hB),hn,hc,hm⟩,(o.ks.below hb).turns hg h.ok,o.av,o.ad,(o.vo.below hb).turns hg (Ne.symm h.nv),(o.di.below hb).turns hg (Ne.symm h.nd),o.nv,o.nd,o.fv,o.fd,o.ne,za6 hf o.vo.lt,za6 hf o.di.lt,o.kv,o.kd,fun ad e=>Nat.le_trans h.fB (Nat.le_trans (Nat.le_of_lt hB) (hf ad e)),o.fk⟩,h.fB,h.nv,h.nd,za6 hf hB,h.ok⟩
theorem noteS {W' :World} {s:Gs} (hB:W.heap[B]?=some (gtO g m)) (hX:W.heap[w.heap.size]?=some (.cells (aS s) 72 (0,0))) (h:Below W.heap.size W W'):
    W'.cell? ⟨B,0,none⟩=some (.slice m.a m.n m.c)∧W'.cell? ⟨B,1,none⟩=some (.int .i64 g.fu)∧W'.cell? ⟨w.heap.size,0,none⟩=some (.int .i64 s.n)∧W'.cell? ⟨w.heap.size,1,none⟩=some (.int .i64 s.v)∧W'.cell? ⟨w.heap.size,2,none⟩=some (.bool s.co)∧W'.cell? ⟨w.heap.size,3,none⟩=some (.bool s.ab)∧W'.cell? ⟨w.heap.size,4,none⟩=some (.bool s.en)∧Below W.heap.size W W' :=by
  have b:=zab hB h;have x:=zab hX h;unfold gtO at b;exact⟨zaa b 0 _ rfl,zaa b 1 _ rfl,zaa x 0 _ rfl,zaa x 1 _ rfl,zaa x 2 _ rfl,zaa x 3 _ rfl,zaa x 4 _ rfl,h⟩
def NoteR (W:World) (R:List Int×Int×Int) (v7 v8:Value) (wc:World):Prop:=
  ∃G a5 n5 c5,v7=.pointer (some ⟨G,0,none⟩)∧v8=.int .i64 R.2.2∧wc.heap[G]?=some (.cells #[.slice a5 n5 c5,.int .i64 R.2.1] 28 (0,0))∧zag wc a5 R.1∧R.1.length=n5∧n5≤c5∧zal W.heap.size a5∧Below W.heap.size W wc∧W.heap.size≤G
theorem zgr (F B:Nat) (m:GA) (g:Gt) (bv bd:Nat) (s:Gs) (ar:Option Addr) (nr cr:Nat) (r:List Int) (w:World) (h:GBox w F B m g bv bd) (hr:BI w ar nr r):
    Calls Tryz.prog 241 #[.pointer (some ⟨B,0,none⟩),gsv s,.slice ar nr cr] w fun e w' =>e=.returned (.bool (noteG g s r).2)∧(∃m',GBox w' F B m' (noteG g s r).1 bv bd)∧G3 w w' B bv bd:=by
  have hw:Below w.heap.size w (w.alloc (.cells (aS s) 72)):=bA1;have bX:=hide (heap_alloc_last w (.cells (aS s) 72));have bB:=hide (zab h.box hw);have HK:=hide (fun W=>kept_any s W);unfold gsv at HK;have HA:=hide (fun ak nk ck (W:World) (hW:Below w.heap.size w W) (hk:zck W ak (kepG s)) (hnk: (kepG s).length=nk) (hmk:nk≤maxLen)=>zjp m.a m.n m.c g.ws g.fu ar nr cr r ak nk ck (kepG s) W (h.own.ws.below hW).at_ h.own.ws.len h.own.ws.cap h.own.ws.max (hr.below hW).at_ hr.len hr.max hk hnk hmk);have HP:=hide h;have hBw:=zak h.box;obtain ⟨R,hR⟩: ∃R,R=appS g.ws g.fu r (kepG s):=⟨_,rfl⟩;rw [←hR] at HA;have HN:Hid (noteG g s r=dnG g R):=by rw [hR];exact hide rfl
  have hsize:w.heap.size=w.heap.size:=rfl;have HLe:Hid (R.1.length≤g.ws.length):=by rw [hR];exact appS_len _ _ _ _
  clear h hr hR hsize;unfold gsv;go_enter Tryz.func241,Tryz.ntmps241;go_upto_region 1 with fail
  have hXs:w.heap.size< (w.alloc (.cells (aS s) 72)).heap.size:=by simp
  generalize (w.alloc (.cells (aS s) 72))=W at *
  go_cut [7,8] (fun v7 v8 wc=>NoteR W R v7 v8 wc)
  case first=>
    refine wp_region_held_drew (S:=fun W' =>W'.cell? ⟨B,0,none⟩=some (.slice m.a m.n m.c)∧W'.cell? ⟨B,1,none⟩=some (.int .i64 g.fu)∧W'.cell? ⟨w.heap.size,0,none⟩=some (.int .i64 s.n)∧W'.cell? ⟨w.heap.size,1,none⟩=some (.int .i64 s.v)∧W'.cell? ⟨w.heap.size,2,none⟩=some (.bool s.co)∧W'.cell? ⟨w.heap.size,3,none⟩=some (.bool s.ab)∧W'.cell? ⟨w.heap.size,4,none⟩=some (.bool s.en)∧Below W.heap.size W W') (by kernel_rfl) (noteS bB.out bX.out (Below.refl _ _).drew) ?_;intro hHeld;refine Htk (i:=0) ?_
    try simp only [sq]
    refine Htk (i:=1) ?_
    try simp only [sq]
    refine Htk (i:=2) ?_
    try simp only [sq]
    refine Htk (i:=3) ?_
    try simp only [sq]
    refine Htk (i:=4) ?_
    try simp only [sq]
    refine Htk (i:=5) ?_
    try simp only [sq]
    refine wpAnyH_ready (rs:= [6,11]) (by kernel_rfl) (by simp) ?_;refine AllReadyH.cons (by rfl) (fun K hK=> ?_) (AllReadyH.cons (by rfl) (fun K hK=> ?_) AllReadyH.nil)
    {
    go_simp;refine(zae HK _).mono ?_;rintro e wk ⟨⟨ak,ck,rfl,hk1,hk2,hrk⟩,hbk⟩;have hkk:=((Below.refl W.heap.size W).drew).trans (hbk.mono ((Below.refl W.heap.size W).drew).size);go_wp2_with fail;refine hK.out _ _ (noteS bB.out bX.out hkk) (fun hHeld=> ?_);clear hK K
    try simp only [sq]
    refine wpAnyH_ready (rs:= [7,11]) (by kernel_rfl) (by simp) ?_;refine AllReadyH.cons (by rfl) (fun K hK=> ?_) (AllReadyH.cons (by rfl) (fun K hK=> ?_) AllReadyH.nil)
    {
    go_simp;refine(zae HA ak _ ck _ (hw.trans ((hkk).mono hw.size)) hrk rfl (Nat.le_trans hk1 hk2)).mono ?_;rintro e w5 ⟨⟨a5,n5,c5,rfl,hi5,hn5,hc5,hf5⟩,hb5⟩;have hk5:=(hkk).trans (hb5.mono (hkk).size);go_wp2_with fail;refine hK.out _ _ (noteS bB.out bX.out hk5) (fun hHeld=> ?_);clear hK K
    try simp only [sq]
    refine Htk (i:=8) ?_
    try simp only [sq]
    refine Htk (i:=9) ?_
    try simp only [sq]
    refine Htk (i:=10) ?_
    try simp only [sq]
    refine wpAnyH_ready (rs:= [11]) (by kernel_rfl) (by simp) ?_;refine AllReadyH.cons (by rfl) (fun K hK=> ?_) AllReadyH.nil;go_simp;refine hK.out _ _ (noteS bB.out bX.out (zaf hk5 _)) (fun hHeld=> ?_);clear hK K
    try simp only [sq]
    refine wpAnyH_ready (rs:= [12]) (by kernel_rfl) (by simp) ?_;refine AllReadyH.cons (by rfl) (fun K hK=> ?_) AllReadyH.nil;go_simp;refine hK.out _ _ (noteS bB.out bX.out (zaf hk5 _)) (fun hHeld=> ?_);clear hK K
    try simp only [sq]
    refine Htk (i:=13) ?_
    try simp only [sq]
    refine wpAnyH_done (by kernel_rfl) ?_ _;go_wp2_with fail
    go_meet
    case rel=>exact⟨w5.heap.size,a5,n5,c5,rfl,rfl,heap_alloc_last w5 (.cells #[.slice a5 n5 c5,.int .i64 R.2.1] 28),hi5.alloc _,hn5,hc5,fun ad e=>Nat.le_trans hkk.size (hf5 ad e),zaf hk5 _,hk5.size⟩
    }
    {
    go_simp;refine hK.out _ _ (noteS bB.out bX.out (zaf hkk _)) (fun hHeld=> ?_);clear hK K
    try simp only [sq]
    refine wpAnyH_ready (rs:= [7]) (by kernel_rfl) (by simp) ?_;refine AllReadyH.cons (by rfl) (fun K hK=> ?_) AllReadyH.nil;go_simp;have hcur:=zaf hkk (.cells #[.slice none 0 0,.int .i64 0] 28);refine(zae HA ak _ ck _ (hw.trans ((hcur).mono hw.size)) (hrk.below (zaf (Below.refl _ _) _)) rfl (Nat.le_trans hk1 hk2)).mono ?_;rintro e w5 ⟨⟨a5,n5,c5,rfl,hi5,hn5,hc5,hf5⟩,hb5⟩;have hk5:=(hcur).trans (hb5.mono (hcur).size);go_wp2_with fail;refine hK.out _ _ (noteS bB.out bX.out hk5) (fun hHeld=> ?_);clear hK K
    try simp only [sq]
    have bG:Hid (w5.heap[wk.heap.size]?=some (.cells #[.slice none 0 0,.int .i64 0] 28 (0,0))):=zab (heap_alloc_last wk _) hb5;refine Htk (i:=8) ?_
    try simp only [sq]
    refine Htk (i:=9) ?_
    try simp only [sq]
    refine Htk (i:=10) ?_
    try simp only [sq]
    have q0:=zaa bG.out 0 _ rfl;have q1:=zaa bG.out 1 _ rfl;have f0:=zad bG.out 0;have f1:=zad bG.out 1;have hT:w5.grownBy ((w5.setCell ⟨wk.heap.size,0,none⟩ (.slice a5 n5 c5)).setCell ⟨wk.heap.size,1,none⟩ (.int .i64 R.2.1)) (some wk.heap.size):=zac (zac (World.grownBy.refl _ _) _ _) _ _;have hk6:=zam hk5 hT hkk.size hk5.size;refine wpAnyH_ready (rs:= [12]) (by kernel_rfl) (by simp) ?_;refine AllReadyH.cons (by rfl) (fun K hK=> ?_) AllReadyH.nil;go_simp;refine hK.out _ _ (noteS bB.out bX.out hk6) (fun hHeld=> ?_);clear hK K
    try simp only [sq]
    refine Htk (i:=13) ?_
    try simp only [sq]
    refine wpAnyH_done (by kernel_rfl) ?_ _;go_wp2_with fail
    go_meet
    case rel=>exact⟨wk.heap.size,a5,n5,c5,rfl,rfl,zk1 bG.out,zax hi5 hT (za6 hf5 (by simp)),hn5,hc5,fun ad e=>Nat.le_trans hcur.size (hf5 ad e),hk6,hkk.size⟩
    }
    }
    {
    go_simp;refine hK.out _ _ (noteS bB.out bX.out (zaf (Below.refl W.heap.size W).drew _)) (fun hHeld=> ?_);clear hK K
    try simp only [sq]
    refine wpAnyH_ready (rs:= [6]) (by kernel_rfl) (by simp) ?_;refine AllReadyH.cons (by rfl) (fun K hK=> ?_) AllReadyH.nil;go_simp;have hc0:Below W.heap.size W (W.drew.alloc (.cells #[.slice none 0 0,.int .i64 0] 28)):=zaf (Below.refl W.heap.size W).drew _;refine(zae HK _).mono ?_;rintro e wk ⟨⟨ak,ck,rfl,hk1,hk2,hrk⟩,hbk⟩;have hkk:=(hc0).trans (hbk.mono (hc0).size);go_wp2_with fail;refine hK.out _ _ (noteS bB.out bX.out hkk) (fun hHeld=> ?_);clear hK K
    try simp only [sq]
    have bG0:Hid (wk.heap[W.heap.size]?=some (.cells #[.slice none 0 0,.int .i64 0] 28 (0,0))):=zab (heap_alloc_last W.drew _) hbk;have hcur:=hkk;refine wpAnyH_ready (rs:= [7]) (by kernel_rfl) (by simp) ?_;refine AllReadyH.cons (by rfl) (fun K hK=> ?_) AllReadyH.nil;go_simp;refine(zae HA ak _ ck _ (hw.trans ((hcur).mono hw.size)) hrk rfl (Nat.le_trans hk1 hk2)).mono ?_;rintro e w5 ⟨⟨a5,n5,c5,rfl,hi5,hn5,hc5,hf5⟩,hb5⟩;have hk5:=(hcur).trans (hb5.mono (hcur).size);go_wp2_with fail;refine hK.out _ _ (noteS bB.out bX.out hk5) (fun hHeld=> ?_);clear hK K
    try simp only [sq]
    have bG:Hid (w5.heap[W.heap.size]?=some (.cells #[.slice none 0 0,.int .i64 0] 28 (0,0))):=zab bG0.out hb5;refine Htk (i:=8) ?_
    try simp only [sq]
    refine Htk (i:=9) ?_
    try simp only [sq]
    refine Htk (i:=10) ?_
    try simp only [sq]
    have q0:=zaa bG.out 0 _ rfl;have q1:=zaa bG.out 1 _ rfl;have f0:=zad bG.out 0;have f1:=zad bG.out 1;have hT:w5.grownBy ((w5.setCell ⟨W.heap.size,0,none⟩ (.slice a5 n5 c5)).setCell ⟨W.heap.size,1,none⟩ (.int .i64 R.2.1)) (some W.heap.size):=zac (zac (World.grownBy.refl _ _) _ _) _ _;have hk6:=zam hk5 hT (Nat.le_refl _) hk5.size;refine wpAnyH_ready (rs:= [12]) (by kernel_rfl) (by simp) ?_;refine AllReadyH.cons (by rfl) (fun K hK=> ?_) AllReadyH.nil;go_simp;refine hK.out _ _ (noteS bB.out bX.out hk6) (fun hHeld=> ?_);clear hK K
    try simp only [sq]
    refine Htk (i:=13) ?_
    try simp only [sq]
    refine wpAnyH_done (by kernel_rfl) ?_ _;go_wp2_with fail
    go_meet
    case rel=>exact⟨W.heap.size,a5,n5,c5,rfl,rfl,zk1 bG.out,zax hi5 hT (za6 hf5 (Nat.lt_of_lt_of_le (zak bG0.out) (Nat.le_refl _))),hn5,hc5,fun ad e=>Nat.le_trans hcur.size (hf5 ad e),hk6,(Nat.le_refl _)⟩
    }
  case rest=>
  obtain ⟨G,a5,n5,c5,rfl,rfl,hG,hi5,hn5,hc5,hf5,hbW,hGs⟩:=hcut;obtain ⟨w1,rfl⟩: ∃w1:World,w1=wc:=⟨_,rfl⟩;have hb1:=bT hw hbW;have bB1:=hide (zab bB.out hbW);have BG:=hide hG;have hGB:G≠B:=by omega
  have HF5:Hid (zal w.heap.size a5):=fun ad e=>Nat.le_trans hw.size (hf5 ad e)
  have HI5:=hide hi5;have HN5:=hide hn5;have hmx:n5≤maxLen:=by rw [←hn5];exact Nat.le_trans HLe.out (by rw [HP.out.own.ws.len];exact HP.out.own.ws.max)
  have g0:=zaa hG 0 _ rfl;have g1:=zaa hG 1 _ rfl;unfold gtO at bB1;have x0:=zaa bB1.out 0 _ rfl;have f0:=zad bB1.out 0;have x1:=zaa bB1.out 1 _ rfl;have f1:=zad bB1.out 1;have x2:=zaa bB1.out 2 _ rfl;have f2:=zad bB1.out 2;clear hi5 hn5 hf5 hG hw bX bB hbW hGs HA HK
  by_cases z7:R.2.2=7
  {
  have d0: (R.2.2==0)=false:=by rw [z7];rfl
  have d7: (R.2.2==7)=true:=by simpa using z7
  have HE:Hid (noteG g s r=_):=HN.out.trans (dnG_7 z7);clear z7;have hT:=zac (zac (zac (World.grownBy.refl w1 (some B)) 0 (.slice a5 n5 c5)) 1 (.int .i64 R.2.1)) 2 (.bool false);have NB:=hide (GBox.flash (f:=R.2.1) (up:=false) HP.out hb1 HI5.out HN5.out hc5 hmx HF5.out hT (gt_set3 (g:=g) (m:=m) (by unfold gtO;exact bB1.out)));have HFg:=hide (zgq _ _ _ _ _ _ _ NB.out);go_wp2_with fail;refine(zae HFg).mono ?_;rintro e w2 ⟨rfl,hb2,hg2⟩;have HB2:=hide hb2;have HG2:=hide hg2;clear hb2 hg2 HFg;go_wp2_with fail;go_ret;rw [HE.out];exact⟨rfl,⟨_,HB2.out⟩,((zcw hb1).trans (g3_of hT (.inl rfl))).trans HG2.out⟩
  }
  have d7: (R.2.2==7)=false:=by simpa using z7
  by_cases z0:R.2.2=0
  {
  have d0: (R.2.2==0)=true:=by simpa using z0
  have HE:Hid (noteG g s r=_):=HN.out.trans (dnG_0 z0);clear z0 z7;have hT:=zac (zac (World.grownBy.refl w1 (some B)) 0 (.slice a5 n5 c5)) 1 (.int .i64 R.2.1);have NB:=hide (GBox.flash (f:=R.2.1) (up:=g.up) HP.out hb1 HI5.out HN5.out hc5 hmx HF5.out hT (gt_set2 (g:=g) (m:=m) (by unfold gtO;exact bB1.out)));go_wp2_with fail;go_ret;rw [HE.out];exact⟨rfl,⟨_,NB.out⟩,(zcw hb1).trans (g3_of hT (.inl rfl))⟩
  }
  have d0: (R.2.2==0)=false:=by simpa using z0
  have HE:Hid (noteG g s r=_):=HN.out.trans (dnG_e z7 z0);clear z0 z7;go_wp2_with fail;go_ret;rw [HE.out];exact⟨rfl,⟨_,HP.out.below hb1⟩,zcw hb1⟩
end
section
open Go.RowKit
attribute [local go_sem ↓] Go.wp_at_zero Go.wp_at_succ
def setVo (g:Gt) (u:Int):Gt:=⟨g.ws,g.fu,g.up,g.t,setB g.vo u,g.di⟩
def setDi (g:Gt) (u:Int):Gt:=⟨g.ws,g.fu,g.up,g.t,g.vo,setB g.di u⟩
theorem zgy (l:List Bool) (u:Int): (setB l u).length=l.length:=by unfold setB;simp
theorem OwnB.setB {b:Nat} (h:OwnB w b bs) (u:Nat):OwnB (w.setCell ⟨b,u,none⟩ (.bool true)) b (setB bs u):=by
  have:=h.set u true;unfold Go.Proofs.YthmekfcgdfckaaaGreatDoor.setB
  rwa [Int.toNat_natCast]
theorem GBox.setV (h:GBox w F B m g bv bd) (u:Nat):GBox (w.setCell ⟨bv,u,none⟩ (.bool true)) F B m (setVo g u) bv bd:=by
  have hT:w.grownBy (w.setCell ⟨bv,u,none⟩ (.bool true)) (some bv):=zaw _ _ _ _;have o:=h.own;exact⟨zar h.box hT h.nv,⟨o.ws.turns hT o.wv,o.ks.turns hT o.kv,o.av,o.ad,o.vo.setB u,o.di.turns hT (Ne.symm o.ne),⟨(zgy _ _).trans o.nv.1,o.nv.2⟩,o.nd,o.fv,o.fd,o.ne,o.wv,o.wd,o.kv,o.kd,o.fa,o.fk⟩,h.fB,h.nv,h.nd,h.oa,h.ok⟩
theorem GBox.setD (h:GBox w F B m g bv bd) (u:Nat):GBox (w.setCell ⟨bd,u,none⟩ (.bool true)) F B m (setDi g u) bv bd:=by
  have hT:w.grownBy (w.setCell ⟨bd,u,none⟩ (.bool true)) (some bd):=zaw _ _ _ _;have o:=h.own;exact⟨zar h.box hT h.nd,⟨o.ws.turns hT o.wd,o.ks.turns hT o.kd,o.av,o.ad,o.vo.turns hT o.ne,o.di.setB u,o.nv,⟨(zgy _ _).trans o.nd.1,o.nd.2⟩,o.fv,o.fd,o.ne,o.wv,o.wd,o.kv,o.kd,o.fa,o.fk⟩,h.fB,h.nv,h.nd,h.oa,h.ok⟩
theorem OwnB.cell {b:Nat} (h:OwnB w b bs) (i:Nat) (hi:i<bs.length):w.cell? ⟨b,i,none⟩=some (.bool (bs.getD i false))∧w.frozen? ⟨b,i,none⟩=false:=by
  obtain ⟨cur,h1,h2,h3⟩:=h;refine⟨zaa h1 i _ ?_,zad h1 i⟩;have:=zhw bs i hi;rw [←h2,List.getElem?_take,if_pos hi] at this
  simpa using this
theorem zi7 (w:World) (x y:Int) (t:TypeId):BI (w.alloc (.cells #[.int .i64 x,.int .i64 y] t)) (some ⟨w.heap.size,0,none⟩) 2 [x,y]:=
  ⟨zk9 (zaa (heap_alloc_last _ _) 0 _ rfl) (zaa (heap_alloc_last _ _) 1 _ rfl),rfl,by decide⟩
def ctgV (g:Gt) (s:Gs) (u kind:Int):Gt:=if allB (setB g.vo u)=true then(noteG (setVo g u) s [kind,s.n]).1 else setVo g u
theorem zq1 (F B:Nat) (m:GA) (g:Gt) (bv bd:Nat) (s:Gs) (u:Nat) (kind:Int) (w:World) (h:GBox w F B m g bv bd) (hu:u<m.nv):
    Calls Tryz.prog 277 #[.pointer (some ⟨B,0,none⟩),.slice (some ⟨bv,0,none⟩) m.nv m.cv,.int .i64 u,gsv s,.int .i64 kind] w fun e w' =>e=.returned (.tuple #[])∧(∃m',GBox w' F B m' (ctgV g s u kind) bv bd)∧G3 w w' B bv bd:=by
  have h4:=h.own.nv.2.2.2;have hl:=h.own.nv.1;have hcl:=h.own.vo.cell u (by rw [hl];exact hu);have hT:w.grownBy (w.setCell ⟨bv,u,none⟩ (.bool true)) (some bv):=zaw _ _ _ _;have h1:=GBox.setV h u;have hw:Below (w.setCell ⟨bv,u,none⟩ (.bool true)).heap.size (w.setCell ⟨bv,u,none⟩ (.bool true)) ((w.setCell ⟨bv,u,none⟩ (.bool true)).alloc (.cells (aS s) 72)):=bA1;have h2:=hide (h1.below hw);have hX:Hid (((w.setCell ⟨bv,u,none⟩ (.bool true)).alloc (.cells (aS s) 72)).heap[(w.setCell ⟨bv,u,none⟩ (.bool true)).heap.size]?=some (.cells (aS s) 72 (0,0))):=heap_alloc_last _ _;have G2:=hide ((g3_of (B:=B) (b1:=bv) (b2:=bd) hT (.inr (.inl rfl))).trans (zcw hw));have hltb:=h.own.vo.lt;have HC:=hide (zhb (some ⟨bv,0,none⟩) m.nv m.cv (setB g.vo u) _ ⟨h2.out.own.vo.bools,(zgy _ _).trans hl,h.own.nv.2.1,Nat.le_trans h4 (by decide)⟩ (by omega));have HN:=hide (fun ar nr cr r W (hb:GBox W F B m (setVo g u) bv bd) hr=>zgr F B m (setVo g u) bv bd s ar nr cr r W hb hr);have hsz: (w.setCell ⟨bv,u,none⟩ (.bool true)).heap.size=w.heap.size:=by simp
  rw [hsz] at hX;obtain ⟨c0,c1⟩:=hcl;unfold gsv at *;have huI: (u:Int)< (m.nv:Int):=by omega
  clear h h1 hw hl hT hsz;go_enter Tryz.func277,Tryz.ntmps277;go_wp2_with fail;refine(zae HC).mono ?_;rintro e w1 ⟨rfl,rfl⟩;clear HC;generalize ((w.setCell ⟨bv,u,none⟩ (.bool true)).alloc (.cells (aS s) 72))=W at *;clear c0 c1;cases z:allB (setB g.vo u)
  {
  have HE:Hid (ctgV g s u kind=setVo g u):=by show _=_;unfold ctgV;rw [z];rfl
  go_wp2_with fail
  go_end0
  rw [HE.out];exact⟨rfl,⟨m,h2.out⟩,G2.out⟩
  }
  {
  have HE:Hid (ctgV g s u kind= (noteG (setVo g u) s [kind,s.n]).1):=by show _=_;unfold ctgV;rw [z];rfl
  obtain ⟨s0,s1,s2,s3,s4⟩:=cl5 hX.out;have hb3:=hide ((Below.refl W.heap.size W).alloc (Nat.le_refl _) (.cells #[.int .i64 kind,.int .i64 s.n] 3));have HR:=hide ((zae HN) (some ⟨W.heap.size,0,none⟩) 2 2 [kind,s.n] _ (h2.out.below hb3.out) (zi7 W kind s.n 3));go_wp2_with fail;refine(zae HR).mono ?_;rintro e w2 ⟨rfl,hb2,hg2⟩;have HB2:=hide hb2;have HG2:=hide hg2;clear hb2 hg2 HR HN;go_wp2_with fail
  go_end0
  rw [HE.out];exact⟨rfl,HB2.out,(G2.out.trans (zcw hb3.out)).trans HG2.out⟩
  }
def ctgD (g:Gt) (s:Gs) (u kind:Int):Gt:=if allB (setB g.di u)=true then(noteG (setDi g u) s [kind,s.n]).1 else setDi g u
theorem zrf (F B:Nat) (m:GA) (g:Gt) (bv bd:Nat) (s:Gs) (u:Nat) (kind:Int) (w:World) (h:GBox w F B m g bv bd) (hu:u<m.nd):
    Calls Tryz.prog 277 #[.pointer (some ⟨B,0,none⟩),.slice (some ⟨bd,0,none⟩) m.nd m.cd,.int .i64 u,gsv s,.int .i64 kind] w fun e w' =>e=.returned (.tuple #[])∧(∃m',GBox w' F B m' (ctgD g s u kind) bv bd)∧G3 w w' B bv bd:=by
  have h4:=h.own.nd.2.2.2;have hl:=h.own.nd.1;have hcl:=h.own.di.cell u (by rw [hl];exact hu);have hT:w.grownBy (w.setCell ⟨bd,u,none⟩ (.bool true)) (some bd):=zaw _ _ _ _;have h1:=GBox.setD h u;have hw:Below (w.setCell ⟨bd,u,none⟩ (.bool true)).heap.size (w.setCell ⟨bd,u,none⟩ (.bool true)) ((w.setCell ⟨bd,u,none⟩ (.bool true)).alloc (.cells (aS s) 72)):=bA1;have h2:=hide (h1.below hw);have hX:Hid (((w.setCell ⟨bd,u,none⟩ (.bool true)).alloc (.cells (aS s) 72)).heap[(w.setCell ⟨bd,u,none⟩ (.bool true)).heap.size]?=some (.cells (aS s) 72 (0,0))):=heap_alloc_last _ _;have G2:=hide ((g3_of (B:=B) (b1:=bv) (b2:=bd) hT (.inr (.inr rfl))).trans (zcw hw));have hltb:=h.own.di.lt;have HC:=hide (zhb (some ⟨bd,0,none⟩) m.nd m.cd (setB g.di u) _ ⟨h2.out.own.di.bools,(zgy _ _).trans hl,h.own.nd.2.1,Nat.le_trans h4 (by decide)⟩ (by omega));have HN:=hide (fun ar nr cr r W (hb:GBox W F B m (setDi g u) bv bd) hr=>zgr F B m (setDi g u) bv bd s ar nr cr r W hb hr);have hsz: (w.setCell ⟨bd,u,none⟩ (.bool true)).heap.size=w.heap.size:=by simp
  rw [hsz] at hX;obtain ⟨c0,c1⟩:=hcl;unfold gsv at *;have huI: (u:Int)< (m.nd:Int):=by omega
  clear h h1 hw hl hT hsz;go_enter Tryz.func277,Tryz.ntmps277;go_wp2_with fail;refine(zae HC).mono ?_;rintro e w1 ⟨rfl,rfl⟩;clear HC;generalize ((w.setCell ⟨bd,u,none⟩ (.bool true)).alloc (.cells (aS s) 72))=W at *;clear c0 c1;cases z:allB (setB g.di u)
  {
  have HE:Hid (ctgD g s u kind=setDi g u):=by show _=_;unfold ctgD;rw [z];rfl
  go_wp2_with fail
  go_end0
  rw [HE.out];exact⟨rfl,⟨m,h2.out⟩,G2.out⟩
  }
  {
  have HE:Hid (ctgD g s u kind= (noteG (setDi g u) s [kind,s.n]).1):=by show _=_;unfold ctgD;rw [z];rfl
  obtain ⟨s0,s1,s2,s3,s4⟩:=cl5 hX.out;have hb3:=hide ((Below.refl W.heap.size W).alloc (Nat.le_refl _) (.cells #[.int .i64 kind,.int .i64 s.n] 3));have HR:=hide ((zae HN) (some ⟨W.heap.size,0,none⟩) 2 2 [kind,s.n] _ (h2.out.below hb3.out) (zi7 W kind s.n 3));go_wp2_with fail;refine(zae HR).mono ?_;rintro e w2 ⟨rfl,hb2,hg2⟩;have HB2:=hide hb2;have HG2:=hide hg2;clear hb2 hg2 HR HN;go_wp2_with fail
  go_end0
  rw [HE.out];exact⟨rfl,HB2.out,(G2.out.trans (zcw hb3.out)).trans HG2.out⟩
  }
end
end Go.Proofs.YthmekfcgdfckaaaGreatDoor
