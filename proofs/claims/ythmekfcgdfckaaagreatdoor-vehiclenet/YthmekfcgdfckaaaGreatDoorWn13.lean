/- The contracts of unit.clearing, filling, sealing, noting: they make steps. The contracts of unit.hearCommit, hearAbort. The contract of slices.Clone at ints, for seats without signatures; of unit.twin. Rows of truths of one's own; the contracts of slices.Clone, Index, Contains at bools; what 'clear' does to such a row. -/
import Derived.Test.YthmekfcgdfckaaaGreatDoorWn12
import Derived.BigQuiet
import Derived.Test.YthmekfcgdfckaaaGreatDoorWn0
import Derived.Deep.AppendLies
import Derived.Lib.AppendZeros
import Derived.Maps.AppendAt
import Derived.Test.YthmekfcgdfckaaaGreatDoorWn9
set_option maxRecDepth 1000000
set_option maxHeartbeats 0
namespace Go.Proofs.YthmekfcgdfckaaaGreatDoor
variable {w:World} {b n c:Nat} {a:Option Addr} {xs:List Int} {s:Us} {u:Un} {m:Ms} {bs:List Bool}
section
open Go.RowKit
attribute [local go_sem ↓] Go.wp_at_zero Go.wp_at_succ
def Makes (w:World) (B:Nat) (st:Stu) (e:Ending) (w' :World):Prop:=(∃fn caps,e=.returned (.func (.func fn) #[] caps)∧IsStu w' B (.func (.func fn) #[] caps) st)∧Below w.heap.size w w'
theorem zav {w' :World} {B i:Nat} {v:Value} (h:w.cell? ⟨b,i,none⟩=some v) (hg:w.grownBy w' (some B)) (hne:b≠B):w'.cell? ⟨b,i,none⟩=some v:=hg.cell h (fun e=>hne (by cases e;rfl))
theorem uLast4 (w:World) (o1 o2 o3 o4 o5:Obj): (((((w.alloc o1).alloc o2).alloc o3).alloc o4).alloc o5).heap[w.heap.size+1+1+1+1]?=some o5:=by
  have:=heap_alloc_last ((((w.alloc o1).alloc o2).alloc o3).alloc o4) o5
  rwa [World.size_alloc,World.size_alloc,World.size_alloc,World.size_alloc] at this
theorem zb0 {w' :World} {B:Nat} (h:BI w a n xs) (hg:w.grownBy w' (some B)) (ho:xs= []∨Off B a):BI w' a n xs:=by
  refine⟨?_,h.len,h.max⟩
  rcases ho with e|ho
  { exact .inl e }
  {
  exact zax h.at_ hg ho
  }
theorem zoi (s:Int) (B:Nat) (w:World) (hB:B<w.heap.size):Calls Tryz.prog 310 #[.int .i64 s] w (Makes w B (.clr s)):=by
  have b0:=heap_alloc_last w (.cells #[.int .i64 s] 3);have HB0:=hide (zaa b0 0 _ rfl);clear b0;go_enter Tryz.func310,Tryz.ntmps310;go_wp2;go_ret;exact⟨⟨_,_,rfl,fun w' hg=>⟨_,rfl,zav HB0.out hg (by omega)⟩⟩,bA1⟩
theorem zel (s p:Int) (a2:Option Addr) (n2 c2:Nat) (words:List Int) (B:Nat) (w:World) (hB:B<w.heap.size) (h2:BI w a2 n2 words) (ho:words= []∨Off B a2):Calls Tryz.prog 207 #[.int .i64 s,.int .i64 p,.slice a2 n2 c2] w (Makes w B (.fil s p words)):=by
  have hb:Below w.heap.size w (((w.alloc (.cells #[.int .i64 s] 3)).alloc (.cells #[.int .i64 p] 3)).alloc (.cells #[.slice a2 n2 c2] 26)):=(bA2).alloc (by simp;omega) _;have c0:=hide (zaa (zai (zai (heap_alloc_last w (.cells #[.int .i64 s] 3)) (.cells #[.int .i64 p] 3)) (.cells #[.slice a2 n2 c2] 26)) 0 _ rfl);have c1:=hide (zaa (zai (zau w (.cells #[.int .i64 s] 3) (.cells #[.int .i64 p] 3)) (.cells #[.slice a2 n2 c2] 26)) 0 _ rfl);have c2' :=hide (zaa (zb9 w (.cells #[.int .i64 s] 3) (.cells #[.int .i64 p] 3) (.cells #[.slice a2 n2 c2] 26)) 0 _ rfl);have HI:=hide (h2.below hb);clear h2;go_enter Tryz.func207,Tryz.ntmps207;go_wp2;go_ret;exact⟨⟨_,_,rfl,fun w' hg=>⟨_,_,_,a2,n2,c2,rfl,zav c0.out hg (by omega),zav c1.out hg (by omega),zav c2'.out hg (by omega),zb0 HI.out hg ho⟩⟩,hb⟩
theorem ziv (s l nm:Int) (B:Nat) (w:World) (hB:B<w.heap.size):Calls Tryz.prog 208 #[.int .i64 s,.int .i64 l,.int .i64 nm] w (Makes w B (.sea s l nm)):=by
  have hb:Below w.heap.size w (((w.alloc (.cells #[.int .i64 s] 3)).alloc (.cells #[.int .i64 l] 3)).alloc (.cells #[.int .i64 nm] 3)):=(bA2).alloc (by simp;omega) _;have c0:=hide (zaa (zai (zai (heap_alloc_last w (.cells #[.int .i64 s] 3)) (.cells #[.int .i64 l] 3)) (.cells #[.int .i64 nm] 3)) 0 _ rfl);have c1:=hide (zaa (zai (zau w (.cells #[.int .i64 s] 3) (.cells #[.int .i64 l] 3)) (.cells #[.int .i64 nm] 3)) 0 _ rfl);have c2' :=hide (zaa (zb9 w (.cells #[.int .i64 s] 3) (.cells #[.int .i64 l] 3) (.cells #[.int .i64 nm] 3)) 0 _ rfl);go_enter Tryz.func208,Tryz.ntmps208;go_wp2;go_ret;exact⟨⟨_,_,rfl,fun w' hg=>⟨_,_,_,rfl,zav c0.out hg (by omega),zav c1.out hg (by omega),zav c2'.out hg (by omega)⟩⟩,hb⟩
theorem zlp {x y z:Int} (h0:w.cell? ⟨b,0,none⟩=some (.int .i64 x)) (h1:w.cell? ⟨b,1,none⟩=some (.int .i64 y)) (h2:w.cell? ⟨b,2,none⟩=some (.int .i64 z)):zag w (some ⟨b,0,none⟩) [x,y,z]:=by
  refine .inr ⟨b,0,rfl,fun i hi=> ?_⟩
  simp at hi
  rcases i with _|_|_|i
  { exact h0 }
  { exact h1 }
  { exact h2 }
  { omega }
theorem zk9 {x y:Int} (h0:w.cell? ⟨b,0,none⟩=some (.int .i64 x)) (h1:w.cell? ⟨b,1,none⟩=some (.int .i64 y)):zag w (some ⟨b,0,none⟩) [x,y]:=by
  refine .inr ⟨b,0,rfl,fun i hi=> ?_⟩
  simp at hi
  rcases i with _|_|i
  { exact h0 }
  { exact h1 }
  { omega }
theorem keepU_0 (h:s.rdy=0):keepU s= [[1,s.slot,s.by']]:=by unfold keepU;rw [if_pos h]
theorem keepU_1 (h: ¬s.rdy=0):keepU s= [[1,s.slot,s.by'], [2,s.rdy]]:=by unfold keepU;rw [if_neg h]
theorem zqy {g:Nat} {r:List Int} (hc:w.cell? ⟨g,0,none⟩=some (.slice (some ⟨b,0,none⟩) n c)) (hi:zag w (some ⟨b,0,none⟩) r) (hn:r.length=n) (h1:n≤c) (h2:c≤maxLen):zck w (some ⟨g,0,none⟩) [r]:=by
  refine .inr ⟨g,0,rfl,fun i x hx=> ?_⟩
  match i with
  |0=>simp at hx;subst hx;exact⟨_,c,by rw [hn];exact hc,hi,by rw [hn];exact h1,h2⟩
  |i+1=>simp at hx
theorem zqq {g b2:Nat} {r r2:List Int} {n2 c2:Nat} (hc:w.cell? ⟨g,0,none⟩=some (.slice (some ⟨b,0,none⟩) n c)) (hi:zag w (some ⟨b,0,none⟩) r) (hn:r.length=n) (h1:n≤c) (h2:c≤maxLen)
    (hc' :w.cell? ⟨g,1,none⟩=some (.slice (some ⟨b2,0,none⟩) n2 c2)) (hi' :zag w (some ⟨b2,0,none⟩) r2) (hn' :r2.length=n2) (h1' :n2≤c2) (h2' :c2≤maxLen):zck w (some ⟨g,0,none⟩) [r,r2]:=by
  refine .inr ⟨g,0,rfl,fun i x hx=> ?_⟩
  match i with
  |0=>simp at hx;subst hx;exact⟨_,c,by rw [hn];exact hc,hi,by rw [hn];exact h1,h2⟩
  |1=>simp at hx;subst hx;exact⟨_,c2,by rw [hn'];exact hc',hi',by rw [hn'];exact h1',h2'⟩
  |i+2=>simp at hx
theorem recRow {base g cap:Nat} {v0 v1:Value} (h:w.ownsRow base 208 1 (.slice (some ⟨g,0,none⟩) (1+1) cap) (1+1) ([v0]++ [v1])): (∃cur,w.heap[g]?=some (.cells cur 208 (0,0)))∧w.cell? ⟨g,0,none⟩=some v0∧w.cell? ⟨g,1,none⟩=some v1:=by
  obtain ⟨_,⟨hv,_⟩| ⟨g',cap',cur,hv,hg,hh,hc,_,_,ht⟩⟩:=h
  { cases hv }
  {
  cases hv;have h0: (cur.toList.take 2)[0]?=some v0:=by rw [show cur.toList.take 2= [v0]++ [v1] from ht];rfl
  have h1: (cur.toList.take 2)[1]?=some v1:=by rw [show cur.toList.take 2= [v0]++ [v1] from ht];rfl
  refine⟨⟨cur,hh⟩,zaa hh 0 _ ?_,zaa hh 1 _ ?_⟩
  { simpa using h0 }
  {
  simpa using h1
  }
  }
structure NB (W:World) (n:Nat) (s:Us) (ar:Option Addr) (nr cr:Nat):Prop where
  b0:W.heap[n]?=some (usO s)
  b1:W.heap[n+1]?=some (.cells #[.slice ar nr cr] 26 (0,0))
  b2:W.heap[n+1+1]?=some (.cells #[.int .i64 1,.int .i64 s.slot,.int .i64 s.by'] 3 (0,0))
  b3:W.heap[n+1+1+1]?=some (.cells #[.slice (some ⟨n+1+1,0,none⟩) 3 3] 208 (0,0))
  b4:W.heap[n+1+1+1+1]?=some (.cells #[.slice (some ⟨n+1+1+1,0,none⟩) 1 1] 75 (0,0))
def nW (w:World) (s:Us) (ar:Option Addr) (nr cr:Nat):World:=
  ((((w.alloc (.cells #[.int .i64 s.slot,.int .i64 s.by',.int .i64 s.rdy] 84)).alloc (.cells #[.slice ar nr cr] 26)).alloc (.cells #[.int .i64 1,.int .i64 s.slot,.int .i64 s.by'] 3)).alloc (.cells #[.slice (some ⟨w.heap.size+1+1,0,none⟩) 3 3] 208)).alloc (.cells #[.slice (some ⟨w.heap.size+1+1+1,0,none⟩) 1 1] 75)
theorem nW_nb (w:World) (s:Us) (ar:Option Addr) (nr cr:Nat):NB (nW w s ar nr cr) w.heap.size s ar nr cr:=
  ⟨zai (zai (zai (zai (heap_alloc_last _ _) _) _) _) _,zai (zai (zai (zau _ _ _) _) _) _,zai (zai (zb9 _ _ _ _) _) _,zai (zj3 _ _ _ _ _) _,uLast4 _ _ _ _ _ _⟩
theorem nW_below (w:World) (s:Us) (ar:Option Addr) (nr cr:Nat):Below w.heap.size w (nW w s ar nr cr):=
  ((((bA2).alloc (by simp;omega) _).alloc (by simp;omega) _).alloc (by simp;omega) _)
theorem nW_size (w:World) (s:Us) (ar:Option Addr) (nr cr:Nat): (nW w s ar nr cr).heap.size=w.heap.size+1+1+1+1+1:=by unfold nW;simp
theorem ze0 (s:Us) (ar:Option Addr) (nr cr:Nat) (r:List Int) (B:Nat) (w:World) (hB:B<w.heap.size) (hr:BI w ar nr r) (ho:Off B ar):Calls Tryz.prog 209 #[usv s,.slice ar nr cr] w (Makes w B (.not s r)):=by
  obtain ⟨irr,hir,rz0,rz1,rz2⟩:=info_parts zgb;have nb:=hide (nW_nb w s ar nr cr);have hw0:=nW_below w s ar nr cr;have hsz:w.heap.size+1+1+1+1< (nW w s ar nr cr).heap.size:=by rw [nW_size];omega
  have HR:=hide (hr.below hw0);have HO3:Hid (Off (w.heap.size+1+1+1) ar∧Off (w.heap.size+1+1+1+1) ar∨r= []):=by
    rcases zcu hr.at_ (w.heap.size+1+1+1) (by omega) with h|h
    { exact .inr h }
    {
    rcases zcu hr.at_ (w.heap.size+1+1+1+1) (by omega) with h2|h2
    { exact .inr h2 }
    { exact .inl ⟨h,h2⟩ }
    }
  clear hr;have ml3:3≤maxLen:=by decide
  unfold usv
  by_cases z:s.rdy=0
  {
  have HK:=hide (keepU_0 z);have d: (s.rdy !=0)=false:=by simpa using z
  clear z;unfold nW at nb hw0 hsz HR;go_enter Tryz.func209,Tryz.ntmps209;go_wp2_with fail;go_ret;refine⟨⟨_,_,rfl,fun w' hg=> ?_⟩,hw0⟩;refine⟨_,_,ar,nr,cr,_,1,1,rfl,zav (zaa nb.out.b1 0 _ rfl) hg (by omega),zav (zaa nb.out.b4 0 _ rfl) hg (by omega),zb0 HR.out hg (.inr ho), ?_,by rw [HK.out];rfl,Nat.le_trans (by decide) ml3⟩;rw [HK.out];refine zqy (zav (zaa nb.out.b3 0 _ rfl) hg (by omega)) ?_ rfl (Nat.le_refl _) ml3;exact zlp (zav (zaa nb.out.b2 0 _ rfl) hg (by omega)) (zav (zaa nb.out.b2 1 _ rfl) hg (by omega)) (zav (zaa nb.out.b2 2 _ rfl) hg (by omega))
  }
  {
  have HK:=hide (keepU_1 z);have d: (s.rdy !=0)=true:=by simpa using z
  clear z;go_enter Tryz.func209,Tryz.ntmps209;go_upto_region 3 with fail
  rw [show((((w.alloc (.cells #[.int .i64 s.slot,.int .i64 s.by',.int .i64 s.rdy] 84)).alloc (.cells #[.slice ar nr cr] 26)).alloc (.cells #[.int .i64 1,.int .i64 s.slot,.int .i64 s.by'] 3)).alloc (.cells #[.slice (some ⟨w.heap.size+1+1,0,none⟩) 3 3] 208)).alloc (.cells #[.slice (some ⟨w.heap.size+1+1+1,0,none⟩) 1 1] 75)=nW w s ar nr cr from rfl];generalize nW w s ar nr cr=W at *;have a0:=nb.out.b0;unfold usO at a0;have x2:=zaa a0 2 _ rfl;have x4:=zaa nb.out.b4 0 _ rfl;have fx4:=zad nb.out.b4 0;have hbB:=zaf (zaf (Below.refl W.heap.size W) (.cells #[.int .i64 2,.int .i64 s.rdy] 3)) (.cells #[.slice (some ⟨W.heap.size,0,none⟩) 2 2] 208);have hrow: ((W.alloc (.cells #[.int .i64 2,.int .i64 s.rdy] 3)).alloc (.cells #[.slice (some ⟨W.heap.size,0,none⟩) 2 2] 208)).ownsRow (w.heap.size+1+1+1) 208 1 (.slice (some ⟨w.heap.size+1+1+1,0,none⟩) 1 1) 1 [.slice (some ⟨w.heap.size+1+1,0,none⟩) 3 3]:=
    ⟨rfl,.inr ⟨_,1,_,rfl,Nat.le_refl _,zab nb.out.b3 hbB,Nat.le_refl _,by decide,rfl,rfl⟩⟩
  have hnews:=zg5 (W.alloc (.cells #[.int .i64 2,.int .i64 s.rdy] 3)) (.slice (some ⟨W.heap.size,0,none⟩) 2 2) 208;rw [World.size_alloc] at hnews;have bR:=hide (zai (heap_alloc_last W (.cells #[.int .i64 2,.int .i64 s.rdy] 3)) (.cells #[.slice (some ⟨W.heap.size,0,none⟩) 2 2] 208));clear a0
  go_wp2_with (at_builtin;refine wpList_append_lies _ rfl _ _ 75 rfl (w.heap.size+1+1+1) 208 irr _ 1 24 Tryz.underlying75 hir rz0 rz1 rz2 rfl (by omega) _ 1 _ rfl hrow ⟨W.heap.size+1,0,none⟩ 1 1 [.slice (some ⟨W.heap.size,0,none⟩) 2 2] rfl rfl hnews (zkz _ _ _) (by omega) (by unfold maxLen;omega) (by omega) (by simp;omega) _ rfl ?_)
  intro g cap w5 hown hgr hat hlt;have hk5:Below (w.heap.size+1+1+1) W w5:=(hbB.mono (by omega)).grown hgr (by simp;omega) (zc5 hrow);have hgr' : ((W.alloc (.cells #[.int .i64 2,.int .i64 s.rdy] 3)).alloc (.cells #[.slice (some ⟨W.heap.size,0,none⟩) 2 2] 208)).grownBy w5 (some (w.heap.size+1+1+1)):=hgr;have hgW:W.grownBy w5 (some (w.heap.size+1+1+1)):=(zaj hbB _).trans hgr;have c1:=hide (zav (zaa nb.out.b1 0 _ rfl) hgW (by omega));have c20:=hide (zav (zaa nb.out.b2 0 _ rfl) hgW (by omega));have c21:=hide (zav (zaa nb.out.b2 1 _ rfl) hgW (by omega));have c22:=hide (zav (zaa nb.out.b2 2 _ rfl) hgW (by omega));have r0:=hide (zav (zaa bR.out 0 _ rfl) hgr' (by omega));have r1:=hide (zav (zaa bR.out 1 _ rfl) hgr' (by omega));have y4:=zav (zaa nb.out.b4 0 _ rfl) hgW (by omega);have b4' :=hide (zar nb.out.b4 hgW (by omega));have fy4:=zad b4'.out 0;have HR5:=hide (zb0 HR.out hgW (HO3.out.elim (fun h=>.inr h.1) .inl));have hrow5:=hide (recRow hown);have hgB:w.heap.size+1+1+1≤g:=by
    rcases hat with e|e
    {
    have:=zc5 hrow _ e;omega
    }
    { omega }
  have hg4:g≠w.heap.size+1+1+1+1:=fun e=>by
    obtain ⟨cur,h1⟩:=hrow5.out.1;rw [e,b4'.out] at h1;exact absurd h1 (by simp)
  have hw5:Below w.heap.size w w5:=hw0.trans (hk5.mono (by omega));have hlt5:w.heap.size+1+1+1+1<w5.heap.size:=zak b4'.out;clear hown hgr hgr' hat x2 x4 fx4 hrow hnews;go_wp2_with fail;go_ret;have hs4:w5.grownBy (w5.setCell ⟨w.heap.size+1+1+1+1,0,none⟩ (.slice (some ⟨g,0,none⟩) (1+1) cap)) (some (w.heap.size+1+1+1+1)):=zaw _ _ _ _;refine⟨⟨_,_,rfl,fun w' hg=> ?_⟩,hw5.setCell (by show w.heap.size≤w.heap.size+1+1+1+1;omega) _⟩;have hv4: (w5.setCell ⟨w.heap.size+1+1+1+1,0,none⟩ (.slice (some ⟨g,0,none⟩) (1+1) cap)).cell? ⟨w.heap.size+1+1+1+1,0,none⟩=some (.slice (some ⟨g,0,none⟩) (1+1) cap):=by
    refine zaa (cs:=#[.slice (some ⟨g,0,none⟩) (1+1) cap]) (t:=75) ?_ 0 _ rfl;have:=b4'.out;simp only [World.setCell,Array.getElem?_modify]
    simp [this]
  have go: ∀{b i:Nat} {v:Value},w5.cell? ⟨b,i,none⟩=some v→b≠w.heap.size+1+1+1+1→b≠B→w'.cell? ⟨b,i,none⟩=some v:=fun h h1 h2=>zav (zav h hs4 h1) hg h2
  refine⟨_,_,ar,nr,cr,_,2,cap,rfl,go c1.out (by omega) (by omega),zav hv4 hg (by omega),zb0 (zb0 HR5.out hs4 (HO3.out.elim (fun h=>.inr h.2) .inl)) hg (.inr ho), ?_,by rw [HK.out];rfl,Nat.le_trans (by decide) ml3⟩;rw [HK.out];have ml2:2≤maxLen:=by decide
  refine zqq (go hrow5.out.2.1 hg4 (by omega)) ?_ rfl (Nat.le_refl _) ml3 (go hrow5.out.2.2 hg4 (by omega)) ?_ rfl (Nat.le_refl _) ml2
  { exact zlp (go c20.out (by omega) (by omega)) (go c21.out (by omega) (by omega)) (go c22.out (by omega) (by omega)) }
  {
  exact zk9 (go r0.out (by omega) (by omega)) (go r1.out (by omega) (by omega))
  }
  }
end
section
open Go.RowKit
attribute [local go_sem ↓] Go.wp_at_zero Go.wp_at_succ
theorem zb5 (B:Nat) (st:Stu) (u:Un) (v:Value) (t:TypeId) (w:World) (hU:OwnU w B u) (hs:IsStu w B v st):
    Calls Tryz.prog 206 #[.pointer (some ⟨B,0,none⟩),.slice (some ⟨w.heap.size,0,none⟩) 1 1] (w.alloc (.cells #[v] t)) fun e w' =>e=.returned (.bool (doV u st).2)∧OwnU w' B (doV u st).1∧w.grownBy w' (some B):=by
  have hb:=heap_alloc_last w (.cells #[v] t);have hbA:Below w.heap.size w (w.alloc (.cells #[v] t)):=bA1;refine(zgg B w.heap.size 1 1 [st] u _ (hU.below hbA) (fun i x hx=> ?_) (by have:=hU.lt;omega) rfl (by decide)).mono ?_
  {
  match i with
  |0=>simp at hx;subst hx;exact⟨v,zaa hb 0 _ rfl,hs.turns (zaj hbA B)⟩
  |i+1=>simp at hx
  }
  {
  rintro e w' ⟨rfl,h2,h3⟩;rw [turnU_one] at h2⊢;exact⟨rfl,h2,(zaj hbA B).trans h3⟩
  }
def HAns (w:World) (B:Nat) (r:Un×List Ms) (e:Ending) (w' :World):Prop:=
  (∃a n c,e=.returned (.slice a n c)∧za9 w' a r.2∧r.2.length=n∧n≤c∧c≤1)∧OwnU w' B r.1∧w.grownBy w' (some B)
theorem zde {w' :World} {B:Nat} {r:Un×List Ms} (hr:r= (u, [])) (hu:OwnU w' B u) (hg:w.grownBy w' (some B)):HAns w B r (.returned (.slice none 0 0)) w' :=by
  subst hr;exact⟨⟨none,0,0,rfl,.inl rfl,rfl,Nat.le_refl _,by decide⟩,hu,hg⟩
structure HB (W:World) (X:Nat) (s:Us) (m:Ms) (a:Option Addr) (n c:Nat):Prop where
  b0:W.heap[X]?=some (.cells #[.int .i64 s.slot,.int .i64 s.by',.int .i64 s.rdy] 84 (0,0))
  b1:W.heap[X+1]?=some (.cells (aM m a n c) 99 (0,0))
theorem HB.turns {W W' :World} {X B:Nat} (h:HB W X s m a n c) (hg:W.grownBy W' (some B)) (hX:B<X):HB W' X s m a n c:=⟨zar h.b0 hg (by omega),zar h.b1 hg (by omega)⟩
theorem HB.below {W W' :World} {X:Nat} (h:HB W X s m a n c) (hb:Below W.heap.size W W'):HB W' X s m a n c:=⟨zab h.b0 hb,zab h.b1 hb⟩
def hW (w:World) (s:Us) (m:Ms) (a:Option Addr) (n c:Nat):World:=
  (w.alloc (.cells #[.int .i64 s.slot,.int .i64 s.by',.int .i64 s.rdy] 84)).alloc (.cells (aM m a n c) 99)
theorem hW_hb (w:World) (s:Us) (m:Ms) (a:Option Addr) (n c:Nat):HB (hW w s m a n c) w.heap.size s m a n c:=⟨zai (heap_alloc_last _ _) _,zau _ _ _⟩
theorem zi5 (w:World) (s:Us) (m:Ms) (a:Option Addr) (n c:Nat):Below w.heap.size w (hW w s m a n c):=bA2
def HS (X:Nat) (s:Us) (m:Ms) (a:Option Addr) (n c:Nat) (W:World):Prop:=
  W.cell? ⟨X,0,none⟩=some (.int .i64 s.slot)∧W.cell? ⟨X,1,none⟩=some (.int .i64 s.by')∧W.cell? ⟨X,2,none⟩=some (.int .i64 s.rdy)∧W.cell? ⟨X+1,2,none⟩=some (.int .i64 m.n)∧W.cell? ⟨X+1,3,none⟩=some (.int .i64 m.at')∧W.cell? ⟨X+1,4,none⟩=some (.int .i64 m.im)∧W.cell? ⟨X+1,5,none⟩=some (.slice a n c)
theorem HB.hs {W:World} {X:Nat} (h:HB W X s m a n c):HS X s m a n c W:=
  ⟨zaa h.b0 0 _ rfl,zaa h.b0 1 _ rfl,zaa h.b0 2 _ rfl,zaa h.b1 2 _ rfl,zaa h.b1 3 _ rfl,zaa h.b1 4 _ rfl,zaa h.b1 5 _ rfl⟩
theorem comS_1 (h:s.by' =m.n):comS u s m= (u, [doneM m]):=by unfold comS;rw [if_pos h]
theorem comS_2 (h: ¬s.by' =m.n) (h2: ¬s.rdy=m.n):comS u s m= (u, []):=by unfold comS;rw [if_neg h,if_pos h2]
theorem comS_3 (h: ¬s.by' =m.n) (h2:s.rdy=m.n) (h3: (doV u (.not s [1,oth s,m.n])).2=true):comS u s m= ((doV u (.not s [1,oth s,m.n])).1, [doneM m]):=by unfold comS;rw [if_neg h,if_neg (by simpa using h2),if_pos h3]
theorem comS_4 (h: ¬s.by' =m.n) (h2:s.rdy=m.n) (h3: (doV u (.not s [1,oth s,m.n])).2=false):comS u s m= ((doV u (.not s [1,oth s,m.n])).1, []):=by unfold comS;rw [if_neg h,if_neg (by simpa using h2),if_neg (by rw [h3];decide)]
theorem aboS_1 (h:m.n≤s.by'):aboS u s m= (u, []):=by unfold aboS;rw [if_pos h]
theorem aboS_2 (h: ¬m.n≤s.by') (h2: ¬s.rdy=m.n):aboS u s m=aboB u m:=by unfold aboS;rw [if_neg h,if_neg h2]
theorem aboS_3 (h: ¬m.n≤s.by') (h2:s.rdy=m.n) (h3: (doV u (.not s [3,m.n])).2=true):aboS u s m=aboB (doV u (.not s [3,m.n])).1 m:=by unfold aboS;rw [if_neg h,if_pos h2,if_pos h3]
theorem aboS_4 (h: ¬m.n≤s.by') (h2:s.rdy=m.n) (h3: (doV u (.not s [3,m.n])).2=false):aboS u s m= ((doV u (.not s [3,m.n])).1, []):=by unfold aboS;rw [if_neg h,if_pos h2,if_neg (by rw [h3];decide)]
theorem aboB_1 (h:u.n=m.n):aboB u m= (mind u 0 0, [doneM m]):=by unfold aboB;rw [if_pos h]
theorem aboB_2 (h: ¬u.n=m.n):aboB u m= (u, [doneM m]):=by unfold aboB;rw [if_neg h]
theorem zgt (w:World) (x y z:Int) (t:TypeId):BI (w.alloc (.cells #[.int .i64 x,.int .i64 y,.int .i64 z] t)) (some ⟨w.heap.size,0,none⟩) 3 [x,y,z]:=
  ⟨zlp (zaa (heap_alloc_last _ _) 0 _ rfl) (zaa (heap_alloc_last _ _) 1 _ rfl) (zaa (heap_alloc_last _ _) 2 _ rfl),rfl,by decide⟩
theorem zne (w:World) (x y:Int) (t:TypeId):BI (w.alloc (.cells #[.int .i64 x,.int .i64 y] t)) (some ⟨w.heap.size,0,none⟩) 2 [x,y]:=
  ⟨zk9 (zaa (heap_alloc_last _ _) 0 _ rfl) (zaa (heap_alloc_last _ _) 1 _ rfl),rfl,by decide⟩
theorem zlk (B:Nat) (u:Un) (s:Us) (m:Ms) (a:Option Addr) (n c:Nat) (w:World) (hU:OwnU w B u) (hs0:0≤s.slot) (hs1:s.slot≤1):
    Calls Tryz.prog 299 #[.pointer (some ⟨B,0,none⟩),usv s,msv m a n c] w (HAns w B (comS u s m)):=by
  have hb:=hide (hW_hb w s m a n c);have hw0:=zi5 w s m a n c;have hB:=hU.lt;have hU0:=hide (hU.below hw0);clear hU;unfold usv msv;have q:=hb.out.hs;unfold HS at q;obtain ⟨x0,x1,x2,y2,y3,y4,y5⟩:=q
  by_cases z1:s.by' =m.n
  {
  have HE:=hide (comS_1 (u:=u) z1);have d1: (s.by' ==m.n)=true:=by simpa using z1
  have b1:=hide hb.out.b1;clear z1;unfold hW at x0 x1 x2 y2 y3 y4 y5 hw0 hU0 b1;have v0:=zaa b1.out 0 _ rfl;have v1:=zaa b1.out 1 _ rfl;have v6:=zaa b1.out 6 _ rfl;go_enter Tryz.func299,Tryz.ntmps299;go_wp2_with fail;refine(zdy m a n c _).mono ?_;rintro e w1 ⟨⟨b,rfl,hm,_⟩,hb1⟩;go_wp2_with fail;go_ret;rw [HE.out];exact⟨⟨_,1,1,rfl,hm,rfl,Nat.le_refl _,Nat.le_refl _⟩,hU0.out.below hb1,(zaj hw0 B).trans (zaj hb1 B)⟩
  }
  have d1: (s.by' ==m.n)=false:=by simpa using z1
  have Z1:=hide z1;go_enter Tryz.func299,Tryz.ntmps299;unfold hW at x0 x1 x2 y2 y3 y4 y5;go_upto_region 3 with fail
  clear x0 x1 x2 y2 y3 y4 y5;rw [show(w.alloc (.cells #[.int .i64 s.slot,.int .i64 s.by',.int .i64 s.rdy] 84)).alloc (.cells (aM m a n c) 99)=hW w s m a n c from rfl];generalize hW w s m a n c=W at *
  by_cases z2:s.rdy=m.n
  rotate_left
  {
  have HE:=hide (comS_2 (u:=u) z1 z2);have d2: (s.rdy !=m.n)=true:=by simpa using z2
  clear z1 z2;refine wp_region_held_drew (S:=fun W' =>W'.cell? ⟨w.heap.size,0,none⟩=some (.int .i64 s.slot)∧W'.cell? ⟨w.heap.size,1,none⟩=some (.int .i64 s.by')∧W'.cell? ⟨w.heap.size,2,none⟩=some (.int .i64 s.rdy)∧W'.cell? ⟨w.heap.size+1,2,none⟩=some (.int .i64 m.n)∧W'.cell? ⟨w.heap.size+1,3,none⟩=some (.int .i64 m.at')∧W'.cell? ⟨w.heap.size+1,4,none⟩=some (.int .i64 m.im)∧W'.cell? ⟨w.heap.size+1,5,none⟩=some (.slice a n c)) (by kernel_rfl) hb.out.hs ?_;intro hHeld;refine Htk (i:=0) ?_
  try simp only [sq]
  refine Htk (i:=1) ?_
  try simp only [sq]
  refine Htk (i:=2) ?_
  try simp only [sq]
  refine Htk (i:=3) ?_
  try simp only [sq]
  refine Htk (i:=4) ?_
  try simp only [sq]
  refine Htk (i:=5) ?_
  try simp only [sq]
  refine wpAnyH_take (i:=6) (v:=undef) (by simp only [List.getElem?_toArray,List.getElem?_cons_zero,List.getElem?_cons_succ];rfl) (by kernel_rfl) (by kernel_rfl) (by kernel_rfl) (by exact fun _ _ _ h=>h) (Or.inr ⟨by rfl,rfl⟩) (by assumption) ?_
  try simp only [sq]
  refine wpAnyH_take (i:=7) (v:=undef) (by simp only [List.getElem?_toArray,List.getElem?_cons_zero,List.getElem?_cons_succ];rfl) (by kernel_rfl) (by kernel_rfl) (by kernel_rfl) (by exact fun _ _ _ h=>h) (Or.inr ⟨by rfl,rfl⟩) (by assumption) ?_
  try simp only [sq]
  refine wpAnyH_take (i:=8) (v:=undef) (by simp only [List.getElem?_toArray,List.getElem?_cons_zero,List.getElem?_cons_succ];rfl) (by kernel_rfl) (by kernel_rfl) (by kernel_rfl) (by exact fun _ _ _ h=>h) (Or.inr ⟨by rfl,rfl⟩) (by assumption) ?_
  try simp only [sq]
  refine wpAnyH_take (i:=9) (v:=undef) (by simp only [List.getElem?_toArray,List.getElem?_cons_zero,List.getElem?_cons_succ];rfl) (by kernel_rfl) (by kernel_rfl) (by kernel_rfl) (by exact fun _ _ _ h=>h) (Or.inr ⟨by rfl,rfl⟩) (by assumption) ?_
  try simp only [sq]
  refine wpAnyH_take (i:=10) (v:=undef) (by simp only [List.getElem?_toArray,List.getElem?_cons_zero,List.getElem?_cons_succ];rfl) (by kernel_rfl) (by kernel_rfl) (by kernel_rfl) (by exact fun _ _ _ h=>h) (Or.inr ⟨by rfl,rfl⟩) (by assumption) ?_
  try simp only [sq]
  refine wpAnyH_take (i:=11) (v:=undef) (by simp only [List.getElem?_toArray,List.getElem?_cons_zero,List.getElem?_cons_succ];rfl) (by kernel_rfl) (by kernel_rfl) (by kernel_rfl) (by exact fun _ _ _ h=>h) (Or.inr ⟨by rfl,rfl⟩) (by assumption) ?_
  try simp only [sq]
  refine wpAnyH_take (i:=12) (v:=undef) (by simp only [List.getElem?_toArray,List.getElem?_cons_zero,List.getElem?_cons_succ];rfl) (by kernel_rfl) (by kernel_rfl) (by kernel_rfl) (by exact fun _ _ _ h=>h) (Or.inr ⟨by rfl,rfl⟩) (by assumption) ?_
  try simp only [sq]
  refine wpAnyH_take (i:=13) (v:=undef) (by simp only [List.getElem?_toArray,List.getElem?_cons_zero,List.getElem?_cons_succ];rfl) (by kernel_rfl) (by kernel_rfl) (by kernel_rfl) (by exact fun _ _ _ h=>h) (Or.inr ⟨by rfl,rfl⟩) (by assumption) ?_
  try simp only [sq]
  refine wpAnyH_take (i:=14) (v:=undef) (by simp only [List.getElem?_toArray,List.getElem?_cons_zero,List.getElem?_cons_succ];rfl) (by kernel_rfl) (by kernel_rfl) (by kernel_rfl) (by exact fun _ _ _ h=>h) (Or.inr ⟨by rfl,rfl⟩) (by assumption) ?_
  try simp only [sq]
  refine wpAnyH_take (i:=15) (v:=undef) (by simp only [List.getElem?_toArray,List.getElem?_cons_zero,List.getElem?_cons_succ];rfl) (by kernel_rfl) (by kernel_rfl) (by kernel_rfl) (by exact fun _ _ _ h=>h) (Or.inr ⟨by rfl,rfl⟩) (by assumption) ?_
  try simp only [sq]
  refine wpAnyH_take (i:=16) (v:=undef) (by simp only [List.getElem?_toArray,List.getElem?_cons_zero,List.getElem?_cons_succ];rfl) (by kernel_rfl) (by kernel_rfl) (by kernel_rfl) (by exact fun _ _ _ h=>h) (Or.inr ⟨by rfl,rfl⟩) (by assumption) ?_
  try simp only [sq]
  refine Htk (i:=17) ?_
  try simp only [sq]
  refine wpAnyH_done (by kernel_rfl) ?_ _;go_wp2_with fail;go_ret;exact zde HE.out (hU0.out.below (Below.refl _ _).drew) (zbv (zaj hw0 B))
  }
  have d2: (s.rdy !=m.n)=false:=by simpa using z2
  have HE3:=hide (comS_3 (u:=u) z1 z2);have HE4:=hide (comS_4 (u:=u) z1 z2);have hne:w.heap.size≠B:=by omega
  clear z1 z2;refine wp_region_held_drew (S:=fun W' =>W'.cell? ⟨w.heap.size,0,none⟩=some (.int .i64 s.slot)∧W'.cell? ⟨w.heap.size,1,none⟩=some (.int .i64 s.by')∧W'.cell? ⟨w.heap.size,2,none⟩=some (.int .i64 s.rdy)∧W'.cell? ⟨w.heap.size+1,2,none⟩=some (.int .i64 m.n)∧W'.cell? ⟨w.heap.size+1,3,none⟩=some (.int .i64 m.at')∧W'.cell? ⟨w.heap.size+1,4,none⟩=some (.int .i64 m.im)∧W'.cell? ⟨w.heap.size+1,5,none⟩=some (.slice a n c)) (by kernel_rfl) hb.out.hs ?_;intro hHeld;refine Htk (i:=0) ?_
  try simp only [sq]
  refine Htk (i:=1) ?_
  try simp only [sq]
  refine Htk (i:=2) ?_
  try simp only [sq]
  refine Htk (i:=3) ?_
  try simp only [sq]
  refine Htk (i:=4) ?_
  try simp only [sq]
  refine Htk (i:=5) ?_
  try simp only [sq]
  refine Htk (i:=6) ?_
  try simp only [sq]
  refine Htk (i:=7) ?_
  try simp only [sq]
  refine Htk (i:=8) ?_
  try simp only [sq]
  refine Htk (i:=10) ?_
  try simp only [sq]
  refine Htk (i:=11) ?_
  try simp only [sq]
  refine wpAnyH_ready (rs:= [9]) (by kernel_rfl) (by simp) ?_;refine AllReadyH.cons (by rfl) (fun K hK=> ?_) AllReadyH.nil;go_simp;have hk0:Below W.heap.size W W.drew:=(Below.refl _ _).drew;have HO:=hide (zcs s W.drew hs0 hs1);refine(zae HO).mono ?_;rintro e w1 ⟨rfl,hb1⟩;have hk1:=bT hk0 hb1;clear hb1 HO hk0;go_wp2_with fail;refine hK.out _ _ ((hb.out.below hk1).hs) (fun hHeld=> ?_);clear hK K
  try simp only [sq]
  refine wpAnyH_ready (rs:= [12]) (by kernel_rfl) (by simp) ?_;refine AllReadyH.cons (by rfl) (fun K hK=> ?_) AllReadyH.nil;go_simp;have hk2:=zaf hk1 (.cells #[.int .i64 1,.int .i64 (oth s),.int .i64 m.n] 3);refine hK.out _ _ ((hb.out.below hk2).hs) (fun hHeld=> ?_);clear hK K
  try simp only [sq]
  refine wpAnyH_ready (rs:= [13]) (by kernel_rfl) (by simp) ?_;refine AllReadyH.cons (by rfl) (fun K hK=> ?_) AllReadyH.nil;go_simp;have HNt:=hide (ze0 s (some ⟨w1.heap.size,0,none⟩) 3 3 [1,oth s,m.n] B _ (by simp;have:=hk1.size;have:=hw0.size;omega) (zgt w1 1 (oth s) m.n 3) (fun ad e=>by cases e;show w1.heap.size≠B;have:=hk1.size;have:=hw0.size;omega));unfold usv at HNt;refine(zae HNt).mono ?_;rintro e w3 ⟨⟨fn3,caps3,rfl,hv3⟩,hb3⟩;have hk3:=bT hk2 hb3;clear hb3 HNt;go_wp2_with fail;refine hK.out _ _ ((hb.out.below hk3).hs) (fun hHeld=> ?_);clear hK K
  try simp only [sq]
  refine wpAnyH_ready (rs:= [14]) (by kernel_rfl) (by simp) ?_;refine AllReadyH.cons (by rfl) (fun K hK=> ?_) AllReadyH.nil;go_simp;have hk4:=zaf hk3 (.cells #[.func (.func fn3) #[] caps3] 258);refine hK.out _ _ ((hb.out.below hk4).hs) (fun hHeld=> ?_);clear hK K
  try simp only [sq]
  refine wpAnyH_ready (rs:= [15]) (by kernel_rfl) (by simp) ?_;refine AllReadyH.cons (by rfl) (fun K hK=> ?_) AllReadyH.nil;go_simp;have HCh:=hide (zb5 B _ u (.func (.func fn3) #[] caps3) 258 w3 (hU0.out.below hk3) hv3);refine(zae HCh).mono ?_;rintro e w5 ⟨rfl,hU5,hg5⟩;have hg:=(zaj hk3 B).trans hg5;have HU5:=hide hU5;have HG:=hide ((zaj hw0 B).trans hg);have HB5:=hide (hb.out.turns hg hB);clear hU5 hg5 HCh hk1 hk2 hk3 hk4 hg;generalize doV u (.not s [1,oth s,m.n])=R at *;go_wp2_with fail;refine hK.out _ _ (HB5.out.hs) (fun hHeld=> ?_);clear hK K
  try simp only [sq]
  refine Htk (i:=16) ?_
  try simp only [sq]
  refine Htk (i:=17) ?_
  try simp only [sq]
  refine wpAnyH_done (by kernel_rfl) ?_ _;clear hHeld;cases g:R.2
  {
  have HE:=hide (HE4.out g);go_wp2_with fail;go_ret;exact zde HE.out HU5.out HG.out
  }
  {
  have HE:=hide (HE3.out g);have v0:=zaa HB5.out.b1 0 _ rfl;have v1:=zaa HB5.out.b1 1 _ rfl;have v2:=zaa HB5.out.b1 2 _ rfl;have v3' :=zaa HB5.out.b1 3 _ rfl;have v4:=zaa HB5.out.b1 4 _ rfl;have v5:=zaa HB5.out.b1 5 _ rfl;have v6:=zaa HB5.out.b1 6 _ rfl;have HDn:=hide (zdy m a n c w5);unfold msv at HDn;go_wp2_with fail;refine(zae HDn).mono ?_;rintro e w6 ⟨⟨b,rfl,hm,_⟩,hb6⟩;go_wp2_with fail;go_ret;rw [HE.out];exact⟨⟨_,1,1,rfl,hm,rfl,Nat.le_refl _,Nat.le_refl _⟩,HU5.out.below hb6,HG.out.trans (zaj hb6 B)⟩
  }
end
section
open Go.RowKit
theorem zc2 (b off j:Nat): (⟨b,off,none⟩:Addr).add j= ⟨b,off+j,none⟩:=by unfold Addr.add;split<;>simp_all
theorem BI.news {off:Nat} (h:BI w (some ⟨b,off,none⟩) n xs): ∀j u,(vals xs)[j]?=some u→w.cell? ((⟨b,off,none⟩:Addr).add j)=some u:=by
  intro j u hu;have hj:j<xs.length:=by
    have:=(List.getElem?_eq_some_iff.1 hu).1
    simpa [vals] using this
  rw [zc9 xs j hj] at hu;cases hu
  rcases h.at_ with e| ⟨b',off',e,hc⟩
  { rw [e] at hj;simp at hj }
  {
  cases e;rw [zc2];exact hc j hj
  }
theorem BI.spot (h:BI w a n xs) (h0: ¬n=0): ∃b off,a=some ⟨b,off,none⟩:=by
  rcases h.at_ with e| ⟨b,off,e,_⟩
  { have:=h.len;rw [e] at this;simp at this;omega }
  {
  exact⟨b,off,e⟩
  }
theorem zms (ty:TypeId) (g:Nat) (ad:Addr) (c:Nat) (w:World):
    (Builtin.append_ #[26,26] ty #[.slice (some ⟨g,0,none⟩) 0 0,.slice (some ad) 0 c]).run Tryz.prog w=.ok (.slice (some ⟨g,0,none⟩) 0 0) w:=by
  obtain ⟨i0,hi0,hz0,hz1,hz2⟩:=info_parts zef;have hl: ∀(x:Addr),(loadCells x 0).run Tryz.prog w=.ok #[] w:=fun x=>by simpa using run_loadCells_list (P:=Tryz.prog) w x [] (by simp)
  simp [Builtin.append_,run_underlying Tryz.underlying26,Builtin.lenOf,Builtin.firstCells,sizeOf,typeInfo,hi0,storeCells,hl]
def ClI (w:World) (xs:List Int) (e:Ending) (w' :World):Prop:=(∃a c,e=.returned (.slice a xs.length c)∧w'.ownsRow w.heap.size 3 1 (.slice a xs.length c) xs.length (vals xs))∧Below w.heap.size w w'
theorem ze1 (a:Option Addr) (n c:Nat) (xs:List Int) (w:World) (h:BI w a n xs) (hb:n * 8≤140737488355328):
    Calls Tryz.prog 183 #[.slice a n c] w (ClI w xs):=by
  obtain ⟨irr,hir,rz0,rz1,rz2⟩:=info_parts zef;have HN:=hide h.len;have heq:=fun (a:Option Addr) (n c:Nat) (W:World)=>Go.Lib.run_eql_slice_nil (P:=Tryz.prog) W 26 _ a n c 0 0 Tryz.underlying26
  by_cases h0:n=0
  {
  subst h0;have hx:xs= []:=List.eq_nil_of_length_eq_zero HN.out;subst hx;cases a with
  |none=>
    go_enter Tryz.func183,Tryz.ntmps183;go_wp2;go_ret;exact⟨⟨none,0,rfl,World.ownsRow_nil _ _ _ _⟩,Below.refl _ _⟩
  |some ad=>
    have he:=zms;go_enter Tryz.func183,Tryz.ntmps183;go_wp2;go_ret;exact⟨⟨_,_,rfl,⟨rfl,.inr ⟨w.heap.size,0,#[],rfl,Nat.le_refl _,heap_alloc_last _ _,Nat.le_refl _,by decide,rfl,rfl⟩⟩⟩,bA1⟩
  }
  {
  obtain ⟨b,off,rfl⟩:=h.spot h0;have hW:=(Below.refl _ w).alloc (Nat.le_refl _) (.cells #[] 3);have hnews:=(h.below hW).news;have hrow0: (w.alloc (.cells #[] 3)).ownsRow w.heap.size 3 1 (.slice (some ⟨w.heap.size,0,none⟩) 0 0) 0 []:=
    ⟨rfl,.inr ⟨w.heap.size,0,#[],rfl,Nat.le_refl _,heap_alloc_last _ _,Nat.le_refl _,by decide,rfl,rfl⟩⟩
  have HNW:=hide hnews;have hm:=h.max;clear h hnews;go_enter Tryz.func183,Tryz.ntmps183
  go_wp2_with (at_builtin;refine wpList_append_lies _ rfl _ _ 26 rfl w.heap.size 3 irr _ 1 8 Tryz.underlying26 hir rz0 rz1 rz2 rfl (by omega) (.slice (some ⟨w.heap.size,0,none⟩) 0 0) 0 [] rfl hrow0 ⟨b,off,none⟩ n c (vals xs) rfl (by rw [za3,HN.out,Nat.mul_one]) HNW.out (zbu xs) (by omega) (by omega) (by omega) (by simp) (w.heap.size+1) (by simp) ?_)
  intro g cap w1 hown hgrow hat hlt;have hB:Below w.heap.size w w1:=((Below.refl _ w).alloc (Nat.le_refl _) _).grown hgrow (by simp) (fun k hk=>by simp [Value.ownBlock] at hk;omega);have HR:=hide hown;clear hown hgrow hat;go_wp2;go_ret;rw [←HN.out] at HR⊢;exact⟨⟨_,cap,by simp,HR.out⟩,hB⟩
  }
theorem zgz {base:Nat} (h:w.ownsRow base 3 1 (.slice a n c) n (vals xs)) (hn:xs.length=n):zag w a xs∧zal base a∧n≤c:=by
  obtain ⟨_,⟨hv,h0⟩| ⟨g,cap,cur,hv,hg,hh,hc,_,_,ht⟩⟩:=h
  {
  cases hv;have:xs= []:=by
    apply List.eq_nil_of_length_eq_zero;omega
  exact⟨.inl this,(fun _ e=>by cases e),Nat.le_refl _⟩
  }
  {
  cases hv;refine⟨.inr ⟨g,0,rfl,fun i hi=> ?_⟩,fun ad e=>by cases e;exact hg,hc⟩;rw [Nat.zero_add];refine zaa hh i _ ?_;have hv:=zc9 xs i hi;rw [←ht,List.getElem?_take] at hv
  split at hv
  { simpa using hv }
  {
  cases hv
  }
  }
def UTwin (w:World) (u:Un) (e:Ending) (w' :World):Prop:=
  (∃a c,e=.returned (unv u a u.ws.length c)∧zag w' a u.ws∧zal w.heap.size a∧u.ws.length≤c)∧Below w.heap.size w w'
theorem zhf (u:Un) (a:Option Addr) (n c:Nat) (w:World) (h:BW w a n c u.ws) (hb:n * 8≤140737488355328):
    Calls Tryz.prog 114 #[unv u a n c] w (UTwin w u):=by
  have hw0:Below w.heap.size w ((w.alloc (unO u a n c)).alloc (unO ⟨[],0,false,0,0⟩ none 0 0)):=bA2;have b0:Hid (((w.alloc (unO u a n c)).alloc (unO ⟨[],0,false,0,0⟩ none 0 0)).heap[w.heap.size]?=some (unO u a n c)):=zai (heap_alloc_last _ _) _;have b1:Hid (((w.alloc (unO u a n c)).alloc (unO ⟨[],0,false,0,0⟩ none 0 0)).heap[w.heap.size+1]?=some (unO ⟨[],0,false,0,0⟩ none 0 0)):=zau _ _ _;have HC:=hide (fun W (hW:Below w.heap.size w W)=>ze1 a n c u.ws W (h.below hW).bi hb);clear h;unfold unv;unfold unO at hw0 b0 b1;have x0:=zaa b0.out 0 _ rfl;have f0:=zad b0.out 0;go_enter Tryz.func114,Tryz.ntmps114;go_wp2_with fail;generalize (w.alloc (.cells (aU a n c u) 82)).alloc (.cells #[.slice none 0 0,.int .i64 0,.bool false,.int .i64 0,.int .i64 0] 82)=W at *;refine(zae HC _ hw0).mono ?_;rintro e w1 ⟨⟨a1,c1,rfl,hown⟩,hb1⟩;obtain ⟨hi1,hf1,hc1⟩:=zgz hown rfl;have HI:=hide hi1;have HF:=hide hf1;have HB1:=hide b1.out;replace b0:=hide (zab b0.out hb1);replace b1:=hide (zab b1.out hb1);have hk:=bT hw0 hb1;clear hown hi1 hf1 hb1 x0 f0 HC;obtain ⟨y0,y1,y2,y3,y4⟩:=cl5 b0.out;obtain ⟨z0,z1,z2,z3,z4⟩:=cl5 b1.out;have g0:=zad b0.out 0;obtain ⟨h0,h1,h2,h3,h4⟩:=fr5 b1.out;go_wp2_with fail;refine bodyPost_ret (v:=unv u a1 u.ws.length c1) (by simp [results,Tryz.results114,go_sem,unv,z0,z1,z2,z3,z4]) rfl ?_;have hx:w.heap.size≤w.heap.size+1:=by omega
  have hs1:w.heap.size+1<W.heap.size:=zak HB1.out;refine⟨⟨a1,c1,rfl, ?_,fun ad e=>by have:=HF.out ad e;have:=hw0.size;omega,hc1⟩, ?_⟩
  { exact zag.other (zag.other (zag.other (zag.other (zag.other (zag.other HI.out HF.out (by omega) _ _) HF.out hs1 _ _) HF.out hs1 _ _) HF.out hs1 _ _) HF.out hs1 _ _) HF.out hs1 _ _ }
  {
  exact(((((hk.setCell (Nat.le_refl _) _).setCell hx _).setCell hx _).setCell hx _).setCell hx _).setCell hx _
  }
end
section
open Go.RowKit
attribute [local go_sem ↓] Go.wp_at_zero Go.wp_at_succ
def bvals (bs:List Bool):List Value:=bs.map Value.bool
theorem zh2 (bs:List Bool): (bvals bs).length=bs.length:=by simp [bvals]
theorem zhw (bs:List Bool) (i:Nat) (h:i<bs.length): (bvals bs)[i]?=some (.bool (bs.getD i false)):=by simp [bvals,h]
theorem bvals_one (bs:List Bool): ∀v∈bvals bs,v.oneCell' =true:=by
  intro v hv;unfold bvals at hv;rw [List.mem_map] at hv;obtain ⟨x,_,rfl⟩:=hv;rfl
theorem zf2: (Tryz.prog.info? 4).map (fun i=>(i.zero,i.size,i.bytes))=some (some (.bool false),1,1):=by kernel_rfl
theorem BV.news {off:Nat} (h:BV w (some ⟨b,off,none⟩) n c bs): ∀j u,(bvals bs)[j]?=some u→w.cell? ((⟨b,off,none⟩:Addr).add j)=some u:=by
  intro j u hu;have hj:j<bs.length:=by
    have:=(List.getElem?_eq_some_iff.1 hu).1
    simpa [bvals] using this
  rw [zhw bs j hj] at hu;cases hu
  rcases h.at_ with e| ⟨b',off',e,hc⟩
  { rw [e] at hj;simp at hj }
  {
  cases e;rw [zc2];exact hc j hj
  }
theorem BV.spot (h:BV w a n c bs) (h0: ¬n=0): ∃b off,a=some ⟨b,off,none⟩:=by
  rcases h.at_ with e| ⟨b,off,e,_⟩
  { have:=h.len;rw [e] at this;simp at this;omega }
  { exact⟨b,off,e⟩ }
theorem zm0 (ty:TypeId) (g:Nat) (ad:Addr) (c:Nat) (w:World):
    (Builtin.append_ #[33,33] ty #[.slice (some ⟨g,0,none⟩) 0 0,.slice (some ad) 0 c]).run Tryz.prog w=.ok (.slice (some ⟨g,0,none⟩) 0 0) w:=by
  obtain ⟨i0,hi0,hz0,hz1,hz2⟩:=info_parts zf2;have hl: ∀(x:Addr),(loadCells x 0).run Tryz.prog w=.ok #[] w:=fun x=>by simpa using run_loadCells_list (P:=Tryz.prog) w x [] (by simp)
  simp [Builtin.append_,run_underlying Tryz.underlying33,Builtin.lenOf,Builtin.firstCells,sizeOf,typeInfo,hi0,storeCells,hl]
def ClB (w:World) (bs:List Bool) (e:Ending) (w' :World):Prop:=(∃a c,e=.returned (.slice a bs.length c)∧w'.ownsRow w.heap.size 4 1 (.slice a bs.length c) bs.length (bvals bs))∧Below w.heap.size w w'
theorem zkf (a:Option Addr) (n c:Nat) (bs:List Bool) (w:World) (h:BV w a n c bs) (hb:n≤1000):
    Calls Tryz.prog 204 #[.slice a n c] w (ClB w bs):=by
  obtain ⟨irr,hir,rz0,rz1,rz2⟩:=info_parts zf2;have HN:=hide h.len;have heq:=fun (a:Option Addr) (n c:Nat) (W:World)=>Go.Lib.run_eql_slice_nil (P:=Tryz.prog) W 33 _ a n c 0 0 Tryz.underlying33
  by_cases h0:n=0
  {
  subst h0;have hx:bs= []:=List.eq_nil_of_length_eq_zero HN.out;subst hx;cases a with
  |none=>
    go_enter Tryz.func204,Tryz.ntmps204;go_wp2;go_ret;exact⟨⟨none,0,rfl,World.ownsRow_nil _ _ _ _⟩,Below.refl _ _⟩
  |some ad=>
    have he:=zm0;go_enter Tryz.func204,Tryz.ntmps204;go_wp2;go_ret;exact⟨⟨_,_,rfl,⟨rfl,.inr ⟨w.heap.size,0,#[],rfl,Nat.le_refl _,heap_alloc_last _ _,Nat.le_refl _,by decide,rfl,rfl⟩⟩⟩,bA1⟩
  }
  {
  obtain ⟨b,off,rfl⟩:=h.spot h0;have hW:=(Below.refl _ w).alloc (Nat.le_refl _) (.cells #[] 4);have hnews:=(h.below hW).news;have hrow0: (w.alloc (.cells #[] 4)).ownsRow w.heap.size 4 1 (.slice (some ⟨w.heap.size,0,none⟩) 0 0) 0 []:=
    ⟨rfl,.inr ⟨w.heap.size,0,#[],rfl,Nat.le_refl _,heap_alloc_last _ _,Nat.le_refl _,by decide,rfl,rfl⟩⟩
  have HNW:=hide hnews;have hm:=h.max;clear h hnews;go_enter Tryz.func204,Tryz.ntmps204
  go_wp2_with (at_builtin;refine wpList_append_lies _ rfl _ _ 33 rfl w.heap.size 4 irr _ 1 1 Tryz.underlying33 hir rz0 rz1 rz2 rfl (by omega) (.slice (some ⟨w.heap.size,0,none⟩) 0 0) 0 [] rfl hrow0 ⟨b,off,none⟩ n c (bvals bs) rfl (by rw [zh2,HN.out,Nat.mul_one]) HNW.out (bvals_one bs) (by omega) (by omega) (by omega) (by simp) (w.heap.size+1) (by simp) ?_)
  intro g cap w1 hown hgrow hat hlt;have hB:Below w.heap.size w w1:=((Below.refl _ w).alloc (Nat.le_refl _) _).grown hgrow (by simp) (fun k hk=>by simp [Value.ownBlock] at hk;omega);have HR:=hide hown;clear hown hgrow hat;go_wp2;go_ret;rw [←HN.out] at HR⊢;exact⟨⟨_,cap,by simp,HR.out⟩,hB⟩
  }
theorem any_take {k:Nat} (hk:k<bs.length) (h: (bs.take k).any (fun b=>!b)=false) (hv:bs[k]=true): (bs.take (k+1)).any (fun b=>!b)=false:=by
  rw [List.take_succ_eq_append_getElem hk,List.any_append,h]
  simp [hv]
theorem any_hit {k:Nat} (hk:k<bs.length) (hv:bs[k]=false):bs.any (fun b=>!b)=true:=by
  rw [List.any_eq_true];exact⟨bs[k],List.getElem_mem hk,by simp [hv]⟩
theorem zrl (a:Option Addr) (n c:Nat) (bs:List Bool) (w:World) (h:BV w a n c bs) (hb:n≤1000):
    Calls Tryz.prog 223 #[.slice a n c,.bool false] w fun e w' =>(∃q:Int,e=.returned (.int .i64 q)∧decide (0≤q)=bs.any (fun b=>!b))∧w' =w:=by
  have HN:=hide h.len;have h1:=h.at_;clear h;go_enter Tryz.func223,Tryz.ntmps223;go_wp2
  go_loop [8] (fun i=>∃k:Nat,k≤n∧i=.int .i64 k∧Hid ((bs.take k).any (fun b=>!b)=false)) (fun i=>n - (intOf i).toNat)
  case atStart=>exact⟨0,Nat.zero_le _,rfl,rfl⟩
  case round=>
    obtain ⟨k,hk,rfl,ht⟩:=hrel
    by_cases hlt:k<n
    {
    have hkx:k<bs.length:=by rw [HN.out];exact hlt
    rcases h1 with e| ⟨b0,o0,rfl,hc0⟩
    { rw [e] at hkx;simp at hkx }
    have e0:=hc0 k hkx;rw [show bs.getD k false=bs[k] by simp [hkx]] at e0;clear hc0;cases hv:bs[k]
    {
    have HV:Hid (bs[k]=false):=hv;rw [hv] at e0;clear hv;go_wp2;go_ret;exact⟨⟨k,rfl,by rw [any_hit hkx HV.out];simp⟩,rfl⟩
    }
    {
    have HV:Hid (bs[k]=true):=hv;rw [hv] at e0;clear hv;go_wp2
    go_round
    case rel=>exact⟨k+1,by omega,by go_num,any_take hkx ht.out HV.out⟩
    case measure=>simp [intOf];omega
    }
    }
    {
    go_wp2;go_ret;have hx:=ht.out;rw [List.take_of_length_le (by rw [HN.out];omega)] at hx;exact⟨⟨-1,rfl,by rw [hx];rfl⟩,rfl⟩
    }
theorem zhb (a:Option Addr) (n c:Nat) (bs:List Bool) (w:World) (h:BV w a n c bs) (hb:n≤1000):
    Calls Tryz.prog 158 #[.slice a n c,.bool false] w fun e w' =>e=.returned (.bool (!allB bs))∧w' =w:=by
  have HC:=hide (zrl a n c bs w h hb);clear h;go_enter Tryz.func158,Tryz.ntmps158;go_wp2_with fail;refine(zae HC).mono ?_;rintro e w' ⟨⟨q,rfl,hq⟩,rfl⟩;go_wp2;go_ret;exact⟨zan (by unfold allB;simp),rfl⟩
def OwnB (w:World) (b:Nat) (bs:List Bool):Prop:=∃cur:Array Value,w.heap[b]?=some (.cells cur 4 (0,0))∧cur.toList.take bs.length=bvals bs∧bs.length≤cur.size
theorem OwnB.bools (h:OwnB w b bs):zbz w (some ⟨b,0,none⟩) bs:=by
  obtain ⟨cur,h1,h2,h3⟩:=h;refine .inr ⟨b,0,rfl,fun i hi=> ?_⟩;rw [Nat.zero_add];refine zaa h1 i _ ?_;have:=zhw bs i hi;rw [←h2,List.getElem?_take,if_pos hi] at this
  simpa using this
theorem zl1 {base:Nat} (h:w.ownsRow base 4 1 (.slice a n c) n (bvals bs)) (hn:bs.length=n) (h0:0<n): ∃b,a=some ⟨b,0,none⟩∧base≤b∧OwnB w b bs∧n≤c:=by
  obtain ⟨_,⟨hv,h1⟩| ⟨g,cap,cur,hv,hg,hh,hc,_,hsz,ht⟩⟩:=h
  { omega }
  {
  cases hv;exact⟨g,rfl,hg,⟨cur,hh,by rw [hn];simpa using ht,by rw [hsz,hn];omega⟩,hc⟩
  }
theorem OwnB.set (h:OwnB w b bs) (i:Nat) (v:Bool):OwnB (w.setCell ⟨b,i,none⟩ (.bool v)) b (bs.set i v):=by
  obtain ⟨cur,h1,h2,h3⟩:=h;refine⟨cur.setIfInBounds i (.bool v), ?_, ?_,by simpa using h3⟩
  {
  simp only [World.setCell,Array.getElem?_modify]
  simp [h1]
  }
  {
  rw [List.length_set,Array.toList_setIfInBounds,List.take_set,h2]
  simp [bvals]
  }
theorem zma (b n c:Nat) (bs:List Bool) (w:World) (h:OwnB w b bs) (hn:bs.length=n) (h0:0<n):
    ∃w',(∀ty:TypeId,(Builtin.clear_ #[33] ty #[.slice (some ⟨b,0,none⟩) n c]).run Tryz.prog w=.ok (.tuple #[]) w')∧OwnB w' b (zbj bs)∧w.grownBy w' (some b):=by
  obtain ⟨i0,hi0,hz0,hz1,hz2⟩:=info_parts zf2;obtain ⟨cur,h1,h2,h3⟩:=h;have hst:=run_storeCells_at Tryz.prog b 0 4 (List.replicate n (Value.bool false)) 0 cur w h1 (by simp;omega) (by intro u hu;rw [List.eq_of_mem_replicate hu];rfl);have hz: (Builtin.zeroCells (Value.bool false).cells n).toList=List.replicate n (Value.bool false):=by
    unfold Builtin.zeroCells
    apply List.ext_getElem?
    intro i;simp only [Value.cells,Array.toList_map,Array.toList_range,List.getElem?_map]
    by_cases c:i<n
    { simp [c,Nat.mod_one] }
    { simp [c] }
  have hn0: ¬n=0:=by omega
  refine⟨w.setRow b (cur.toList.take (0+0)++List.replicate n (Value.bool false)++cur.toList.drop (0+0+(List.replicate n (Value.bool false)).length)).toArray, ?_, ?_, ?_⟩
  {
  intro ty
  simp [Builtin.clear_,run_underlying Tryz.underlying33,zeroValue,typeInfo,hi0,hz0,hz,hst]
  }
  {
  refine⟨_,setRow_heap w b cur _ 4 _ h1, ?_, ?_⟩
  {
  have e:bvals (zbj bs)=List.replicate n (Value.bool false):=by
    refine List.eq_replicate_iff.2 ⟨by unfold bvals zbj;simp [hn],fun x hx=> ?_⟩;unfold bvals zbj at hx;rw [List.map_map,List.mem_map] at hx;obtain ⟨y,_,rfl⟩:=hx;rfl
  have el: (zbj bs).length=n:=by unfold zbj;simp [hn]
  rw [e,el]
  simp
  }
  {
  have el: (zbj bs).length=n:=by unfold zbj;simp [hn]
  rw [el]
  simp
  }
  }
  {
  exact⟨rfl,rfl,rfl,by simp,fun k _ hk=>setRow_other w b k _ (fun e=>hk (by rw [e]))⟩
  }
end
end Go.Proofs.YthmekfcgdfckaaaGreatDoor
