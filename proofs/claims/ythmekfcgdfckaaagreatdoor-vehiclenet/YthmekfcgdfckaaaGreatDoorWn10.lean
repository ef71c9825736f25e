/- log.Records once more: where its records lie ('RecM'); the contract of unit.stateOf. The contract of gate.stateOf. The contracts of gate.Read, stateUp. -/
import Derived.Test.YthmekfcgdfckaaaGreatDoorWn9
import Derived.Test.YthmekfcgdfckaaaGreatDoorWn8
import Derived.BigQuiet
import Derived.Deep.RegionWith
set_option maxRecDepth 1000000
set_option maxHeartbeats 0
namespace Go.Proofs.YthmekfcgdfckaaaGreatDoor
variable {w W:World} {a:Option Addr} {rs:List (List Int)} {cs:Array Value} {s:Us} {r:List Int} {b:Nat} {g:Gt}
section
open Go.RowKit
attribute [local go_sem ↓] Go.wp_at_zero Go.wp_at_succ
def RecM (w:World) (a:Option Addr) (rs:List (List Int)):Prop:=
  rs= []∨∃b cur,a=some ⟨b,0,none⟩∧w.heap[b]?=some (.cells cur 208 (0,0))∧∀(i:Nat) (r:List Int),rs[i]?=some r→∃g c,cur[i]?=some (Value.slice (some ⟨g,0,none⟩) r.length c)∧za5 w g r∧r.length≤c∧c≤maxLen
theorem RecM.turns {w' :World} {S:Nat} (h:RecM w a rs) (hS:w.heap[S]?=some (.cells cs 84 (0,0))) (hg:w.grownBy w' (some S)):RecM w' a rs:=by
  rcases h with h| ⟨b,cur,rfl,hb,hr⟩
  { exact .inl h }
  {
  have hne: ∀(g:Nat) (cs' :Array Value) (t:TypeId),w.heap[g]?=some (.cells cs' t (0,0))→t≠84→g≠S:=by
    rintro g cs' t h1 h2 rfl;rw [hS] at h1
    simp at h1
    exact h2 h1.2.symm
  refine .inr ⟨b,cur,rfl,zar hb hg (hne _ _ _ hb (by decide)),fun i r hi=> ?_⟩;obtain ⟨g,c,h1,⟨cu,h2,h3⟩,h4⟩:=hr i r hi;exact⟨g,c,h1,⟨cu,zar h2 hg (hne _ _ _ h2 (by decide)),h3⟩,h4⟩
  }
theorem zbp.recM {w0:World} {v:Value} (h:zbp w0 w v rs): ∃a c,v=.slice a rs.length c∧rs.length≤c∧c≤maxLen∧RecM w a rs:=by
  obtain ⟨vs,hown,hr⟩:=h.own;obtain ⟨_,⟨hv,hn⟩| ⟨g,cap,cur,hv,hg,hh,hc,hm,_,ht⟩⟩:=hown
  { exact⟨none,0,by rw [hv,hn],by omega,by unfold maxLen;omega,.inl (List.eq_nil_of_length_eq_zero hn)⟩ }
  {
  refine⟨some ⟨g,0,none⟩,cap,hv,hc,hm,.inr ⟨g,cur,rfl,hh,fun i r hi=> ?_⟩⟩;obtain ⟨g1,c1,h1,h2,h3,h4⟩:=hr i r hi;refine⟨g1,c1, ?_,h2,h3,h4⟩;rw [←ht,List.getElem?_take] at h1
  split at h1
  { simpa using h1 }
  {
  cases h1
  }
  }
def RecsM (w:World) (rs:List (List Int)) (e:Ending) (w' :World):Prop:=
  (∃a c,e=.returned (.tuple #[.slice a rs.length c,.int .i64 0])∧RecM w' a rs∧rs.length≤c∧c≤maxLen)∧Below w.heap.size w w'
theorem zh9 (a:Option Addr) (n c:Nat) (ws:List Int) (fuel:Int) (w:World) (h:BW w a n c ws) (e1:lchk ws fuel=0):
    Calls Tryz.prog 26 #[.agg #[.slice a n c,.int .i64 fuel]] w (RecsM w (logR ws)):=by
  have hw:Below w.heap.size w (w.alloc (.cells #[.slice a n c,.int .i64 fuel] 28)):=bA1;have i0:=h.at_.below hw;have HS:=hide (fun W (h' :zag W a ws)=>zd5 a n c ws fuel W h' h.len h.max);have HG:=hide (fun W (h' :zag W a ws) (h64:64≤n)=>zfv a n c ws fuel W h' h.len h.max h64);have HP:=hide (fun W (h' :zag W a ws) (hm:n≤192) (hok:okL ws=true) (h64:64≤n)=>zmb a n c ws fuel (secN ws) W h' h.len h.cap hm hok (zgk ws) h64);have B0:=hide (heap_alloc_last w (.cells #[.slice a n c,.int .i64 fuel] 28));have parts:=zdm e1;rw [h.len] at parts;rw [e1] at HS;clear h e1;go_enter Tryz.func26,Tryz.ntmps26;go_wp2_with fail;generalize w.alloc (.cells #[.slice a n c,.int .i64 fuel] 28)=W at *;refine(zae HS _ i0).mono ?_;rintro e w1 ⟨rfl,hb1⟩;have hw1:=bT hw hb1;have c00:=zaa (zab B0.out hb1) 0 _ rfl;have c01:=zaa (zab B0.out hb1) 1 _ rfl;go_wp2_with fail;refine(zae HG _ (i0.below hb1) parts.2.1).mono ?_;rintro e w2 ⟨rfl,hb2⟩;have hw2:=bT hw1 hb2;have c10:=zaa (zab (zab B0.out hb1) hb2) 0 _ rfl;have c11:=zaa (zab (zab B0.out hb1) hb2) 1 _ rfl;go_wp2_with fail;refine(zae HP _ ((i0.below hb1).below hb2) parts.2.2.1 parts.2.2.2.1 parts.2.1).mono ?_;rintro e w3 ⟨⟨v,a3,m3,cc3,rfl,hmk,hi3,hn3,hm3,hok3⟩,hb3⟩;obtain ⟨av,cv,rfl,q1,q2,q3⟩:=hmk.recM;have HQ:=hide q3;clear hmk hn3 q3;have hw3:=bT hw2 hb3;go_wp2;go_ret2;exact⟨⟨av,cv,rfl,HQ.out,q1,q2⟩,hw3⟩
def usO (s:Us):Obj:=.cells #[.int .i64 s.slot,.int .i64 s.by',.int .i64 s.rdy] 84 (0,0)
def usv (s:Us):Value:=.agg #[.int .i64 s.slot,.int .i64 s.by',.int .i64 s.rdy]
theorem stR_step {k:Nat} (hk:k<rs.length):stR (rs.take (k+1))=zcf (stR (rs.take k)) rs[k]:=by
  unfold stR;rw [List.take_succ_eq_append_getElem hk,List.foldl_append];rfl
theorem zn1 (h:isR r 1 3=true) (h2:r.getD 1 0≤1):zcf s r= ⟨r.getD 1 0,r.getD 2 0,0⟩:=by unfold zcf;rw [if_pos (by rw [h];simpa using h2)]
theorem zng (h: ¬(isR r 1 3=true∧r.getD 1 0≤1)) (h2:isR r 2 2=true):zcf s r= ⟨s.slot,s.by',r.getD 1 0⟩:=by unfold zcf;rw [if_neg (by simpa using h),if_pos h2]
theorem zom (h: ¬(isR r 1 3=true∧r.getD 1 0≤1)) (h2: ¬isR r 2 2=true) (h3:isR r 3 2=true):zcf s r= ⟨s.slot,s.by',0⟩:=by unfold zcf;rw [if_neg (by simpa using h),if_neg h2,if_pos h3]
theorem znn (h: ¬(isR r 1 3=true∧r.getD 1 0≤1)) (h2: ¬isR r 2 2=true) (h3: ¬isR r 3 2=true):zcf s r=s:=by unfold zcf;rw [if_neg (by simpa using h),if_neg h2,if_neg h3]
theorem zlq {k:Int} {l:Nat} (h:isR r k l=true):r.length=l:=by
  unfold isR at h;rw [Bool.and_eq_true] at h
  simpa using h.1
structure SB (W:World) (B:Nat) (s:Us):Prop where
  b1:W.heap[B+1]?=some (usO us0)
  b2:W.heap[B+1+1]?=some (usO s)
theorem us_set3 {t:Us} (h:W.heap[b]?=some (usO s)): (((W.setCell ⟨b,0,none⟩ (.int .i64 t.slot)).setCell ⟨b,1,none⟩ (.int .i64 t.by')).setCell ⟨b,2,none⟩ (.int .i64 t.rdy)).heap[b]?=some (usO t):=by
  unfold usO at h⊢;simp only [World.setCell,Array.getElem?_modify]
  simp [h]
theorem us_set1 {x:Int} (h:W.heap[b]?=some (usO s)): (W.setCell ⟨b,2,none⟩ (.int .i64 x)).heap[b]?=some (usO ⟨s.slot,s.by',x⟩):=by
  unfold usO at h⊢;simp only [World.setCell,Array.getElem?_modify]
  simp [h]
theorem zbv {w' :World} {B:Option Nat} (h:w.grownBy w' B):w.grownBy w'.drew B:=⟨h.os,h.tape,h.output,h.size,h.block⟩
theorem zfn {o:Obj} (h:w.heap[b]?=some o):w.drew.heap[b]?=some o:=h
def isI (r:List Int) (k l:Int):Bool:=isR r k l.toNat
theorem zo1 (a:Option Addr) (n c:Nat) (r:List Int) (k l:Int) (w:World) (h:zag w a r) (hn:r.length=n) (hm:n≤maxLen) (h0:0<l) (hl:l≤10):
    Calls Tryz.prog 177 #[.slice a n c,.int .i64 k,.int .i64 l] w fun e w' =>e=.returned (.bool (isI r k l))∧w' =w:=by
  obtain ⟨q,rfl⟩: ∃q:Nat,l=q:=⟨l.toNat,by omega⟩;exact zqu a n c r k q w h hn hm (by omega) (by omega)
theorem zaw (w:World) (B i:Nat) (v:Value):w.grownBy (w.setCell ⟨B,i,none⟩ v) (some B):=zac (World.grownBy.refl _ _) i v
theorem zgc (a:Option Addr) (n c:Nat) (ws:List Int) (fuel:Int) (w:World) (h:BW w a n c ws) (e1:lchk ws fuel=0):
    Calls Tryz.prog 111 #[.agg #[.slice a n c,.int .i64 fuel]] w fun e w' =>e=.returned (usv (stOf ws))∧Below w.heap.size w w' :=by
  have hw0:Below w.heap.size w (((w.alloc (.cells #[.slice a n c,.int .i64 fuel] 28)).alloc (usO us0)).alloc (usO us0)):=(bA2).alloc (by simp;omega) _;have b0:Hid ((((w.alloc (.cells #[.slice a n c,.int .i64 fuel] 28)).alloc (usO us0)).alloc (usO us0)).heap[w.heap.size]?=some (.cells #[.slice a n c,.int .i64 fuel] 28 (0,0))):=zai (zai (heap_alloc_last _ _) _) _;have sb:Hid (SB (((w.alloc (.cells #[.slice a n c,.int .i64 fuel] 28)).alloc (usO us0)).alloc (usO us0)) w.heap.size us0):=⟨zai (zau _ _ _) _,zb9 _ _ _ _⟩;have HR:=hide (fun W (hW:Below w.heap.size w W)=>zh9 a n c ws fuel W (h.below hW) e1);have hfew: (logR ws).length≤31:=zoq (by have:=zdm e1;omega);have HS:Hid (stOf ws=stR (logR ws)):=rfl;clear h e1;generalize logR ws=rs at *;have x0:=zaa b0.out 0 _ rfl;have x1:=zaa b0.out 1 _ rfl;unfold usO us0 at hw0 b0 sb x0 x1;go_enter Tryz.func111,Tryz.ntmps111;go_wp2_with fail;generalize ((w.alloc (.cells #[.slice a n c,.int .i64 fuel] 28)).alloc (.cells #[.int .i64 0,.int .i64 0,.int .i64 0] 84)).alloc (.cells #[.int .i64 0,.int .i64 0,.int .i64 0] 84)=W at *;refine(zae HR _ hw0).mono ?_;rintro e w1 ⟨⟨ar,cr,rfl,hrm,hlc,hcm⟩,hb⟩;replace sb:Hid (SB w1 w.heap.size us0):=⟨zab sb.out.b1 hb,zab sb.out.b2 hb⟩;replace hw0:=bT hw0 hb;clear hb HR x0 x1 b0;obtain ⟨nr,hnr⟩: ∃nr,nr=rs.length:=⟨_,rfl⟩;rw [←hnr] at hfew hlc⊢;have LR:=hide hnr;have HM:=hide hrm;clear hnr hrm;go_wp2_with fail
  go_loopw [15] (fun i wr=>∃k:Nat,k≤nr∧i=.int .i64 k∧Below w.heap.size w wr∧Hid (SB wr w.heap.size (stR (rs.take k)))∧Hid (RecM wr ar rs)) (fun i _=>nr - (intOf i).toNat)
  case atStart=>exact⟨0,Nat.zero_le _,rfl,hw0,by show SB _ _ _;simpa [stR] using sb.out,HM⟩
  case round=>
    clear hw0 sb HM;obtain ⟨wq,rfl⟩: ∃wq:World,wq=wr:=⟨_,rfl⟩;obtain ⟨k,hk,rfl,hw,sb,hm⟩:=hrel;generalize hst:stR (rs.take k)=st at *
    by_cases hlt:k<nr
    {
    have hkx:k<rs.length:=by rw [←LR.out];exact hlt
    have HX:=hide (stR_step hkx);rw [hst] at HX
    rcases hm.out with e| ⟨b,cur,rfl,hb,hr⟩
    { rw [e] at hkx;simp at hkx }
    obtain ⟨g,cg,h1,h2,h3,h4⟩:=hr k rs[k] (List.getElem?_eq_getElem hkx);have ec:=zaa hb k _ h1;have hin:=h2.isInts;have hcell:=fun i hi=>h2.cell i hi
    clear hst hr h1 hb;generalize rs[k]=r at *;obtain ⟨m,hmr⟩: ∃m,m=r.length:=⟨_,rfl⟩;rw [←hmr] at ec h3;unfold maxLen at h4;have HI:=hide (fun (k:Int) (l:Int) (h0:0<l) (h1:l≤10)=>zo1 (some ⟨g,0,none⟩) m cg r k l wq hin hmr.symm (by unfold maxLen;omega) h0 h1);have LM:=hide hmr;have S2:=hide sb.out.b2;have S1:=hide sb.out.b1;have N1:=hide (zn1 (s:=st) (r:=r));have N2:=hide (zng (s:=st) (r:=r));have N3:=hide (zom (s:=st) (r:=r));have N0:=hide (znn (s:=st) (r:=r));have C1:=hide (hcell 1);have C2:=hide (hcell 2);clear hmr hcell hin h2;have frame: ∀(w' :World) (s' :Us),wq.grownBy w' (some (w.heap.size+1+1))→w'.heap[w.heap.size+1+1]?=some (usO s')→Below w.heap.size w w' ∧SB w' w.heap.size s' ∧RecM w' (some ⟨b,0,none⟩) rs:=by
      intro w' s' hg hb2;exact⟨zam hw hg (by omega) hw.size,⟨zar S1.out hg (by omega),hb2⟩,hm.out.turns (by unfold usO at S2;exact S2.out) hg⟩
    have FR:=hide frame;clear frame;unfold usO us0 at S1;unfold usO at S2;have s0:=zaa S2.out 0 _ rfl;have s1:=zaa S2.out 1 _ rfl;have s2:=zaa S2.out 2 _ rfl;have f0:=zad S2.out 0;have f1:=zad S2.out 1;have f2:=zad S2.out 2;cases g1:isI r 1 3
    {
    have hno: ¬(isR r 1 3=true∧r.getD 1 0≤1):=fun h=>by rw [show isR r 1 3=isI r 1 3 from rfl,g1] at h;cases h.1
    cases g2:isI r 2 2
    {
    have hn2: ¬isR r 2 2=true:=by rw [show isR r 2 2=isI r 2 2 from rfl,g2];decide
    cases g3:isI r 3 2
    {
    have HN:=hide (HX.out.trans (N0.out hno hn2 (by rw [show isR r 3 2=isI r 3 2 from rfl,g3];decide)));clear hno hn2
    go_wp2_with (go_at_call 177;refine(zae HI _ _ (by decide) (by decide)).mono ?_;rintro e w' ⟨rfl,rfl⟩)
    go_roundw
    case rel=>exact⟨k+1,by omega,by go_num,hw,by show SB _ _ _;rw [HN.out];exact sb.out,hm⟩
    case measure=>simp [intOf];omega
    }
    {
    have HN:=hide (HX.out.trans (N3.out hno hn2 g3));clear hno hn2
    go_wp2_with (go_at_call 177;refine(zae HI _ _ (by decide) (by decide)).mono ?_;rintro e w' ⟨rfl,rfl⟩)
    go_roundw
    case rel=>
      obtain ⟨q1,q2,q3⟩:=FR.out _ ⟨st.slot,st.by',0⟩ (zaw _ _ _ _) (us_set1 S2.out);exact⟨k+1,by omega,by go_num,q1,by show SB _ _ _;rw [HN.out];exact q2,q3⟩
    case measure=>simp [intOf];omega
    }
    }
    {
    have HN:=hide (HX.out.trans (N2.out hno g2));have hl:m=2:=by rw [LM.out];exact zlq g2
    subst hl;have c1:=C1.out (by rw [←LM.out];omega);clear hno;generalize r.getD 1 0=r1 at *
    go_wp2_with (go_at_call 177;refine(zae HI _ _ (by decide) (by decide)).mono ?_;rintro e w' ⟨rfl,rfl⟩)
    go_roundw
    case rel=>
      obtain ⟨q1,q2,q3⟩:=FR.out _ ⟨st.slot,st.by',r1⟩ (zaw _ _ _ _) (us_set1 S2.out);exact⟨k+1,by omega,by go_num,q1,by show SB _ _ _;rw [HN.out];exact q2,q3⟩
    case measure=>simp [intOf];omega
    }
    }
    {
    have hl:m=3:=by rw [LM.out];exact zlq g1
    subst hl;have c1:=C1.out (by rw [←LM.out];omega);have c2:=C2.out (by rw [←LM.out];omega)
    by_cases z:r.getD 1 0≤1
    {
    have HN:=hide (HX.out.trans (N1.out g1 z));clear N1 N2 N3 N0;generalize r.getD 1 0=r1 at *;generalize r.getD 2 0=r2 at *;go_upto_region 7 with (go_at_call 177;refine(zae HI _ _ (by decide) (by decide)).mono ?_;rintro e w' ⟨rfl,rfl⟩)
    go_region
    go_wp2_with fail
    go_roundw
    case rel=>
      obtain ⟨q1,q2,q3⟩:=FR.out _ ⟨r1,r2,0⟩ (zac (zac (zac (zbv (World.grownBy.refl _ _)) _ _) _ _) _ _) (us_set3 (t:=⟨r1,r2,0⟩) (zfn S2.out));exact⟨k+1,by omega,by go_num,q1,by show SB _ _ _;rw [HN.out];exact q2,q3⟩
    case measure=>simp [intOf];omega
    }
    {
    have hno: ¬(isR r 1 3=true∧r.getD 1 0≤1):=fun h=>z h.2
    have g2:isI r 2 2=false:=by unfold isI isR;rw [←LM.out];rfl
    have g3:isI r 3 2=false:=by unfold isI isR;rw [←LM.out];rfl
    have HN:=hide (HX.out.trans (N0.out hno (by rw [show isR r 2 2=isI r 2 2 from rfl,g2];decide) (by rw [show isR r 3 2=isI r 3 2 from rfl,g3];decide)));have d1:decide (r.getD 1 0≤1)=false:=by simpa using z
    clear hno N1 N2 N3 N0 z;generalize r.getD 1 0=r1 at *
    go_wp2_with (go_at_call 177;refine(zae HI _ _ (by decide) (by decide)).mono ?_;rintro e w' ⟨rfl,rfl⟩)
    go_roundw
    case rel=>exact⟨k+1,by omega,by go_num,hw,by show SB _ _ _;rw [HN.out];exact sb.out,hm⟩
    case measure=>simp [intOf];omega
    }
    }
    }
    {
    have hx:stR rs=st:=by rw [←hst,List.take_of_length_le (by rw [←LR.out];omega)]
    have HE:=hide (HS.out.trans hx);have S2:=hide sb.out.b2;have S1:=hide sb.out.b1;unfold usO us0 at S1;unfold usO at S2;have s0:=zaa S2.out 0 _ rfl;have s1:=zaa S2.out 1 _ rfl;have s2:=zaa S2.out 2 _ rfl;have y0:=zaa S1.out 0 _ rfl;have y1:=zaa S1.out 1 _ rfl;have y2:=zaa S1.out 2 _ rfl;have f0:=zad S1.out 0;have f1:=zad S1.out 1;have f2:=zad S1.out 2;clear hx hst;go_wp2_with fail;refine bodyPost_ret (v:=usv st) (by simp [results,Tryz.results111,go_sem,usv,y0,y1,y2]) rfl ?_;rw [HE.out];exact⟨rfl,((hw.setCell (by show w.heap.size≤w.heap.size+1;omega) _).setCell (by show w.heap.size≤w.heap.size+1;omega) _).setCell (by show w.heap.size≤w.heap.size+1;omega) _⟩
    }
end
section
open Go.RowKit
attribute [local go_sem ↓] Go.wp_at_zero Go.wp_at_succ
theorem RecM.turnsG {w' :World} {S:Nat} (h:RecM w a rs) (hS:w.heap[S]?=some (.cells cs 72 (0,0))) (hg:w.grownBy w' (some S)):RecM w' a rs:=by
  rcases h with h| ⟨b,cur,rfl,hb,hr⟩
  { exact .inl h }
  {
  have hne: ∀(g:Nat) (cs' :Array Value) (t:TypeId),w.heap[g]?=some (.cells cs' t (0,0))→t≠72→g≠S:=by
    rintro g cs' t h1 h2 rfl;rw [hS] at h1
    simp at h1
    exact h2 h1.2.symm
  refine .inr ⟨b,cur,rfl,zar hb hg (hne _ _ _ hb (by decide)),fun i r hi=> ?_⟩;obtain ⟨g,c,h1,⟨cu,h2,h3⟩,h4⟩:=hr i r hi;exact⟨g,c,h1,⟨cu,zar h2 hg (hne _ _ _ h2 (by decide)),h3⟩,h4⟩
  }
theorem gR_step {k:Nat} (hk:k<rs.length):gR (rs.take (k+1))=gNext (gR (rs.take k)) rs[k]:=by
  unfold gR;rw [List.take_succ_eq_append_getElem hk,List.foldl_append];rfl
theorem gNext_1 {s:Gs} (h:isBeg r=true):gNext s r= ⟨r.getD 1 0,r.getD 2 0,false,false,false⟩:=by unfold gNext;rw [if_pos h]
theorem gNext_2 {s:Gs} (h:isBeg r=false) (h2:isOf s r=true):gNext s r=trnG s (r.getD 0 0):=by unfold gNext;rw [if_neg (by rw [h];decide),if_pos h2]
theorem gNext_0 {s:Gs} (h:isBeg r=false) (h2:isOf s r=false):gNext s r=s:=by unfold gNext;rw [if_neg (by rw [h];decide),if_neg (by rw [h2];decide)]
structure SG (W:World) (B:Nat) (s:Gs):Prop where
  b1:W.heap[B+1]?=some (gsO gs0)
  b2:W.heap[B+1+1]?=some (gsO s)
theorem gs_set5 {s t:Gs} (h:W.heap[b]?=some (gsO s)): (((((W.setCell ⟨b,0,none⟩ (.int .i64 t.n)).setCell ⟨b,1,none⟩ (.int .i64 t.v)).setCell ⟨b,2,none⟩ (.bool t.co)).setCell ⟨b,3,none⟩ (.bool t.ab)).setCell ⟨b,4,none⟩ (.bool t.en)).heap[b]?=some (gsO t):=by
  unfold gsO at h⊢;simp only [World.setCell,Array.getElem?_modify]
  simp [h]
theorem zg0 (w:World) (B:Nat) (v0 v1 v2 v3 v4:Value):w.grownBy (((((w.setCell ⟨B,0,none⟩ v0).setCell ⟨B,1,none⟩ v1).setCell ⟨B,2,none⟩ v2).setCell ⟨B,3,none⟩ v3).setCell ⟨B,4,none⟩ v4) (some B):=
  zac (zac (zac (zac (zac (World.grownBy.refl _ _) 0 v0) 1 v1) 2 v2) 3 v3) 4 v4
theorem zfu (a:Option Addr) (n c:Nat) (ws:List Int) (fuel:Int) (w:World) (h:BW w a n c ws) (e1:lchk ws fuel=0):
    Calls Tryz.prog 105 #[.agg #[.slice a n c,.int .i64 fuel]] w fun e w' =>e=.returned (gsv (gOf ws))∧Below w.heap.size w w' :=by
  have hw0:Below w.heap.size w (((w.alloc (.cells #[.slice a n c,.int .i64 fuel] 28)).alloc (gsO gs0)).alloc (gsO gs0)):=(bA2).alloc (by simp;omega) _;have b0:Hid ((((w.alloc (.cells #[.slice a n c,.int .i64 fuel] 28)).alloc (gsO gs0)).alloc (gsO gs0)).heap[w.heap.size]?=some (.cells #[.slice a n c,.int .i64 fuel] 28 (0,0))):=zai (zai (heap_alloc_last _ _) _) _;have sb:Hid (SG (((w.alloc (.cells #[.slice a n c,.int .i64 fuel] 28)).alloc (gsO gs0)).alloc (gsO gs0)) w.heap.size gs0):=⟨zai (zau _ _ _) _,zb9 _ _ _ _⟩;have HR:=hide (fun W (hW:Below w.heap.size w W)=>zh9 a n c ws fuel W (h.below hW) e1);have hfew: (logR ws).length≤31:=zoq (by have:=zdm e1;omega);have HS:Hid (gOf ws=gR (logR ws)):=rfl;clear h e1;generalize logR ws=rs at *;have x0:=zaa b0.out 0 _ rfl;have x1:=zaa b0.out 1 _ rfl;unfold gsO gs0 at hw0 b0 sb x0 x1;go_enter Tryz.func105,Tryz.ntmps105;go_wp2_with fail;generalize ((w.alloc (.cells #[.slice a n c,.int .i64 fuel] 28)).alloc (.cells aX 72)).alloc (.cells aX 72)=W at *;refine(zae HR _ hw0).mono ?_;rintro e w1 ⟨⟨ar,cr,rfl,hrm,hlc,hcm⟩,hb⟩;replace sb:Hid (SG w1 w.heap.size gs0):=⟨zab sb.out.b1 hb,zab sb.out.b2 hb⟩;replace hw0:=bT hw0 hb;clear hb HR x0 x1 b0;obtain ⟨nr,hnr⟩: ∃nr,nr=rs.length:=⟨_,rfl⟩;rw [←hnr] at hfew hlc⊢;have LR:=hide hnr;have HM:=hide hrm;clear hnr hrm;go_wp2_with fail
  go_loopw [15] (fun i wr=>∃k:Nat,k≤nr∧i=.int .i64 k∧Below w.heap.size w wr∧Hid (SG wr w.heap.size (gR (rs.take k)))∧Hid (RecM wr ar rs)) (fun i _=>nr - (intOf i).toNat)
  case atStart=>exact⟨0,Nat.zero_le _,rfl,hw0,by show SG _ _ _;simpa [gR] using sb.out,HM⟩
  case round=>
    clear hw0 sb HM;obtain ⟨wq,rfl⟩: ∃wq:World,wq=wr:=⟨_,rfl⟩;obtain ⟨k,hk,rfl,hw,sb,hm⟩:=hrel;generalize hst:gR (rs.take k)=st at *
    by_cases hlt:k<nr
    {
    have hkx:k<rs.length:=by rw [←LR.out];exact hlt
    have HX:=hide (gR_step hkx);rw [hst] at HX
    rcases hm.out with e| ⟨b,cur,rfl,hb,hr⟩
    { rw [e] at hkx;simp at hkx }
    obtain ⟨g,cg,h1,h2,h3,h4⟩:=hr k rs[k] (List.getElem?_eq_getElem hkx);have ec:=zaa hb k _ h1;have hcell:=fun i hi=>h2.cell i hi
    clear hst hr h1 hb;generalize rs[k]=r at *;obtain ⟨m,hmr⟩: ∃m,m=r.length:=⟨_,rfl⟩;rw [←hmr] at ec h3;unfold maxLen at h4;have LM:=hide hmr;have S2:=hide sb.out.b2;have S1:=hide sb.out.b1;have N1:=hide (gNext_1 (s:=st) (r:=r));have N2:=hide (gNext_2 (s:=st) (r:=r));have N0:=hide (gNext_0 (s:=st) (r:=r));have C0:=hide (hcell 0);have C1:=hide (hcell 1);have C2:=hide (hcell 2);clear hmr hcell h2;have frame: ∀(w' :World) (s' :Gs),wq.grownBy w' (some (w.heap.size+1+1))→w'.heap[w.heap.size+1+1]?=some (gsO s')→Below w.heap.size w w' ∧SG w' w.heap.size s' ∧RecM w' (some ⟨b,0,none⟩) rs:=by
      intro w' s' hg hb2;exact⟨zam hw hg (by omega) hw.size,⟨zar S1.out hg (by omega),hb2⟩,hm.out.turnsG (by unfold gsO at S2;exact S2.out) hg⟩
    have FR:=hide frame;clear frame;unfold gsO gs0 at S1;unfold gsO at S2;obtain ⟨s0,s1,s2,s3,s4⟩:=cl5 S2.out;obtain ⟨f0,f1,f2,f3,f4⟩:=fr5 S2.out
    by_cases z3:m=3
    {
    subst z3;have hl3:r.length=3:=LM.out.symm;have c0:=C0.out (by rw [hl3];decide);have c1:=C1.out (by rw [hl3];decide);have c2:=C2.out (by rw [hl3];decide);have hof:isOf st r=false:=by unfold isOf;rw [hl3];rfl
    by_cases y0:r.getD 0 0=1
    {
    cases y1:inB (r.getD 1 0) 1 8
    {
    have HN:=hide (HX.out.trans (N0.out (by unfold isBeg;rw [y1];simp) hof));rw [y0] at c0;clear N1 N2 N0 y0 hof hl3 C0 C1 C2;generalize r.getD 1 0=r1 at *;generalize r.getD 2 0=r2 at *;go_upto_region 8 with (go_at_call 135;refine(zbc _ _ _ _).mono ?_;rintro e w' ⟨rfl,rfl⟩)
    go_quiet (fail);go_wp2_with fail
    go_roundw
    case rel=>
      obtain ⟨q1,q2,q3⟩:=FR.out _ st (zaj (below_drewN (Below.refl _ _) nq) _) (zab (by unfold gsO;exact S2.out) (below_drewN (Below.refl _ _) nq));exact⟨k+1,by omega,by go_num,q1,by show SG _ _ _;rw [HN.out];exact q2,q3⟩
    case measure=>simp [intOf];omega
    }
    {
    have HN:=hide (HX.out.trans (N1.out (by unfold isBeg;rw [hl3,y0,y1];rfl)));rw [y0] at c0;clear N1 N2 N0 y0 hof hl3 C0 C1 C2;generalize r.getD 1 0=r1 at *;generalize r.getD 2 0=r2 at *;go_upto_region 7 with (go_at_call 135;refine(zbc _ _ _ _).mono ?_;rintro e w' ⟨rfl,rfl⟩)
    go_region
    go_wp2_with fail
    go_roundw
    case rel=>
      obtain ⟨q1,q2,q3⟩:=FR.out _ ⟨r1,r2,false,false,false⟩ ((zbv (World.grownBy.refl _ _)).trans (zg0 _ _ _ _ _ _ _)) (gs_set5 (s:=st) (t:=⟨r1,r2,false,false,false⟩) (by unfold gsO;exact zfn S2.out));exact⟨k+1,by omega,by go_num,q1,by show SG _ _ _;rw [HN.out];exact q2,q3⟩
    case measure=>simp [intOf];omega
    }
    }
    {
    have HN:=hide (HX.out.trans (N0.out (by unfold isBeg;rw [decide_eq_false y0];simp) hof));have d0: (r.getD 0 0==1)=false:=by simpa using y0
    clear N1 N2 N0 y0 hof hl3 C0 C1 C2;generalize r.getD 0 0=r0 at *;go_upto_region 8 with (go_at_call 135;refine(zbc _ _ _ _).mono ?_;rintro e w' ⟨rfl,rfl⟩)
    go_quiet (fail);go_wp2_with fail
    go_roundw
    case rel=>
      obtain ⟨q1,q2,q3⟩:=FR.out _ st (zaj (below_drewN (Below.refl _ _) nq) _) (zab (by unfold gsO;exact S2.out) (below_drewN (Below.refl _ _) nq));exact⟨k+1,by omega,by go_num,q1,by show SG _ _ _;rw [HN.out];exact q2,q3⟩
    case measure=>simp [intOf];omega
    }
    }
    have d3: ((m:Int)==3)=false:=by simp;omega
    have hbeg:isBeg r=false:=by unfold isBeg;rw [←LM.out];simp [z3]
    by_cases z2:m=2
    rotate_left
    {
    have d2: ((m:Int)==2)=false:=by simp;omega
    have HN:=hide (HX.out.trans (N0.out hbeg (by unfold isOf;rw [←LM.out];simp [z2])));clear N1 N2 N0 C0 C1 C2 z2 z3 hbeg;go_upto_region 8 with (go_at_call 135;refine(zbc _ _ _ _).mono ?_;rintro e w' ⟨rfl,rfl⟩)
    go_quiet (fail);go_wp2_with fail
    go_roundw
    case rel=>
      obtain ⟨q1,q2,q3⟩:=FR.out _ st (zaj (below_drewN (Below.refl _ _) nq) _) (zab (by unfold gsO;exact S2.out) (below_drewN (Below.refl _ _) nq));exact⟨k+1,by omega,by go_num,q1,by show SG _ _ _;rw [HN.out];exact q2,q3⟩
    case measure=>simp [intOf];omega
    }
    subst z2;have hl2:r.length=2:=LM.out.symm;have c0:=C0.out (by rw [hl2];decide);have c1:=C1.out (by rw [hl2];decide);clear d3 z3
    by_cases y0:st.n=0
    {
    have HN:=hide (HX.out.trans (N0.out hbeg (by unfold isOf;simp [y0])));have e0: (st.n !=0)=false:=by simpa using y0
    clear N1 N2 N0 C0 C1 C2 hbeg y0 hl2;go_upto_region 8 with (go_at_call 135;refine(zbc _ _ _ _).mono ?_;rintro e w' ⟨rfl,rfl⟩)
    go_quiet (fail);go_wp2_with fail
    go_roundw
    case rel=>
      obtain ⟨q1,q2,q3⟩:=FR.out _ st (zaj (below_drewN (Below.refl _ _) nq) _) (zab (by unfold gsO;exact S2.out) (below_drewN (Below.refl _ _) nq));exact⟨k+1,by omega,by go_num,q1,by show SG _ _ _;rw [HN.out];exact q2,q3⟩
    case measure=>simp [intOf];omega
    }
    have e0: (st.n !=0)=true:=by simpa using y0
    by_cases y1:r.getD 1 0=st.n
    rotate_left
    {
    have HN:=hide (HX.out.trans (N0.out hbeg (by unfold isOf;rw [decide_eq_false y1];simp)));have e1: (r.getD 1 0==st.n)=false:=by simpa using y1
    clear N1 N2 N0 C0 C1 C2 hbeg y0 y1 hl2;generalize r.getD 1 0=r1 at *;go_upto_region 8 with (go_at_call 135;refine(zbc _ _ _ _).mono ?_;rintro e w' ⟨rfl,rfl⟩)
    go_quiet (fail);go_wp2_with fail
    go_roundw
    case rel=>
      obtain ⟨q1,q2,q3⟩:=FR.out _ st (zaj (below_drewN (Below.refl _ _) nq) _) (zab (by unfold gsO;exact S2.out) (below_drewN (Below.refl _ _) nq));exact⟨k+1,by omega,by go_num,q1,by show SG _ _ _;rw [HN.out];exact q2,q3⟩
    case measure=>simp [intOf];omega
    }
    have e1: (r.getD 1 0==st.n)=true:=by simpa using y1
    have HN:=hide (HX.out.trans (N2.out hbeg (by unfold isOf;rw [hl2,decide_eq_true (p:=st.n≠0) y0,decide_eq_true y1];rfl)));have HT:=hide (fun W=>zp9 st (r.getD 0 0) W);unfold gsv at HT;clear N1 N2 N0 C0 C1 C2 hbeg y0 y1 hl2;generalize trnG st (r.getD 0 0)=tt at *;generalize r.getD 0 0=r0 at *;generalize r.getD 1 0=r1 at *;go_upto_region 8 with (go_at_call 135;refine(zbc _ _ _ _).mono ?_;rintro e w' ⟨rfl,rfl⟩)
    go_quiet (fail);go_upto_region 9 with fail
    have hbq:Below wq.heap.size wq (wq.drewN nq):=below_drewN (Below.refl _ _) nq;have ltS:=zak S2.out;generalize hWq:wq.drewN nq=W2 at *;clear hWq;have X2:=hide (zab S2.out hbq);have cg0:=(hbq.cell (zah c0)).trans c0;obtain ⟨x0,x1,x2,x3,x4⟩:=cl5 X2.out;clear s0 s1 s2 s3 s4 f0 f1 f2 f3 f4 c0 c1 ec e0 e1
    go_region_with ((go_at_call 172;refine(zae HT _).mono ?_;rintro e w6 ⟨rfl,hb6⟩;have hk6:Below W2.heap.size W2 w6:=(Below.refl _ W2).drew.trans (hb6.mono (Nat.le_refl _));have X6:=hide (zab X2.out hk6);have t0:=zaa X6.out 0 _ rfl;have q0:=zad X6.out 0;have t1:=zaa X6.out 1 _ rfl;have q1:=zad X6.out 1;have t2:=zaa X6.out 2 _ rfl;have q2:=zad X6.out 2;have t3:=zaa X6.out 3 _ rfl;have q3:=zad X6.out 3;have t4:=zaa X6.out 4 _ rfl;have q4:=zad X6.out 4))
    all_goals
      go_wp2_with fail
      go_roundw
      case rel=>
        obtain ⟨q1,q2,q3⟩:=FR.out _ tt ((zaj ((bT hbq hk6)) _).trans (zg0 _ _ _ _ _ _ _)) (gs_set5 (s:=st) (t:=tt) (by unfold gsO;exact X6.out));exact⟨k+1,by omega,by go_num,q1,by show SG _ _ _;rw [HN.out];exact q2,q3⟩
      case measure=>simp [intOf];omega
    }
    {
    have hx:gR rs=st:=by rw [←hst,List.take_of_length_le (by rw [←LR.out];omega)]
    have HE:=hide (HS.out.trans hx);have S2:=hide sb.out.b2;have S1:=hide sb.out.b1;unfold gsO gs0 at S1;unfold gsO at S2;obtain ⟨s0,s1,s2,s3,s4⟩:=cl5 S2.out;obtain ⟨y0,y1,y2,y3,y4⟩:=cl5 S1.out;obtain ⟨f0,f1,f2,f3,f4⟩:=fr5 S1.out;clear hx hst;go_wp2_with fail;refine bodyPost_ret (v:=gsv st) (by simp [results,Tryz.results105,go_sem,gsv,y0,y1,y2,y3,y4]) rfl ?_;rw [HE.out];exact⟨rfl,zam hw (zg0 _ _ _ _ _ _ _) (by omega) hw.size⟩
    }
end
section
open Go.RowKit
attribute [local go_sem ↓] Go.wp_at_zero Go.wp_at_succ
theorem gReadS_e (h:gtE g≠0):zc3 g= (gs0,gtE g):=by unfold zc3;rw [if_pos h]
theorem zt2 (h:gtE g=0):zc3 g= (gOf g.ws,0):=by unfold zc3;rw [if_neg (by simpa using h)]
def gUpS (g:Gt):Gs×Int:=if upE g≠0 then(gs0,upE g) else(gOf g.ws,0)
theorem upE_e (h:gtE g≠0):upE g=gtE g:=by unfold upE;rw [if_pos h]
theorem upE_7 (h:gtE g=0) (h2:g.up=false):upE g=7:=by unfold upE;rw [if_neg (by simpa using h),if_neg (by rw [h2];decide)]
theorem upE_0 (h:gtE g=0) (h2:g.up=true):upE g=0:=by unfold upE;rw [if_neg (by simpa using h),if_pos h2]
theorem gUpS_e (h:gtE g≠0):gUpS g= (gs0,gtE g):=by unfold gUpS;rw [upE_e h,if_pos h]
theorem gUpS_7 (h:gtE g=0) (h2:g.up=false):gUpS g= (gs0,7):=by unfold gUpS;rw [upE_7 h h2,if_pos (by decide)]
theorem gUpS_0 (h:gtE g=0) (h2:g.up=true):gUpS g= (gOf g.ws,0):=by unfold gUpS;rw [upE_0 h h2,if_neg (by decide)]
theorem zh0 (g:Gt) (m:GA) (w:World) (h:GIn w m g):
    Calls Tryz.prog 25 #[gtv g m] w fun e w' =>e=.returned (.tuple #[gsv (zc3 g).1,.int .i64 (zc3 g).2])∧Below w.heap.size w w' :=by
  have E1:=fun h=>gReadS_e (g:=g) h
  have E0:=fun h=>zt2 (g:=g) h
  have hw0:Below w.heap.size w ((w.alloc (.cells (aG m g) 35)).alloc (.cells aX 72)):=bA2;have b0:Hid (((w.alloc (.cells (aG m g) 35)).alloc (.cells aX 72)).heap[w.heap.size]?=some (.cells (aG m g) 35 (0,0))):=zai (heap_alloc_last _ _) _;have b1:Hid (((w.alloc (.cells (aG m g) 35)).alloc (.cells aX 72)).heap[w.heap.size+1]?=some (.cells aX 72 (0,0))):=zau _ _ _;have HC:=hide (fun W (hW:Below w.heap.size w W)=>zca g m W (h.below hW));have HS:=hide (fun (e1:lchk g.ws g.fu=0) W (hW:Below w.heap.size w W)=>zfu m.a m.n m.c g.ws g.fu W (h.ws.below hW) e1);have hx:w.heap.size≤w.heap.size+1:=by omega
  unfold gtv at *;clear h;go_enter Tryz.func25,Tryz.ntmps25;go_wp2_with fail;generalize ((w.alloc (.cells (aG m g) 35)).alloc (.cells aX 72))=W at *;refine(zae HC _ hw0).mono ?_;rintro e w1 ⟨rfl,hb⟩;replace b0:=hide (zab b0.out hb);replace b1:=hide (zab b1.out hb);replace hw0:=bT hw0 hb;clear hb HC
  by_cases z1:gtE g=0
  rotate_left
  {
  have HE:=hide (E1 z1);have d1: (gtE g !=0)=true:=by simpa using z1
  obtain ⟨y0,y1,y2,y3,y4⟩:=cl5 b1.out;obtain ⟨f0,f1,f2,f3,f4⟩:=fr5 b1.out;clear z1 E1 E0;generalize gtE g=q at *;go_wp2_with fail;refine bodyPost_ret (v:=.tuple #[gsv gs0,.int .i64 q]) (by simp [results,Tryz.results25,go_sem,gsv,gs0,y0,y1,y2,y3,y4]) rfl ?_;rw [HE.out];exact⟨rfl,((((hw0.setCell hx _).setCell hx _).setCell hx _).setCell hx _).setCell hx _⟩
  }
  have HE:=hide (E0 z1);have HSt:=hide (HS.out (zen z1).1 _ hw0);rw [z1];clear z1 E1 E0 HS;have x0:=zaa b0.out 0 _ rfl;have x1:=zaa b0.out 1 _ rfl;go_wp2_with fail;refine(zae HSt).mono ?_;rintro e w2 ⟨rfl,hb⟩;replace b1:=hide (zab b1.out hb);replace hw0:=bT hw0 hb;clear hb HSt x0 x1;obtain ⟨y0,y1,y2,y3,y4⟩:=cl5 b1.out;obtain ⟨f0,f1,f2,f3,f4⟩:=fr5 b1.out;generalize gOf g.ws=s at *;unfold gsv;go_wp2_with fail;refine bodyPost_ret (v:=.tuple #[gsv s,.int .i64 0]) (by simp [results,Tryz.results25,go_sem,gsv,y0,y1,y2,y3,y4]) rfl ?_;rw [HE.out];exact⟨rfl,((((hw0.setCell hx _).setCell hx _).setCell hx _).setCell hx _).setCell hx _⟩
theorem zf8 (g:Gt) (m:GA) (w:World) (h:GIn w m g):
    Calls Tryz.prog 239 #[gtv g m] w fun e w' =>e=.returned (.tuple #[gsv (gUpS g).1,.int .i64 (gUpS g).2])∧Below w.heap.size w w' :=by
  have E1:=fun h=>gUpS_e (g:=g) h
  have E7:=fun h h2=>gUpS_7 (g:=g) h h2
  have E0:=fun h h2=>gUpS_0 (g:=g) h h2
  have hw0:Below w.heap.size w ((w.alloc (.cells (aG m g) 35)).alloc (.cells aX 72)):=bA2;have b0:Hid (((w.alloc (.cells (aG m g) 35)).alloc (.cells aX 72)).heap[w.heap.size]?=some (.cells (aG m g) 35 (0,0))):=zai (heap_alloc_last _ _) _;have b1:Hid (((w.alloc (.cells (aG m g) 35)).alloc (.cells aX 72)).heap[w.heap.size+1]?=some (.cells aX 72 (0,0))):=zau _ _ _;have HC:=hide (fun W (hW:Below w.heap.size w W)=>zca g m W (h.below hW));have HS:=hide (fun (e1:lchk g.ws g.fu=0) W (hW:Below w.heap.size w W)=>zfu m.a m.n m.c g.ws g.fu W (h.ws.below hW) e1);have hx:w.heap.size≤w.heap.size+1:=by omega
  unfold gtv at *;clear h;go_enter Tryz.func239,Tryz.ntmps239;go_wp2_with fail;generalize ((w.alloc (.cells (aG m g) 35)).alloc (.cells aX 72))=W at *;refine(zae HC _ hw0).mono ?_;rintro e w1 ⟨rfl,hb⟩;replace b0:=hide (zab b0.out hb);replace b1:=hide (zab b1.out hb);replace hw0:=bT hw0 hb;clear hb HC
  by_cases z1:gtE g=0
  rotate_left
  {
  have HE:=hide (E1 z1);have d1: (gtE g !=0)=true:=by simpa using z1
  obtain ⟨y0,y1,y2,y3,y4⟩:=cl5 b1.out;obtain ⟨f0,f1,f2,f3,f4⟩:=fr5 b1.out;clear z1 E1 E0 E7;generalize gtE g=q at *;go_wp2_with fail;refine bodyPost_ret (v:=.tuple #[gsv gs0,.int .i64 q]) (by simp [results,Tryz.results239,go_sem,gsv,gs0,y0,y1,y2,y3,y4]) rfl ?_;rw [HE.out];exact⟨rfl,((((hw0.setCell hx _).setCell hx _).setCell hx _).setCell hx _).setCell hx _⟩
  }
  have x2:=zaa b0.out 2 _ rfl;cases zu:g.up
  {
  have HE:=hide (E7 z1 zu)
  (try dsimp only [aG] at x2);rw [zu] at x2
  rw [z1];obtain ⟨y0,y1,y2,y3,y4⟩:=cl5 b1.out;obtain ⟨f0,f1,f2,f3,f4⟩:=fr5 b1.out;clear z1 E1 E0 E7 zu;go_wp2_with fail;refine bodyPost_ret (v:=.tuple #[gsv gs0,.int .i64 7]) (by simp [results,Tryz.results239,go_sem,gsv,gs0,y0,y1,y2,y3,y4]) rfl ?_;rw [HE.out];exact⟨rfl,((((hw0.setCell hx _).setCell hx _).setCell hx _).setCell hx _).setCell hx _⟩
  }
  (try dsimp only [aG] at x2);rw [zu] at x2
  have HE:=hide (E0 z1 zu);have HSt:=hide (HS.out (zen z1).1 _ hw0);rw [z1];clear z1 E1 E0 HS E7 zu;have x0:=zaa b0.out 0 _ rfl;have x1:=zaa b0.out 1 _ rfl;go_wp2_with fail;refine(zae HSt).mono ?_;rintro e w2 ⟨rfl,hb⟩;replace b1:=hide (zab b1.out hb);replace hw0:=bT hw0 hb;clear hb HSt x0 x1 x2;obtain ⟨y0,y1,y2,y3,y4⟩:=cl5 b1.out;obtain ⟨f0,f1,f2,f3,f4⟩:=fr5 b1.out;generalize gOf g.ws=s at *;unfold gsv;go_wp2_with fail;refine bodyPost_ret (v:=.tuple #[gsv s,.int .i64 0]) (by simp [results,Tryz.results239,go_sem,gsv,y0,y1,y2,y3,y4]) rfl ?_;rw [HE.out];exact⟨rfl,((((hw0.setCell hx _).setCell hx _).setCell hx _).setCell hx _).setCell hx _⟩
end
end Go.Proofs.YthmekfcgdfckaaaGreatDoor
