/- The contract of trust.Turn. The contract of trust.turnAll. -/
import Derived.Test.YthmekfcgdfckaaaGreatDoorWt17
import Derived.Deep.RegionHeld3
import Derived.Deep.DeepCutAuto
set_option maxRecDepth 1000000
set_option maxHeartbeats 0
namespace Go.Proofs.YthmekfcgdfckaaaGreatDoor
variable {ss:List ByteArray} {l:List S2} {t:Tr} {x:Rt} {sigs xs:List Int} {w W:World} {a:Option Addr} {rs:List Rt} {sgs:List (List Int)}
section
open Go.RowKit
theorem turnE_1 (h1:trE t≠0):turnE ss l t x sigs=trE t:=by unfold turnE;rw [if_neg h1]
theorem turnE_2 (h1:trE t=0) (h2:x.e≠0):turnE ss l t x sigs=x.e:=by unfold turnE;rw [if_pos h1,if_neg h2]
theorem turnE_3 (h1:trE t=0) (h2:x.e=0) (h3:bookE ss≠0):turnE ss l t x sigs=bookE ss:=by unfold turnE;rw [if_pos h1,if_pos h2,if_neg h3]
theorem turnE_4 (h1:trE t=0) (h2:x.e=0) (h3:bookE ss=0) (h4: ¬x.v=t.r.v+1):turnE ss l t x sigs=10:=by unfold turnE;rw [if_pos h1,if_pos h2,if_pos h3,if_neg h4]
theorem turnE_5 (h1:trE t=0) (h2:x.e=0) (h3:bookE ss=0) (h4:x.v=t.r.v+1) (h5:csE l t.r sigs (nameN ss (bs x.tx))≠0):turnE ss l t x sigs=csE l t.r sigs (nameN ss (bs x.tx)):=by unfold turnE;rw [if_pos h1,if_pos h2,if_pos h3,if_pos h4,if_neg h5]
theorem turnE_6 (h1:trE t=0) (h2:x.e=0) (h3:bookE ss=0) (h4:x.v=t.r.v+1) (h5:csE l t.r sigs (nameN ss (bs x.tx))=0):turnE ss l t x sigs=csE l x sigs (nameN ss (bs x.tx)):=by unfold turnE;rw [if_pos h1,if_pos h2,if_pos h3,if_pos h4,if_pos h5]
theorem trE_ok (h:trE t=0): (0≤t.ver∧t.ver≤1000)∧t.r.e=0:=by
  unfold trE at h
  split at h
  {
  rename_i h1
  rw [zd1] at h1;exact⟨h1,h⟩
  }
  {
  cases h
  }
def tz:Tr:=⟨⟨0, [],0⟩,0⟩
def TAns (w:World) (e:Ending) (t:Tr) (q:Int) (F:Option Addr→Prop):Prop:=∃a n c,e=.returned (.tuple #[trv t.r.v a n c t.r.t t.ver,.int .i64 q])∧BI w a n t.r.ks∧F a
def Frsh (B:Nat) (a:Option Addr):Prop:=∀ad,a=some ad→B≤ad.block
theorem za8 (B:Nat):Frsh B none:=fun _ h=>by cases h
theorem tAns_z {q q2:Int} {F:Option Addr→Prop} (h:q=q2) (hF:F none):TAns w (.returned (.tuple #[.agg #[.int .i64 0,.slice none 0 0,.int .i64 0,.int .i64 0],.int .i64 q])) tz q2 F:=by
  subst h;exact⟨none,0,0,rfl,⟨.inl rfl,rfl,by decide⟩,hF⟩
def turnT (q:Int) (t:Tr) (x:Rt):Tr:=if q=0 then⟨x,t.ver⟩ else tz
theorem zoe {q:Int} (h:q≠0):turnT q t x=tz:=by unfold turnT;rw [if_neg h]
theorem zbx {q R:Int} {F:Option Addr→Prop} (hR:R=q) (hq:q≠0) (hF:F none):TAns w (.returned (.tuple #[.agg #[.int .i64 0,.slice none 0 0,.int .i64 0,.int .i64 0],.int .i64 q])) (turnT R t x) R F:=by
  rw [zoe (by rw [hR];exact hq)];exact tAns_z hR.symm hF
theorem BI.set2 {n:Nat} (h:BI w a n xs) (b i:Nat) (v:Value) (hb:xs= []∨∀ad,a=some ad→ad.block≠b):BI (w.setCell ⟨b,i,none⟩ v) a n xs:=by
  refine⟨?_,h.len,h.max⟩
  rcases h.at_ with h| ⟨b',off',rfl,hc⟩
  { exact .inl h }
  {
  rcases hb with hb|hb
  { exact .inl hb }
  {
  refine .inr ⟨_,_,rfl,fun k hk=> ?_⟩;rw [World.cell?_of_block (w:=w) (Below.heap_setCell _ _ _ _ (hb _ rfl))];exact hc k hk
  }
  }
theorem BI.old {n:Nat} (h:BI w a n xs):xs= []∨∀ad,a=some ad→ad.block<w.heap.size:=by
  rcases h.at_ with h| ⟨b',off',rfl,hc⟩
  { exact .inl h }
  {
  by_cases h0:xs= []
  { exact .inl h0 }
  {
  refine .inr fun ad e=> ?_
  cases e;exact zah (hc 0 (by cases xs with|nil=>exact absurd rfl h0|cons _ _=>simp))
  }
  }
theorem BI.set {g off n:Nat} (h:BI w (some ⟨g,off,none⟩) n xs) (b i:Nat) (v:Value) (hb:g≠b):BI (w.setCell ⟨b,i,none⟩ v) (some ⟨g,off,none⟩) n xs:=by
  refine⟨?_,h.len,h.max⟩
  rcases h.at_ with h| ⟨b',off',e,hc⟩
  { exact .inl h }
  {
  cases e;refine .inr ⟨_,_,rfl,fun k hk=> ?_⟩;rw [World.cell?_of_block (w:=w) (Below.heap_setCell _ _ _ _ hb)];exact hc k hk
  }
theorem last1 (w:World) (o1 o2:Obj): ((w.alloc o1).alloc o2).heap[w.heap.size+1]?=some o2:=by
  have:=heap_alloc_last (w.alloc o1) o2
  rwa [World.size_alloc] at this
theorem last2 (w:World) (o1 o2 o3:Obj): (((w.alloc o1).alloc o2).alloc o3).heap[w.heap.size+1+1]?=some o3:=by
  have:=heap_alloc_last ((w.alloc o1).alloc o2) o3
  rwa [World.size_alloc,World.size_alloc] at this
theorem last3 (w:World) (o1 o2 o3 o4:Obj): ((((w.alloc o1).alloc o2).alloc o3).alloc o4).heap[w.heap.size+1+1+1]?=some o4:=by
  have:=heap_alloc_last (((w.alloc o1).alloc o2).alloc o3) o4
  rwa [World.size_alloc,World.size_alloc,World.size_alloc] at this
def bkO (a:Option Addr) (n c:Nat):Obj:=.cells #[.slice a n c] 24 (0,0)
def trO (t:Tr) (a:Option Addr) (n c:Nat):Obj:=.cells #[.int .i64 t.r.v,.slice a n c,.int .i64 t.r.t,.int .i64 t.ver] 32 (0,0)
def rtO (x:Rt) (a:Option Addr) (n c:Nat):Obj:=.cells #[.int .i64 x.v,.slice a n c,.int .i64 x.t] 30 (0,0)
def tzO:Obj:=.cells #[.int .i64 0,.slice none 0 0,.int .i64 0,.int .i64 0] 32 (0,0)
structure TB (W:World) (B:Nat) (o0 o1 o2 o3:Obj):Prop where
  b0:W.heap[B]?=some o0
  b1:W.heap[B+1]?=some o1
  b2:W.heap[B+1+1]?=some o2
  b3:W.heap[B+1+1+1]?=some o3
theorem TB.below {W' :World} {B:Nat} {o0 o1 o2 o3:Obj} (h:TB W B o0 o1 o2 o3) (hb:Below W.heap.size W W'):TB W' B o0 o1 o2 o3:=
  ⟨zab h.b0 hb,zab h.b1 hb,zab h.b2 hb,zab h.b3 hb⟩
theorem rx0 (a b c d e f:Value) (W:World): (Instr.index 347 (.agg #[a,b,c,d,e,f]) (.int .i64 0)).run Tryz.prog W=.ok (.agg #[a,b,c]) W:=by kernel_rfl
theorem rx1 (a b c d e f:Value) (W:World): (Instr.index 347 (.agg #[a,b,c,d,e,f]) (.int .i64 1)).run Tryz.prog W=.ok (.agg #[d,e,f]) W:=by kernel_rfl
theorem turn_any (ab:Option Addr) (nb cb:Nat) (ss:List ByteArray) (a1:Option Addr) (n1 c1:Nat) (l:List S2) (t:Tr) (a2:Option Addr) (n2 c2:Nat) (x:Rt) (a3:Option Addr) (n3 c3:Nat) (a4:Option Addr) (n4 c4:Nat) (sigs:List Int) (w:World)
    (h0:BB w ab nb cb ss) (h1:BG w a1 n1 l) (h2:BI w a2 n2 t.r.ks) (h3:BI w a3 n3 x.ks) (h4:BI w a4 n4 sigs) (hT:Tab w):
    Calls Tryz.prog 294 #[bookv ab nb cb,.slice a1 n1 c1,trv t.r.v a2 n2 c2 t.r.t t.ver,rv x.v a3 n3 c3 x.t,.slice a4 n4 c4] w fun e w' =>TAns w' e (turnT (turnE ss l t x sigs) t x) (turnE ss l t x sigs) (Frsh w.heap.size)∧Below w.heap.size w w' :=by
  have hw0:Below w.heap.size w ((((w.alloc (bkO ab nb cb)).alloc (trO t a2 n2 c2)).alloc (rtO x a3 n3 c3)).alloc tzO):=((bA2).alloc (by simp;omega) _).alloc (by simp;omega) _;have tb:Hid (TB ((((w.alloc (bkO ab nb cb)).alloc (trO t a2 n2 c2)).alloc (rtO x a3 n3 c3)).alloc tzO) w.heap.size (bkO ab nb cb) (trO t a2 n2 c2) (rtO x a3 n3 c3) tzO):=
    ⟨zai (zai (zai (heap_alloc_last _ _) _) _) _,zai (zai (last1 _ _ _) _) _,zai (last2 _ _ _ _) _,last3 _ _ _ _ _⟩
  have HA:=hide (fun W (hW:Below w.heap.size w W)=>zee t a2 n2 c2 W (h2.below hW));have HB:Hid (∀W,Below w.heap.size w W→Calls Tryz.prog 308 #[rv x.v a3 n3 c3 x.t] W fun e w' =>e=.returned (.tuple #[.string (bs (zd4 x.v x.ks x.t)),.int .i64 x.e])∧Below W.heap.size W w'):=fun W hW=>znz x.v a3 n3 c3 x.t x.ks W (h3.below hW).at_ h3.len h3.max (hT.below hW)
  have HC:=hide (fun W s (hW:Below w.heap.size w W)=>zjc ab nb cb ss s W (h0.below hW).at_ h0.len h0.cap h0.max h0.short);have HD:=hide (fun W (r:Rt) a n c name (hW:Below w.heap.size w W) (hr:BI W a n r.ks)=>zg8 a1 n1 c1 l r a n c a4 n4 c4 sigs name W (h1.below hW) hr (h4.below hW));have HT:=hide (fun W ver (hW:Below w.heap.size w W) (hs:n3≤1000)=>zh7 x a3 n3 c3 ver W (h3.below hW) hs);have H2:=hide (fun W (hW:Below w.heap.size w W)=>h2.below hW);have H3:=hide (fun W (hW:Below w.heap.size w W)=>h3.below hW);have L3:=hide h3.len;unfold trv at HA;unfold trv rv bookv;unfold rv at HB HD HT;unfold trv at HT;unfold bookv at HC;clear h0 h1 h2 h3 h4 hT;unfold bkO trO rtO tzO at hw0 tb;go_enter Tryz.func294,Tryz.ntmps294;go_wp2_with fail;generalize (((w.alloc (.cells #[.slice ab nb cb] 24)).alloc (.cells #[.int .i64 t.r.v,.slice a2 n2 c2,.int .i64 t.r.t,.int .i64 t.ver] 32)).alloc (.cells #[.int .i64 x.v,.slice a3 n3 c3,.int .i64 x.t] 30)).alloc (.cells #[.int .i64 0,.slice none 0 0,.int .i64 0,.int .i64 0] 32)=W at *;refine(zae HA _ hw0).mono ?_;rintro e w1 ⟨rfl,hb⟩;replace tb:=hide (tb.out.below hb);replace hw0:=bT hw0 hb;clear hb HA
  by_cases z1:trE t=0
  rotate_left
  {
  have HE:=hide (turnE_1 (ss:=ss) (l:=l) (x:=x) (sigs:=sigs) z1);have hq: (trE t !=0)=true:=by simpa using z1
  have ZN:=hide z1;clear HB HC HD HT H2 H3 z1;generalize trE t=q at *;have y0:=zaa tb.out.b3 0 _ rfl;have fy0:=zad tb.out.b3 0;have y1:=zaa tb.out.b3 1 _ rfl;have fy1:=zad tb.out.b3 1;have y2:=zaa tb.out.b3 2 _ rfl;have fy2:=zad tb.out.b3 2;have y3:=zaa tb.out.b3 3 _ rfl;have fy3:=zad tb.out.b3 3;go_wp2_with fail;refine bodyPost_ret (v:=.tuple #[.agg #[.int .i64 0,.slice none 0 0,.int .i64 0,.int .i64 0],.int .i64 q]) (by simp [results,Tryz.results294,go_sem,y0,y1,y2,y3]) rfl ?_;exact⟨zbx HE.out ZN.out (za8 _),((((hw0).setCell (by simp;omega) _).setCell (by simp;omega) _).setCell (by simp;omega) _).setCell (by simp;omega) _⟩
  }
  have Z1:=hide z1;have hv:=(zft (trE_ok z1).2).1;rw [z1];clear z1;have y0:=zaa tb.out.b2 0 _ rfl;have y1:=zaa tb.out.b2 1 _ rfl;have y2:=zaa tb.out.b2 2 _ rfl;go_wp2_with fail;refine(zae HB _ hw0).mono ?_;rintro e w2 ⟨rfl,hb⟩;replace tb:=hide (tb.out.below hb);replace hw0:=bT hw0 hb;clear hb HB y0 y1 y2
  by_cases z2:x.e=0
  rotate_left
  {
  have HE:=hide (turnE_2 (ss:=ss) (l:=l) (sigs:=sigs) Z1.out z2);have hq: (x.e !=0)=true:=by simpa using z2
  have ZN:=hide z2;clear HC HD HT H2 H3 z2 hv;generalize x.e=q at *;generalize bs (zd4 x.v x.ks x.t)=sx at *;have y0:=zaa tb.out.b3 0 _ rfl;have fy0:=zad tb.out.b3 0;have y1:=zaa tb.out.b3 1 _ rfl;have fy1:=zad tb.out.b3 1;have y2:=zaa tb.out.b3 2 _ rfl;have fy2:=zad tb.out.b3 2;have y3:=zaa tb.out.b3 3 _ rfl;have fy3:=zad tb.out.b3 3;go_wp2_with fail;refine bodyPost_ret (v:=.tuple #[.agg #[.int .i64 0,.slice none 0 0,.int .i64 0,.int .i64 0],.int .i64 q]) (by simp [results,Tryz.results294,go_sem,y0,y1,y2,y3]) rfl ?_;exact⟨zbx HE.out ZN.out (za8 _),((((hw0).setCell (by simp;omega) _).setCell (by simp;omega) _).setCell (by simp;omega) _).setCell (by simp;omega) _⟩
  }
  have Z2:=hide z2;have hn3:n3≤1000:=by have:=(zft z2).2.1;have:=L3.out;omega
  rw [show zd4 x.v x.ks x.t=x.tx by unfold zd4;rw [if_pos (show rootE x.v x.ks x.t=0 from z2)];rfl,z2];clear z2;have y0:=zaa tb.out.b0 0 _ rfl;generalize hsx:bs x.tx=sx;replace hsx:=hide hsx;replace HC:=hide (fun W hW=>HC.out W sx hW);go_wp2_with fail;refine(zae HC _ hw0).mono ?_;rintro e w3 ⟨rfl,hb⟩;replace tb:=hide (tb.out.below hb);replace hw0:=bT hw0 hb;clear hb HC y0
  by_cases z3:bookE ss=0
  rotate_left
  {
  have HE:=hide (turnE_3 (l:=l) (sigs:=sigs) Z1.out Z2.out z3);have hq: (bookE ss !=0)=true:=by simpa using z3
  have ZN:=hide z3;clear HD HT H2 H3 z3 hv;generalize bookE ss=q at *;generalize nameE ss sx=q2 at *;have y0:=zaa tb.out.b3 0 _ rfl;have fy0:=zad tb.out.b3 0;have y1:=zaa tb.out.b3 1 _ rfl;have fy1:=zad tb.out.b3 1;have y2:=zaa tb.out.b3 2 _ rfl;have fy2:=zad tb.out.b3 2;have y3:=zaa tb.out.b3 3 _ rfl;have fy3:=zad tb.out.b3 3;go_wp2_with fail;refine bodyPost_ret (v:=.tuple #[.agg #[.int .i64 0,.slice none 0 0,.int .i64 0,.int .i64 0],.int .i64 q]) (by simp [results,Tryz.results294,go_sem,y0,y1,y2,y3]) rfl ?_;exact⟨zbx HE.out ZN.out (za8 _),((((hw0).setCell (by simp;omega) _).setCell (by simp;omega) _).setCell (by simp;omega) _).setCell (by simp;omega) _⟩
  }
  have Z3:=hide z3;rw [show nameE ss sx= (nameN ss sx:Int) by unfold nameE;rw [if_pos z3],z3];clear z3;have hwr:IntKind.i64.wrap (t.r.v+1)=t.r.v+1:=by rw [IntKind.wrap_i64];omega
  by_cases z4:x.v=t.r.v+1
  rotate_left
  {
  have HE:=hide (turnE_4 (l:=l) (sigs:=sigs) Z1.out Z2.out Z3.out z4);have hq: (x.v !=t.r.v+1)=true:=by simpa using z4
  have ZN:=hide (show(10:Int)≠0 by decide);clear HD HT H2 H3 z4 hv;generalize (nameN ss sx:Int)=q2 at *;have p0:=zaa tb.out.b1 0 _ rfl;have p1:=zaa tb.out.b2 0 _ rfl;have y0:=zaa tb.out.b3 0 _ rfl;have fy0:=zad tb.out.b3 0;have y1:=zaa tb.out.b3 1 _ rfl;have fy1:=zad tb.out.b3 1;have y2:=zaa tb.out.b3 2 _ rfl;have fy2:=zad tb.out.b3 2;have y3:=zaa tb.out.b3 3 _ rfl;have fy3:=zad tb.out.b3 3;go_wp2_with fail;refine bodyPost_ret (v:=.tuple #[.agg #[.int .i64 0,.slice none 0 0,.int .i64 0,.int .i64 0],.int .i64 10]) (by simp [results,Tryz.results294,go_sem,y0,y1,y2,y3]) rfl ?_;exact⟨zbx HE.out ZN.out (za8 _),((((hw0).setCell (by simp;omega) _).setCell (by simp;omega) _).setCell (by simp;omega) _).setCell (by simp;omega) _⟩
  }
  have HE5:=hide (turnE_5 (l:=l) (sigs:=sigs) Z1.out Z2.out Z3.out z4);have HE6:=hide (turnE_6 (l:=l) (sigs:=sigs) Z1.out Z2.out Z3.out z4);have hq: (x.v !=t.r.v+1)=false:=by simpa using z4
  rw [hsx.out] at HE5 HE6;generalize (nameN ss sx:Int)=nm at *;clear z4 hv hsx;have p0:=zaa tb.out.b1 0 _ rfl;have p1:=zaa tb.out.b1 1 _ rfl;have p2:=zaa tb.out.b1 2 _ rfl;have y0:=zaa tb.out.b2 0 _ rfl;have y1:=zaa tb.out.b2 1 _ rfl;have y2:=zaa tb.out.b2 2 _ rfl;go_wp2_with fail;clear p0 p1 p2 y0 y1 y2
  go_loopw [56] (fun i wr=>∃k:Nat,k≤2∧i=.int .i64 k∧Below w.heap.size w wr∧Hid (TB wr w.heap.size (bkO ab nb cb) (trO t a2 n2 c2) (rtO x a3 n3 c3) tzO)∧Hid ((1≤k→csE l t.r sigs nm=0)∧(2≤k→csE l x sigs nm=0))) (fun i _=>2 - (intOf i).toNat)
  case atStart=>exact⟨0,by decide,rfl,hw0,tb,⟨fun h=>by omega,fun h=>by omega⟩⟩
  case round=>
    clear tb hw0;obtain ⟨wq,rfl⟩: ∃wq:World,wq=wr:=⟨_,rfl⟩;obtain ⟨k,hk,rfl,hw0,tb,hcs⟩:=hrel;unfold bkO trO rtO tzO at tb;have hk' :k=0∨k=1∨k=2:=by omega
    rcases hk' with rfl|rfl|rfl
    {
    have hix:=fun W=>rx0 (.int .i64 t.r.v) (.slice a2 n2 c2) (.int .i64 t.r.t) (.int .i64 x.v) (.slice a3 n3 c3) (.int .i64 x.t) W
    have hw1:=hw0.alloc hw0.size (.cells #[.int .i64 t.r.v,.slice a2 n2 c2,.int .i64 t.r.t] 30);have tb1:=hide (tb.out.below ((Below.refl _ _).alloc (Nat.le_refl _) (.cells #[.int .i64 t.r.v,.slice a2 n2 c2,.int .i64 t.r.t] 30)));have HDk:=hide (HD.out _ t.r a2 n2 c2 nm hw1 (H2.out _ hw1));go_wp2_with fail;refine(zae HDk).mono ?_;rintro e w5 ⟨rfl,hb⟩;replace tb1:=hide (tb1.out.below hb);replace hw1:=bT hw1 hb;clear hb HDk
    by_cases z5:csE l t.r sigs nm=0
    {
    have Z5:=hide z5;rw [z5];clear z5;go_wp2_with fail
    go_roundw
    case rel=>exact⟨1,by decide,rfl,hw1,tb1.out,⟨fun _=>Z5.out,fun h=>by omega⟩⟩
    case measure=>simp [intOf]
    }
    {
    have HE:=hide (HE5.out z5);have hq: (csE l t.r sigs nm !=0)=true:=by simpa using z5
    have ZN:=hide z5;clear z5;generalize csE l t.r sigs nm=q at *;have y0:=zaa tb1.out.b3 0 _ rfl;have fy0:=zad tb1.out.b3 0;have y1:=zaa tb1.out.b3 1 _ rfl;have fy1:=zad tb1.out.b3 1;have y2:=zaa tb1.out.b3 2 _ rfl;have fy2:=zad tb1.out.b3 2;have y3:=zaa tb1.out.b3 3 _ rfl;have fy3:=zad tb1.out.b3 3;go_wp2_with fail;refine bodyPost_ret (v:=.tuple #[.agg #[.int .i64 0,.slice none 0 0,.int .i64 0,.int .i64 0],.int .i64 q]) (by simp [results,Tryz.results294,go_sem,y0,y1,y2,y3]) rfl ?_;exact⟨zbx HE.out ZN.out (za8 _),((((hw1).setCell (by simp;omega) _).setCell (by simp;omega) _).setCell (by simp;omega) _).setCell (by simp;omega) _⟩
    }
    }
    {
    have hix:=fun W=>rx1 (.int .i64 t.r.v) (.slice a2 n2 c2) (.int .i64 t.r.t) (.int .i64 x.v) (.slice a3 n3 c3) (.int .i64 x.t) W
    have hw1:=hw0.alloc hw0.size (.cells #[.int .i64 x.v,.slice a3 n3 c3,.int .i64 x.t] 30);have tb1:=hide (tb.out.below ((Below.refl _ _).alloc (Nat.le_refl _) (.cells #[.int .i64 x.v,.slice a3 n3 c3,.int .i64 x.t] 30)));have HDk:=hide (HD.out _ x a3 n3 c3 nm hw1 (H3.out _ hw1));have HE:=hide (HE6.out (hcs.out.1 (by decide)));go_wp2_with fail;refine(zae HDk).mono ?_;rintro e w5 ⟨rfl,hb⟩;replace tb1:=hide (tb1.out.below hb);replace hw1:=bT hw1 hb;clear hb HDk
    by_cases z5:csE l x sigs nm=0
    {
    have Z5:=hide z5;rw [z5];clear z5;go_wp2_with fail
    go_roundw
    case rel=>exact⟨2,by decide,rfl,hw1,tb1.out,⟨fun _=>hcs.out.1 (by decide),fun _=>Z5.out⟩⟩
    case measure=>simp [intOf]
    }
    {
    have hq: (csE l x sigs nm !=0)=true:=by simpa using z5
    have ZN:=hide z5;clear z5;generalize csE l x sigs nm=q at *;have y0:=zaa tb1.out.b3 0 _ rfl;have fy0:=zad tb1.out.b3 0;have y1:=zaa tb1.out.b3 1 _ rfl;have fy1:=zad tb1.out.b3 1;have y2:=zaa tb1.out.b3 2 _ rfl;have fy2:=zad tb1.out.b3 2;have y3:=zaa tb1.out.b3 3 _ rfl;have fy3:=zad tb1.out.b3 3;go_wp2_with fail;refine bodyPost_ret (v:=.tuple #[.agg #[.int .i64 0,.slice none 0 0,.int .i64 0,.int .i64 0],.int .i64 q]) (by simp [results,Tryz.results294,go_sem,y0,y1,y2,y3]) rfl ?_;exact⟨zbx HE.out ZN.out (za8 _),((((hw1).setCell (by simp;omega) _).setCell (by simp;omega) _).setCell (by simp;omega) _).setCell (by simp;omega) _⟩
    }
    }
    {
    have HE:=hide (show turnE ss l t x sigs=0 by rw [HE6.out (hcs.out.1 (by decide))];exact hcs.out.2 (by decide));have p0:=zaa tb.out.b2 0 _ rfl;have p1:=zaa tb.out.b2 1 _ rfl;have p2:=zaa tb.out.b2 2 _ rfl;have p3:=zaa tb.out.b1 3 _ rfl;go_wp2_with fail;refine(zae HT _ _ hw0 hn3).mono ?_;rintro e w5 ⟨rfl,hbi,hb⟩;have tb0:=tb;replace tb:=hide (tb.out.below hb);clear p0 p1 p2 p3;have y0:=zaa tb.out.b3 0 _ rfl;have fy0:=zad tb.out.b3 0;have y1:=zaa tb.out.b3 1 _ rfl;have fy1:=zad tb.out.b3 1;have y2:=zaa tb.out.b3 2 _ rfl;have fy2:=zad tb.out.b3 2;have y3:=zaa tb.out.b3 3 _ rfl;have fy3:=zad tb.out.b3 3;go_wp2_with fail;refine bodyPost_ret (v:=.tuple #[.agg #[.int .i64 x.v,.slice (some ⟨wq.heap.size+2,0,none⟩) n3 n3,.int .i64 x.t,.int .i64 t.ver],.int .i64 0]) (by simp [results,Tryz.results294,go_sem,y0,y1,y2,y3]) rfl ?_;rw [HE.out];refine⟨⟨_,_,_,rfl, ?_,fun ad e=>by cases e;exact Nat.le_trans hw0.size (by simp)⟩,((((((bT hw0 hb))).setCell (by simp;omega) _).setCell (by simp;omega) _).setCell (by simp;omega) _).setCell (by simp;omega) _⟩;have hlt:=zak tb0.out.b3;exact(((hbi.set _ 0 _ (by omega)).set _ 1 _ (by omega)).set _ 2 _ (by omega)).set _ 3 _ (by omega)
    }
end
section
open Go.RowKit
theorem zqp {k:Nat} (hk:k<rs.length) (hk2:k<sgs.length) (h:turnE ss l t rs[k] sgs[k]≠0):zdf ss l t (rs.drop k) (sgs.drop k)=turnE ss l t rs[k] sgs[k]:=by
  rw [List.drop_eq_getElem_cons hk,List.drop_eq_getElem_cons hk2,zdf,if_neg h]
theorem zpl {k:Nat} (hk:k<rs.length) (hk2:k<sgs.length) (h:turnE ss l t rs[k] sgs[k]=0):zdf ss l t (rs.drop k) (sgs.drop k)=zdf ss l ⟨rs[k],t.ver⟩ (rs.drop (k+1)) (sgs.drop (k+1)):=by
  rw [List.drop_eq_getElem_cons hk,List.drop_eq_getElem_cons hk2,zdf,if_pos h]
theorem zri {r:Rt} {k:Nat} (hk:k<rs.length):lastR r (rs.drop k)=lastR rs[k] (rs.drop (k+1)):=by
  rw [List.drop_eq_getElem_cons hk,lastR]
structure TB3 (W:World) (B:Nat) (o0 o1 o2:Obj):Prop where
  b0:W.heap[B]?=some o0
  b1:W.heap[B+1]?=some o1
  b2:W.heap[B+1+1]?=some o2
theorem TB3.below {W' :World} {B:Nat} {o0 o1 o2:Obj} (h:TB3 W B o0 o1 o2) (hb:Below W.heap.size W W'):TB3 W' B o0 o1 o2:=
  ⟨zab h.b0 hb,zab h.b1 hb,zab h.b2 hb⟩
def AInv (w:World) (ab:Option Addr) (nb cb:Nat) (ss:List ByteArray) (l:List S2) (t:Tr) (a2:Option Addr) (rs:List Rt) (sgs:List (List Int)) (k:Nat) (wr:World):Prop:=
  ∃(tr:Tr) (a:Option Addr) (n c:Nat),Below w.heap.size w wr∧Hid (TB3 wr w.heap.size (bkO ab nb cb) (trO tr a n c) tzO)∧BI wr a n tr.r.ks∧((a=a2∧k=0)∨Frsh (w.heap.size+3) a)∧Hid (tr.r.ks= []∨∀ad,a=some ad→ad.block≠w.heap.size+1∧ad.block≠w.heap.size+1+1)∧
    Hid (zdf ss l tr (rs.drop k) (sgs.drop k)=zdf ss l t rs sgs∧lastR tr.r (rs.drop k)=lastR t.r rs∧tr.ver=t.ver)
theorem zjh {b:Nat} {v0 v1 v2 v3 u0 u1 u2 u3:Value} {ty:TypeId} (h:W.heap[b]?=some (.cells #[v0,v1,v2,v3] ty (0,0))):
    ((((W.setCell ⟨b,0,none⟩ u0).setCell ⟨b,1,none⟩ u1).setCell ⟨b,2,none⟩ u2).setCell ⟨b,3,none⟩ u3).heap[b]?=some (.cells #[u0,u1,u2,u3] ty (0,0)):=by
  simp only [World.setCell,Array.getElem?_modify]
  simp [h]
theorem zfo {b g:Nat} {u0 u1 u2 u3:Value} {o:Obj} (h:W.heap[g]?=some o) (hg:g≠b):
    ((((W.setCell ⟨b,0,none⟩ u0).setCell ⟨b,1,none⟩ u1).setCell ⟨b,2,none⟩ u2).setCell ⟨b,3,none⟩ u3).heap[g]?=some o:=by
  rw [Below.heap_setCell _ _ _ _ hg,Below.heap_setCell _ _ _ _ hg,Below.heap_setCell _ _ _ _ hg,Below.heap_setCell _ _ _ _ hg];exact h
theorem allE_1 (h:6<rs.length):allE ss l t rs sgs=2:=by unfold allE;rw [if_pos h]
theorem allE_2 (h: ¬6<rs.length) (h2: ¬sgs.length=rs.length):allE ss l t rs sgs=2:=by unfold allE;rw [if_neg h,if_neg h2]
theorem allE_3 (h: ¬6<rs.length) (h2:sgs.length=rs.length):allE ss l t rs sgs=zdf ss l t rs sgs:=by unfold allE;rw [if_neg h,if_pos h2]
theorem keepA {w1:World} {B V bs_ os_:Nat} {ab:Option Addr} {nb cb:Nat} {tr:Tr} {n c:Nat} {ax:Option Addr} {nx cx:Nat} {sv_:Value} (hb:Below w1.heap.size w1 W) (h:TB3 w1 B (bkO ab nb cb) (trO tr a n c) tzO) (hV:w1.heap[V]?=some (rtO x ax nx cx)) (hs:w1.cell? ⟨bs_,os_,none⟩=some sv_):
    W.cell? ⟨B,0,none⟩=some (.slice ab nb cb)∧W.cell? ⟨B+1,0,none⟩=some (.int .i64 tr.r.v)∧W.cell? ⟨B+1,1,none⟩=some (.slice a n c)∧W.cell? ⟨B+1,2,none⟩=some (.int .i64 tr.r.t)∧W.cell? ⟨B+1,3,none⟩=some (.int .i64 tr.ver)∧
    W.cell? ⟨V,0,none⟩=some (.int .i64 x.v)∧W.cell? ⟨V,1,none⟩=some (.slice ax nx cx)∧W.cell? ⟨V,2,none⟩=some (.int .i64 x.t)∧W.cell? ⟨bs_,os_,none⟩=some sv_∧Below w1.heap.size w1 W:=by
  have h' :=h.below hb;have hV' :=zab hV hb;exact⟨zaa h'.b0 0 _ rfl,zaa h'.b1 0 _ rfl,zaa h'.b1 1 _ rfl,zaa h'.b1 2 _ rfl,zaa h'.b1 3 _ rfl,zaa hV' 0 _ rfl,zaa hV' 1 _ rfl,zaa hV' 2 _ rfl,by rw [hb.cell (zah hs)];exact hs,hb⟩
theorem zow (ab:Option Addr) (nb cb:Nat) (ss:List ByteArray) (a1:Option Addr) (n1 c1:Nat) (l:List S2) (t:Tr) (a2:Option Addr) (n2 c2:Nat) (a3:Option Addr) (n3 c3:Nat) (rs:List Rt) (a4:Option Addr) (n4 c4:Nat) (sgs:List (List Int)) (w:World)
    (h0:BB w ab nb cb ss) (h1:BG w a1 n1 l) (h2:BI w a2 n2 t.r.ks) (h3:BR w a3 n3 rs) (h4:BL w a4 n4 sgs) (hT:Tab w):
    Calls Tryz.prog 272 #[bookv ab nb cb,.slice a1 n1 c1,trv t.r.v a2 n2 c2 t.r.t t.ver,.slice a3 n3 c3,.slice a4 n4 c4] w fun e w' =>TAns w' e (turnT (allE ss l t rs sgs) t (lastR t.r rs)) (allE ss l t rs sgs) (fun a=>(a=a2∧rs= [])∨Frsh w.heap.size a)∧Below w.heap.size w w' :=by
  have hw0:Below w.heap.size w (((w.alloc (bkO ab nb cb)).alloc (trO t a2 n2 c2)).alloc tzO):=(bA2).alloc (by simp;omega) _;have tb:Hid (TB3 (((w.alloc (bkO ab nb cb)).alloc (trO t a2 n2 c2)).alloc tzO) w.heap.size (bkO ab nb cb) (trO t a2 n2 c2) tzO):=
    ⟨zai (zai (heap_alloc_last _ _) _) _,zai (last1 _ _ _) _,last2 _ _ _ _⟩
  have HTn:=hide (fun W (tr:Tr) a n c x ax nx cx ag ng cg sg (hW:Below w.heap.size w W) (hi:BI W a n tr.r.ks) (hx:BI W ax nx x.ks) (hg:BI W ag ng sg)=>turn_any ab nb cb ss a1 n1 c1 l tr a n c x ax nx cx ag ng cg sg W (h0.below hW) (h1.below hW) hi hx hg (hT.below hW));have L3:=hide h3.len;have L4:=hide h4.len;have m3:=h3.max;have m4:=h4.max;have H2:=hide (h2.below hw0);have H2o:=hide h2.old;have H3:=hide h3.at_;have H4:=hide h4.at_;unfold trv rv bookv at HTn;unfold trv bookv;unfold maxLen at m3 m4;clear h0 h1 h2 h3 h4 hT
  by_cases z1:6<n3
  {
  have HE:=hide (allE_1 (ss:=ss) (l:=l) (t:=t) (sgs:=sgs) (rs:=rs) (by rw [L3.out];exact z1));unfold bkO trO tzO at hw0 tb;have ZN:=hide (show(2:Int)≠0 by decide);clear HTn H2;go_enter Tryz.func272,Tryz.ntmps272;go_wp2_with fail;refine bodyPost_ret (v:=.tuple #[.agg #[.int .i64 0,.slice none 0 0,.int .i64 0,.int .i64 0],.int .i64 2]) (by simp [results,Tryz.results272,go_sem]) rfl ?_;exact⟨zbx HE.out ZN.out (.inr (za8 _)),hw0⟩
  }
  have d1:decide (6< (n3:Int))=false:=by simp;omega
  by_cases z2:n4=n3
  rotate_left
  {
  have HE:=hide (allE_2 (ss:=ss) (l:=l) (t:=t) (sgs:=sgs) (rs:=rs) (by rw [L3.out];exact z1) (by rw [L3.out,L4.out];exact z2));have d2: ((n4:Int) != (n3:Int))=true:=by simp;omega
  unfold bkO trO tzO at hw0 tb;have ZN:=hide (show(2:Int)≠0 by decide);clear HTn H2 z1 z2;go_enter Tryz.func272,Tryz.ntmps272;go_wp2_with fail;refine bodyPost_ret (v:=.tuple #[.agg #[.int .i64 0,.slice none 0 0,.int .i64 0,.int .i64 0],.int .i64 2]) (by simp [results,Tryz.results272,go_sem]) rfl ?_;exact⟨zbx HE.out ZN.out (.inr (za8 _)),hw0⟩
  }
  have HE:=hide (allE_3 (ss:=ss) (l:=l) (t:=t) (sgs:=sgs) (rs:=rs) (by rw [L3.out];exact z1) (by rw [L3.out,L4.out];exact z2));have d2: ((n4:Int) != (n3:Int))=false:=by simp;omega
  have Z2:=hide z2;clear z2;have hsize:w.heap.size+1+1< (((w.alloc (bkO ab nb cb)).alloc (trO t a2 n2 c2)).alloc tzO).heap.size:=by simp
  unfold bkO trO tzO at hw0 tb H2 hsize;go_enter Tryz.func272,Tryz.ntmps272;go_wp2_with fail;generalize ((w.alloc (.cells #[.slice ab nb cb] 24)).alloc (.cells #[.int .i64 t.r.v,.slice a2 n2 c2,.int .i64 t.r.t,.int .i64 t.ver] 32)).alloc (.cells #[.int .i64 0,.slice none 0 0,.int .i64 0,.int .i64 0] 32)=W at *
  go_loopw [29] (fun i wr=>∃k:Nat,k≤n3∧i=.int .i64 k∧AInv w ab nb cb ss l t a2 rs sgs k wr) (fun i _=>n3 - (intOf i).toNat)
  case atStart=>exact⟨0,Nat.zero_le _,rfl,t,a2,n2,c2,hw0,tb,H2.out,.inl ⟨rfl,rfl⟩,H2o.out.imp id (fun h ad e=>by have:=h ad e;omega),⟨rfl,rfl,rfl⟩⟩
  case round=>
    clear tb hw0 H2 hsize;obtain ⟨wq,rfl⟩: ∃wq:World,wq=wr:=⟨_,rfl⟩;obtain ⟨k,hk,rfl,tr,a,n,c,hw0,tb,hi,hfa,hne,hts⟩:=hrel
    by_cases hlt:k<n3
    {
    have hk3:k<rs.length:=by rw [L3.out];exact hlt
    have hk4:k<sgs.length:=by rw [L4.out,Z2.out];exact hlt
    have hlt4:k<n4:=by rw [Z2.out];exact hlt
    have i3:=H3.out.below hw0;have i4:=H4.out.below hw0
    rcases i3 with e| ⟨b3,o3,rfl,hc3⟩
    { rw [e] at hk3;simp at hk3 }
    rcases i4 with e| ⟨b4,o4,rfl,hc4⟩
    { rw [e] at hk4;simp at hk4 }
    obtain ⟨ax,cx,e0,e1,e2,hix,hlx,hcx⟩:=hc3 k rs[k] (List.getElem?_eq_getElem hk3);obtain ⟨ag,cg,g0,hig,hlg,hcg⟩:=hc4 k sgs[k] (List.getElem?_eq_getElem hk4);have bix:BI wq ax rs[k].ks.length rs[k].ks:=⟨hix,rfl,by omega⟩;have big:BI wq ag sgs[k].length sgs[k]:=⟨hig,rfl,by omega⟩;have HEb:=hide (zqp (ss:=ss) (l:=l) (t:=tr) hk3 hk4);have HEn:=hide (zpl (ss:=ss) (l:=l) (t:=tr) hk3 hk4);have HLn:=hide (zri (r:=tr.r) hk3);clear hc3 hc4 hix hig hlx hcx hlg hcg;generalize rs[k]=x at *;generalize sgs[k]=sg at *;obtain ⟨nx,hnx⟩: ∃nx,nx=x.ks.length:=⟨_,rfl⟩;obtain ⟨ng,hng⟩: ∃ng,ng=sg.length:=⟨_,rfl⟩;rw [←hnx] at e1 bix;rw [←hng] at g0 big;have lt0:=zak tb.out.b2;have hbP:Below wq.heap.size wq (wq.alloc (.cells #[.int .i64 x.v,.slice ax nx cx,.int .i64 x.t] 30)):=bA1;have bV:Hid ((wq.alloc (.cells #[.int .i64 x.v,.slice ax nx cx,.int .i64 x.t] 30)).heap[wq.heap.size]?=some (rtO x ax nx cx)):=heap_alloc_last wq (rtO x ax nx cx);have tbP:=hide (tb.out.below hbP);have hwP:=bT hw0 hbP;have hiP:=hi.below hbP;have bxP:=bix.below hbP;have bgP:=big.below hbP;have gP: (wq.alloc (.cells #[.int .i64 x.v,.slice ax nx cx,.int .i64 x.t] 30)).cell? ⟨b4,o4+k,none⟩=some (.slice ag ng cg):=by rw [hbP.cell (zah g0)];exact g0
    clear hnx hng;go_upto_region 6 with fail
    generalize wq.alloc (.cells #[.int .i64 x.v,.slice ax nx cx,.int .i64 x.t] 30)=wP at *;obtain ⟨V,hV⟩: ∃V,V=wq.heap.size:=⟨_,rfl⟩;rw [←hV] at bV⊢;clear e0 e1 e2 g0 hbP hi bix big tb hw0 hV;have HTk:=hide (fun W' (hW:Below wP.heap.size wP W')=>HTn.out W' tr a n c x ax nx cx ag ng cg sg ((bT hwP hW)) (hiP.below hW) (bxP.below hW) (bgP.below hW));generalize turnE ss l tr x sg=R at *;obtain ⟨T5,hT5⟩: ∃T,T=turnT R tr x:=⟨_,rfl⟩;rw [←hT5] at HTk;replace hT5:=hide hT5;unfold TAns trv at HTk
    go_cut [14,15] (fun v14 v15 wc=>∃G a5 n5 c5,v14=.pointer (some ⟨G,0,none⟩)∧v15=.int .i64 R∧Hid (wc.heap[G]?=some (trO T5 a5 n5 c5))∧BI wc a5 n5 T5.r.ks∧Frsh wP.heap.size a5∧Below wP.heap.size wP wc)
    case first=>
      refine wp_region_held_drew (S:=fun w' =>w'.cell? ⟨w.heap.size,0,none⟩=some (.slice ab nb cb)∧w'.cell? ⟨w.heap.size+1,0,none⟩=some (.int .i64 tr.r.v)∧w'.cell? ⟨w.heap.size+1,1,none⟩=some (.slice a n c)∧w'.cell? ⟨w.heap.size+1,2,none⟩=some (.int .i64 tr.r.t)∧w'.cell? ⟨w.heap.size+1,3,none⟩=some (.int .i64 tr.ver)∧w'.cell? ⟨V,0,none⟩=some (.int .i64 x.v)∧w'.cell? ⟨V,1,none⟩=some (.slice ax nx cx)∧w'.cell? ⟨V,2,none⟩=some (.int .i64 x.t)∧w'.cell? ⟨b4,o4+k,none⟩=some (.slice ag ng cg)∧Below wP.heap.size wP w') (by kernel_rfl) (keepA (Below.refl _ _).drew tbP.out bV.out gP) ?_;intro hHeld;refine Htk (i:=0) ?_
      try simp only [sq]
      refine Htk (i:=1) ?_
      try simp only [sq]
      refine Htk (i:=2) ?_
      try simp only [sq]
      refine Htk (i:=3) ?_
      try simp only [sq]
      refine Htk (i:=4) ?_
      try simp only [sq]
      refine Htk (i:=5) ?_
      try simp only [sq]
      refine Htk (i:=6) ?_
      try simp only [sq]
      refine Htk (i:=7) ?_
      try simp only [sq]
      refine wpAnyH_ready (rs:= [8,12]) (by kernel_rfl) (by simp) ?_;refine AllReadyH.cons (by rfl) (fun K hK=> ?_) (AllReadyH.cons (by rfl) (fun K hK=> ?_) AllReadyH.nil)
      {
      go_simp;have hB:=hHeld.2.2.2.2.2.2.2.2.2;refine(zae HTk _ hB).mono ?_;rintro e w5 ⟨⟨a5,n5,c5,rfl,hi5,hf5⟩,hb⟩;have hk5:=bT hB hb;go_wp2_with fail;refine hK.out _ _ (keepA hk5 tbP.out bV.out gP) (fun hHeld=> ?_);clear hK K
      try simp only [sq]
      refine Htk (i:=9) ?_
      try simp only [sq]
      refine Htk (i:=10) ?_
      try simp only [sq]
      refine Htk (i:=11) ?_
      try simp only [sq]
      refine wpAnyH_ready (rs:= [12]) (by kernel_rfl) (by simp) ?_;refine AllReadyH.cons (by rfl) (fun K hK=> ?_) AllReadyH.nil;go_simp;refine hK.out _ _ (keepA (hk5.alloc hk5.size _) tbP.out bV.out gP) (fun hHeld=> ?_);clear hK K
      try simp only [sq]
      refine wpAnyH_ready (rs:= [13]) (by kernel_rfl) (by simp) ?_;refine AllReadyH.cons (by rfl) (fun K hK=> ?_) AllReadyH.nil;go_simp;refine hK.out _ _ (keepA (hk5.alloc hk5.size _) tbP.out bV.out gP) (fun hHeld=> ?_);clear hK K
      try simp only [sq]
      refine Htk (i:=14) ?_
      try simp only [sq]
      refine wpAnyH_done (by kernel_rfl) ?_ _;go_wp2_with fail
      go_meet
      case rel=>exact⟨w5.heap.size,a5,n5,c5,rfl,rfl,heap_alloc_last _ (trO T5 a5 n5 c5),hi5.below (bA1),hf5,hk5.alloc hk5.size _⟩
      }
      {
      go_simp;refine hK.out _ _ (keepA ((Below.refl _ _).drew.alloc (by simp) _) tbP.out bV.out gP) (fun hHeld=> ?_);clear hK K
      try simp only [sq]
      refine wpAnyH_ready (rs:= [8]) (by kernel_rfl) (by simp) ?_;refine AllReadyH.cons (by rfl) (fun K hK=> ?_) AllReadyH.nil;go_simp;have hB:=hHeld.2.2.2.2.2.2.2.2.2;refine(zae HTk _ hB).mono ?_;rintro e w5 ⟨⟨a5,n5,c5,rfl,hi5,hf5⟩,hb⟩;have bG:Hid (w5.heap[wP.heap.size]?=some tzO):=zab (heap_alloc_last wP.drew tzO) hb;have hk5:=bT hB hb;unfold tzO at bG;have y0:=zaa bG.out 0 _ rfl;have y1:=zaa bG.out 1 _ rfl;have y2:=zaa bG.out 2 _ rfl;have y3:=zaa bG.out 3 _ rfl;have f0:=zad bG.out 0;have f1:=zad bG.out 1;have f2:=zad bG.out 2;have f3:=zad bG.out 3;go_wp2_with fail;refine hK.out _ _ (keepA hk5 tbP.out bV.out gP) (fun hHeld=> ?_);clear hK K
      try simp only [sq]
      refine Htk (i:=9) ?_
      try simp only [sq]
      refine Htk (i:=10) ?_
      try simp only [sq]
      refine Htk (i:=11) ?_
      try simp only [sq]
      refine wpAnyH_ready (rs:= [13]) (by kernel_rfl) (by simp) ?_;refine AllReadyH.cons (by rfl) (fun K hK=> ?_) AllReadyH.nil;go_simp;refine hK.out _ _ (keepA ((((hk5.setCell (p:=⟨wP.heap.size,0,none⟩) (Nat.le_refl _) _).setCell (p:=⟨wP.heap.size,1,none⟩) (Nat.le_refl _) _).setCell (p:=⟨wP.heap.size,2,none⟩) (Nat.le_refl _) _).setCell (p:=⟨wP.heap.size,3,none⟩) (Nat.le_refl _) _) tbP.out bV.out gP) (fun hHeld=> ?_);clear hK K
      try simp only [sq]
      refine Htk (i:=14) ?_
      try simp only [sq]
      refine wpAnyH_done (by kernel_rfl) ?_ _;go_wp2_with fail
      go_meet
      case rel=>
        have hfar: ∀ad,a5=some ad→ad.block≠wP.heap.size:=fun ad e=>by have h: (wP.alloc tzO).heap.size≤ad.block:=hf5 ad e;rw [World.size_alloc] at h;omega
        exact⟨wP.heap.size,a5,n5,c5,rfl,rfl,zjh bG.out,(((hi5.set2 _ 0 _ (.inr hfar)).set2 _ 1 _ (.inr hfar)).set2 _ 2 _ (.inr hfar)).set2 _ 3 _ (.inr hfar),fun ad e=>by have h: (wP.alloc tzO).heap.size≤ad.block:=hf5 ad e;rw [World.size_alloc] at h;exact Nat.le_trans (Nat.le_succ _) h,(((hk5.setCell (p:=⟨wP.heap.size,0,none⟩) (Nat.le_refl _) _).setCell (p:=⟨wP.heap.size,1,none⟩) (Nat.le_refl _) _).setCell (p:=⟨wP.heap.size,2,none⟩) (Nat.le_refl _) _).setCell (p:=⟨wP.heap.size,3,none⟩) (Nat.le_refl _) _⟩
      }
    case rest=>
      obtain ⟨G,a5,n5,c5,rfl,rfl,bG,hi5,hf5,hbc⟩:=hcut;have hP3:=zak tbP.out.b2;replace tbP:=hide (tbP.out.below hbc);have hwC:=bT hwP hbc;unfold bkO trO tzO at tbP
      by_cases z5:R=0
      {
      have hT:=hT5.out;rw [z5] at hT;have hT' :T5= ⟨x,tr.ver⟩:=by rw [hT];rfl
      have HEN:=hide (HEn.out z5);subst hT';subst z5;unfold trO at bG;have q0:=zaa bG.out 0 _ rfl;have q1:=zaa bG.out 1 _ rfl;have q2:=zaa bG.out 2 _ rfl;have q3:=zaa bG.out 3 _ rfl;have y0:=zaa tbP.out.b1 0 _ rfl;have fy0:=zad tbP.out.b1 0;have y1:=zaa tbP.out.b1 1 _ rfl;have fy1:=zad tbP.out.b1 1;have y2:=zaa tbP.out.b1 2 _ rfl;have fy2:=zad tbP.out.b1 2;have y3:=zaa tbP.out.b1 3 _ rfl;have fy3:=zad tbP.out.b1 3;go_wp2_with fail
      go_roundw
      case rel=>
        have hfar: ∀ad,a5=some ad→ad.block≠w.heap.size+1:=fun ad e=>by have h:=hf5 ad e;omega
        refine⟨k+1,by omega,by go_num,⟨x,tr.ver⟩,a5,n5,c5, ?_,⟨zfo tbP.out.b0 (by omega),zjh tbP.out.b1,zfo tbP.out.b2 (by omega)⟩,(((hi5.set2 _ 0 _ (.inr hfar)).set2 _ 1 _ (.inr hfar)).set2 _ 2 _ (.inr hfar)).set2 _ 3 _ (.inr hfar),.inr (fun ad e=>by have h:=hf5 ad e;omega),.inr (fun ad e=>by have h:=hf5 ad e;omega), ?_⟩
        { exact((((hwC).setCell (by show w.heap.size≤w.heap.size+1;omega) _).setCell (by show w.heap.size≤w.heap.size+1;omega) _).setCell (by show w.heap.size≤w.heap.size+1;omega) _).setCell (by show w.heap.size≤w.heap.size+1;omega) _ }
        { exact⟨HEN.out.symm.trans hts.out.1,HLn.out.symm.trans hts.out.2.1,hts.out.2.2⟩ }
      case measure=>simp [intOf];omega
      }
      {
      have HEB:=hide (HE.out.trans (hts.out.1.symm.trans (HEb.out z5)));have ZN:=hide z5;have hq: (R !=0)=true:=by simpa using z5
      clear z5 HTk HTn HEn HEb;have y0:=zaa tbP.out.b2 0 _ rfl;have fy0:=zad tbP.out.b2 0;have y1:=zaa tbP.out.b2 1 _ rfl;have fy1:=zad tbP.out.b2 1;have y2:=zaa tbP.out.b2 2 _ rfl;have fy2:=zad tbP.out.b2 2;have y3:=zaa tbP.out.b2 3 _ rfl;have fy3:=zad tbP.out.b2 3;go_wp2_with fail;refine bodyPost_ret (v:=.tuple #[.agg #[.int .i64 0,.slice none 0 0,.int .i64 0,.int .i64 0],.int .i64 R]) (by simp [results,Tryz.results272,go_sem,y0,y1,y2,y3]) rfl ?_;exact⟨zbx HEB.out ZN.out (.inr (za8 _)),((((hwC).setCell (by simp;omega) _).setCell (by simp;omega) _).setCell (by simp;omega) _).setCell (by simp;omega) _⟩
      }
    }
    {
    have hkn:rs.length≤k:=by rw [L3.out];omega
    have HEB:Hid (allE ss l t rs sgs=0):=by
      show _=_
      rw [HE.out,←hts.out.1,List.drop_eq_nil_of_le hkn]
      simp [zdf]
    have hTT:Hid (turnT 0 t (lastR t.r rs)=tr):=by
      show _=_
      rw [←hts.out.2.1,List.drop_eq_nil_of_le hkn]
      show(⟨tr.r,t.ver⟩:Tr)=tr
      rw [←hts.out.2.2]
    unfold bkO trO tzO at tb;have q0:=zaa tb.out.b1 0 _ rfl;have q1:=zaa tb.out.b1 1 _ rfl;have q2:=zaa tb.out.b1 2 _ rfl;have q3:=zaa tb.out.b1 3 _ rfl;have y0:=zaa tb.out.b2 0 _ rfl;have fy0:=zad tb.out.b2 0;have y1:=zaa tb.out.b2 1 _ rfl;have fy1:=zad tb.out.b2 1;have y2:=zaa tb.out.b2 2 _ rfl;have fy2:=zad tb.out.b2 2;have y3:=zaa tb.out.b2 3 _ rfl;have fy3:=zad tb.out.b2 3;go_wp2_with fail;refine bodyPost_ret (v:=.tuple #[.agg #[.int .i64 tr.r.v,.slice a n c,.int .i64 tr.r.t,.int .i64 tr.ver],.int .i64 0]) (by simp [results,Tryz.results272,go_sem,y0,y1,y2,y3]) rfl ?_;rw [HEB.out,hTT.out];have hfar:tr.r.ks= []∨∀ad,a=some ad→ad.block≠w.heap.size+1+1:=hne.out.imp id (fun h ad e=>(h ad e).2);exact⟨⟨a,n,c,rfl,(((hi.set2 _ 0 _ hfar).set2 _ 1 _ hfar).set2 _ 2 _ hfar).set2 _ 3 _ hfar,hfa.imp (fun h=>⟨h.1,List.eq_nil_of_length_eq_zero (by rw [h.2] at hkn;omega)⟩) (fun h ad e=>Nat.le_trans (by omega) (h ad e))⟩,((((hw0).setCell (by simp;omega) _).setCell (by simp;omega) _).setCell (by simp;omega) _).setCell (by simp;omega) _⟩
    }
end
end Go.Proofs.YthmekfcgdfckaaaGreatDoor
