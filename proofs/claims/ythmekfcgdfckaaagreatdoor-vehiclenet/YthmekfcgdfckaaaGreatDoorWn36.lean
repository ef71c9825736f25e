/- The contracts of vehicle.firstError, checkMany, Check. The contract of vehicle.Do. Whole structs that are read and written at once: 'rdB', 'wrB'; vehicles, happenings, units, offers. -/
import Derived.Test.YthmekfcgdfckaaaGreatDoorWn31
import Derived.Test.YthmekfcgdfckaaaGreatDoorWn34
import Derived.Test.YthmekfcgdfckaaaGreatDoorWn35
import Derived.Deep.WholeRow
import Derived.Deep.MidRow
set_option maxRecDepth 1000000
set_option maxHeartbeats 0
namespace Go.Proofs.YthmekfcgdfckaaaGreatDoor
variable {v:Vh} {m:VA} {w:World} {b:Nat} {P:Program} {t u:TypeId} {tmps:Array Value}
section
open Go.RowKit
attribute [local go_sem ↓] Go.wp_at_zero Go.wp_at_succ
theorem zk7 (g B n:Nat) (es:List Int) (w:World) (hn:es.length=n) (hm:n≤1000) (h: ∀i e,es[i]?=some e→∃fn,w.cell? ⟨g,i,none⟩=some (.func (.func fn) #[] #[.pointer (some ⟨B,0,none⟩)])∧(∀W,(callFunc fn #[.pointer (some ⟨B,0,none⟩)]).run Tryz.prog W=.ok (.enter fn #[.pointer (some ⟨B,0,none⟩)]) W)∧
      ∀W,Below w.heap.size w W→Calls Tryz.prog fn #[.pointer (some ⟨B,0,none⟩)] W (fun r w' =>r=.returned (.int .i64 e)∧Below W.heap.size W w')):
    Calls Tryz.prog 57 #[.slice (some ⟨g,0,none⟩) n n] w fun r w' =>r=.returned (.int .i64 (za0 es))∧Below w.heap.size w w' :=by
  have HN:=hide hn;have HF:=hide h;clear hn h;have hnI: (n:Int)≤9223372036854775807:=by omega
  go_enter Tryz.func57,Tryz.ntmps57;go_wp2_with fail
  go_loopw [8] (fun i wq=>∃k:Nat,k≤n∧i=.int .i64 k∧Hid (Below w.heap.size w wq)∧Hid (∀j,j<k→es.getD j 0=0)) (fun i _=>n - (intOf i).toNat)
  case atStart=>exact⟨0,by omega,rfl,Below.refl _ _,fun j hj=>absurd hj (by omega)⟩
  case round=>
    obtain ⟨wq,rfl⟩: ∃wq:World,wq=wr:=⟨_,rfl⟩;obtain ⟨k,hk,rfl,hB,hZ⟩:=hrel
    by_cases hkn:k<n
    {
    have hkI: (k:Int)< (n:Int):=by omega
    have hul:k<es.length:=by rw [HN.out];exact hkn
    obtain ⟨fn,y0,hcf,hu⟩:=HF.out k _ (List.getElem?_eq_getElem hul);have HM:Hid (es[k]?=some es[k]):=List.getElem?_eq_getElem hul;have HU:=hide (hu wq hB.out);generalize es[k]=u at *;replace y0:=(hB.out.cell (zah y0)).trans y0;clear hul hu;go_wp2_with fail;refine(zae HU).mono ?_;rintro e w3 ⟨rfl,hb3⟩;have HB3:=hide (hB.out.trans (hb3.mono hB.out.size));clear hb3 HU
    by_cases hq:u=0
    rotate_left
    {
    have d: (u !=0)=true:=by simpa using hq
    have HE:=hide (zch _ k _ hZ.out HM.out hq);clear hq;go_wp2_with fail;go_ret;exact⟨zao HE.out.symm,HB3.out⟩
    }
    have d: (u !=0)=false:=by simpa using hq
    have HQ0:=hide hq;clear hq;go_wp2_with fail;exact⟨⟨k+1,hkn,by simp,HB3,zdn hZ.out HM.out HQ0.out⟩,by simp [intOf];omega⟩
    }
    {
    have hkk:k=n:=by omega
    subst hkk;clear hk hkn;go_wp2_with fail;go_ret;exact⟨zao (zc4 _ (by rw [HN.out];exact hZ.out)).symm,hB.out⟩
    }
def manyE (v:Vh):Int:=if v.cs.length≤8∧v.net.length≤24 then 0 else 2
theorem zmz (v:Vh) (m:VA) (w:World) (h1:v.cs.length=m.nc) (h2:v.net.length=m.nn):
    Calls Tryz.prog 65 #[vhv v m] w fun e w' =>e=.returned (.int .i64 (manyE v))∧Below w.heap.size w w' :=by
  unfold vhv vhC manyE;rw [h1,h2];have hw:Below w.heap.size w (w.alloc (.cells (vhC v m) 40)):=bA1;unfold vhC at hw;clear h1 h2
  by_cases z1:m.nc≤8
  {
  by_cases z2:m.nn≤24
  {
  have hz1: (m.nc:Int)≤8:=by omega
  have hz2: (m.nn:Int)≤24:=by omega
  rw [if_pos ⟨z1,z2⟩];go_enter Tryz.func65,Tryz.ntmps65;go_wp2_with fail;refine(zc7 true 2 _).mono ?_;rintro e w1 ⟨rfl,rfl⟩;go_wp2_with fail;go_ret;exact⟨rfl,hw⟩
  }
  {
  have hz1: (m.nc:Int)≤8:=by omega
  have hz2: ¬(m.nn:Int)≤24:=by omega
  rw [if_neg (fun h=>z2 h.2)];go_enter Tryz.func65,Tryz.ntmps65;go_wp2_with fail;refine(zc7 false 2 _).mono ?_;rintro e w1 ⟨rfl,rfl⟩;go_wp2_with fail;go_ret;exact⟨rfl,hw⟩
  }
  }
  {
  have hz1: ¬(m.nc:Int)≤8:=by omega
  rw [if_neg (fun h=>z1 h.1)];go_enter Tryz.func65,Tryz.ntmps65;go_wp2_with fail;refine(zc7 false 2 _).mono ?_;rintro e w1 ⟨rfl,rfl⟩;go_wp2_with fail;go_ret;exact⟨rfl,hw⟩
  }
structure CkB (W:World) (B:Nat) (v:Vh) (m:VA):Prop where
  box:W.heap[B]?=some (vhO v m)
  vin:VIn W (fun _=>False) m v
theorem CkB.below {W W' :World} {B:Nat} (h:CkB W B v m) (hb:Below W.heap.size W W'):CkB W' B v m:=⟨zab h.box hb,h.vin.below hb⟩
theorem zrd (B:Nat) (v:Vh) (m:VA) (w:World) (h:CkB w B v m):
    Calls Tryz.prog 58 #[.pointer (some ⟨B,0,none⟩)] w fun e w' =>e=.returned (.int .i64 (bookE v.ss))∧Below w.heap.size w w' :=by
  have x0:=zaa h.box 0 (.slice m.ab m.nb m.cb) rfl;have HC:=hide (zdw m.ab m.nb m.cb v.ss w h.vin.ss.at_ h.vin.ss.len h.vin.ss.cap h.vin.ss.short);unfold bookv at HC;clear h;go_enter Tryz.func58,Tryz.ntmps58;go_wp2_with fail;refine(zae HC).mono ?_;rintro e w1 ⟨rfl,hb⟩;go_wp2_with fail;go_ret;exact⟨rfl,hb⟩
theorem zp4 (B:Nat) (v:Vh) (m:VA) (w:World) (h:CkB w B v m):
    Calls Tryz.prog 59 #[.pointer (some ⟨B,0,none⟩)] w fun e w' =>e=.returned (.int .i64 (sigE v.sg))∧Below w.heap.size w w' :=by
  have x1:=zaa h.box 1 (.slice m.sa m.ns m.cs) rfl;have HC:=hide (zd3 m.sa m.ns m.cs v.sg w h.vin.sg);clear h;go_enter Tryz.func59,Tryz.ntmps59;go_wp2_with fail;refine(zae HC).mono ?_;rintro e w1 ⟨rfl,hb⟩;go_wp2_with fail;go_ret;exact⟨rfl,hb⟩
theorem zq3 (B:Nat) (v:Vh) (m:VA) (w:World) (h:CkB w B v m):
    Calls Tryz.prog 60 #[.pointer (some ⟨B,0,none⟩)] w fun e w' =>e=.returned (.int .i64 (gtE v.g))∧Below w.heap.size w w' :=by
  have x2:=zaa h.box 2 (.slice m.g.a m.g.n m.g.c) rfl;have x3:=zaa h.box 3 (.int .i64 v.g.fu) rfl;have x4:=zaa h.box 4 (.bool v.g.up) rfl;have x5:=zaa h.box 5 (.int .i64 v.g.t.r.v) rfl;have x6:=zaa h.box 6 (.slice m.g.ak m.g.nk m.g.ck) rfl;have x7:=zaa h.box 7 (.int .i64 v.g.t.r.t) rfl;have x8:=zaa h.box 8 (.int .i64 v.g.t.ver) rfl;have x9:=zaa h.box 9 (.slice m.g.av m.g.nv m.g.cv) rfl;have x10:=zaa h.box 10 (.slice m.g.ad m.g.nd m.g.cd) rfl;have HC:=hide (zca v.g m.g w h.vin.g);unfold gtv at HC;clear h;go_enter Tryz.func60,Tryz.ntmps60;go_wp2_with fail;refine(zae HC).mono ?_;rintro e w1 ⟨rfl,hb⟩;go_wp2_with fail;go_ret;exact⟨rfl,hb⟩
theorem zre (B:Nat) (v:Vh) (m:VA) (w:World) (h:CkB w B v m):
    Calls Tryz.prog 62 #[.pointer (some ⟨B,0,none⟩)] w fun e w' =>e=.returned (.int .i64 (unsE v.us v.g.vo.length))∧Below w.heap.size w w' :=by
  have x11:=zaa h.box 11 (.slice m.au m.nu m.cu) rfl;have x9:=zaa h.box 9 (.slice m.g.av m.g.nv m.g.cv) rfl;have HC:=hide (zk6 m.au m.nu m.cu _ v.us m.g.nv w h.vin.us);have hl:=h.vin.g.vo.len;rw [hl];clear h hl;go_enter Tryz.func62,Tryz.ntmps62;go_wp2_with fail;refine(zae HC).mono ?_;rintro e w1 ⟨rfl,hb⟩;go_wp2_with fail;go_ret;exact⟨rfl,hb⟩
theorem zrh (B:Nat) (v:Vh) (m:VA) (w:World) (h:CkB w B v m):
    Calls Tryz.prog 64 #[.pointer (some ⟨B,0,none⟩)] w fun e w' =>e=.returned (.int .i64 (manyE v))∧Below w.heap.size w w' :=by
  have x0:=zaa h.box 0 (.slice m.ab m.nb m.cb) rfl;have x1:=zaa h.box 1 (.slice m.sa m.ns m.cs) rfl;have x2:=zaa h.box 2 (.slice m.g.a m.g.n m.g.c) rfl;have x3:=zaa h.box 3 (.int .i64 v.g.fu) rfl;have x4:=zaa h.box 4 (.bool v.g.up) rfl;have x5:=zaa h.box 5 (.int .i64 v.g.t.r.v) rfl;have x6:=zaa h.box 6 (.slice m.g.ak m.g.nk m.g.ck) rfl;have x7:=zaa h.box 7 (.int .i64 v.g.t.r.t) rfl;have x8:=zaa h.box 8 (.int .i64 v.g.t.ver) rfl;have x9:=zaa h.box 9 (.slice m.g.av m.g.nv m.g.cv) rfl;have x10:=zaa h.box 10 (.slice m.g.ad m.g.nd m.g.cd) rfl;have x11:=zaa h.box 11 (.slice m.au m.nu m.cu) rfl;have x12:=zaa h.box 12 (.slice m.ac m.nc m.cc) rfl;have x13:=zaa h.box 13 (.slice m.an m.nn m.cn) rfl;have x14:=zaa h.box 14 (.int .i64 v.now) rfl;have HC:=hide (zmz v m w h.vin.cs.len h.vin.net.len);unfold vhv vhC at HC;clear h;go_enter Tryz.func64,Tryz.ntmps64;go_wp2_with fail;refine(zae HC).mono ?_;rintro e w1 ⟨rfl,hb⟩;go_wp2_with fail;go_ret;exact⟨rfl,hb⟩
theorem zp8 (B:Nat) (v:Vh) (m:VA) (w:World) (h:CkB w B v m):
    Calls Tryz.prog 66 #[.pointer (some ⟨B,0,none⟩)] w fun e w' =>e=.returned (.int .i64 (cpsE v.us.length v.cs))∧Below w.heap.size w w' :=by
  have x12:=zaa h.box 12 (.slice m.ac m.nc m.cc) rfl;have x11:=zaa h.box 11 (.slice m.au m.nu m.cu) rfl;have HC:=hide (zh3 m.ac m.nc m.cc _ v.cs m.nu w h.vin.cs);have hl:=h.vin.us.len;rw [hl];clear h hl;go_enter Tryz.func66,Tryz.ntmps66;go_wp2_with fail;refine(zae HC).mono ?_;rintro e w1 ⟨rfl,hb⟩;go_wp2_with fail;go_ret;exact⟨rfl,hb⟩
theorem zql (B:Nat) (v:Vh) (m:VA) (w:World) (h:CkB w B v m):
    Calls Tryz.prog 68 #[.pointer (some ⟨B,0,none⟩)] w fun e w' =>e=.returned (.int .i64 (netE v.us.length v.net))∧Below w.heap.size w w' :=by
  have x13:=zaa h.box 13 (.slice m.an m.nn m.cn) rfl;have x11:=zaa h.box 11 (.slice m.au m.nu m.cu) rfl;have HC:=hide (zny m.an m.nn m.cn _ v.net m.nu w h.vin.net);have hl:=h.vin.us.len;rw [hl];clear h hl;go_enter Tryz.func68,Tryz.ntmps68;go_wp2_with fail;refine(zae HC).mono ?_;rintro e w1 ⟨rfl,hb⟩;go_wp2_with fail;go_ret;exact⟨rfl,hb⟩
def nowE (v:Vh):Int:=if inB v.now 0 100000=true then 0 else 3
theorem zqz (B:Nat) (v:Vh) (m:VA) (w:World) (h:CkB w B v m):
    Calls Tryz.prog 70 #[.pointer (some ⟨B,0,none⟩)] w fun e w' =>e=.returned (.int .i64 (nowE v))∧Below w.heap.size w w' :=by
  have x14:=zaa h.box 14 (.int .i64 v.now) rfl;have HC:=hide (zdq v.now 0 100000 w);clear h;have HE:=hide (zc7 (inB v.now 0 100000) 3 w);rw [show(if inB v.now 0 100000=true then(0:Int) else 3)=nowE v from rfl] at HE;generalize nowE v=z0 at *;generalize inB v.now 0 100000=q at *;go_enter Tryz.func70,Tryz.ntmps70;go_wp2_with fail;refine(zae HC).mono ?_;rintro e w1 ⟨rfl,hw1⟩;replace hw1:=hw1.symm;subst hw1;go_wp2_with fail;refine(zae HE).mono ?_;rintro e w1 ⟨rfl,hw1⟩;replace hw1:=hw1.symm;subst hw1;go_wp2_with fail;go_ret;exact⟨rfl,Below.refl _ _⟩
theorem vhE_eq (v:Vh):vhE v=za0 [bookE v.ss,sigE v.sg,gtE v.g,unsE v.us v.g.vo.length,manyE v,cpsE v.us.length v.cs,netE v.us.length v.net,nowE v]:=rfl
theorem zct (v:Vh) (m:VA) (w:World) (h:VIn w (fun _=>False) m v):
    Calls Tryz.prog 16 #[vhv v m] w fun e w' =>e=.returned (.int .i64 (vhE v))∧Below w.heap.size w w' :=by
  have hw:Below w.heap.size w (w.alloc (.cells (vhC v m) 40)):=bA1;have hck:Hid (CkB (w.alloc (.cells (vhC v m) 40)) w.heap.size v m):=⟨heap_alloc_last w (.cells (vhC v m) 40),h.below hw⟩;have HE:=hide (vhE_eq v);clear h;unfold vhv;go_enter Tryz.func16,Tryz.ntmps16;go_wp2_with fail;have hb2:Below (w.alloc (.cells (vhC v m) 40)).heap.size (w.alloc (.cells (vhC v m) 40)) ((w.alloc (.cells (vhC v m) 40)).alloc (.cells #[.func (.func 58) #[] #[.pointer (some ⟨w.heap.size,0,none⟩)],.func (.func 59) #[] #[.pointer (some ⟨w.heap.size,0,none⟩)],.func (.func 60) #[] #[.pointer (some ⟨w.heap.size,0,none⟩)],.func (.func 62) #[] #[.pointer (some ⟨w.heap.size,0,none⟩)],.func (.func 64) #[] #[.pointer (some ⟨w.heap.size,0,none⟩)],.func (.func 66) #[] #[.pointer (some ⟨w.heap.size,0,none⟩)],.func (.func 68) #[] #[.pointer (some ⟨w.heap.size,0,none⟩)],.func (.func 70) #[] #[.pointer (some ⟨w.heap.size,0,none⟩)]] 124)):=bA1;have hr:=zau w (.cells (vhC v m) 40) (.cells #[.func (.func 58) #[] #[.pointer (some ⟨w.heap.size,0,none⟩)],.func (.func 59) #[] #[.pointer (some ⟨w.heap.size,0,none⟩)],.func (.func 60) #[] #[.pointer (some ⟨w.heap.size,0,none⟩)],.func (.func 62) #[] #[.pointer (some ⟨w.heap.size,0,none⟩)],.func (.func 64) #[] #[.pointer (some ⟨w.heap.size,0,none⟩)],.func (.func 66) #[] #[.pointer (some ⟨w.heap.size,0,none⟩)],.func (.func 68) #[] #[.pointer (some ⟨w.heap.size,0,none⟩)],.func (.func 70) #[] #[.pointer (some ⟨w.heap.size,0,none⟩)]] 124);refine(zk7 (w.heap.size+1) w.heap.size 8 [bookE v.ss,sigE v.sg,gtE v.g,unsE v.us v.g.vo.length,manyE v,cpsE v.us.length v.cs,netE v.us.length v.net,nowE v] _ rfl (by decide) (fun i e hi=> ?_)).mono ?_
  {
  have hck2:=hck.out.below hb2
  match i,hi with
  |0,hi=>cases hi;exact⟨_,zaa hr 0 _ rfl,fun W=>by rfl,fun W hW=>zrd _ v m W (hck2.below hW)⟩
  |1,hi=>cases hi;exact⟨_,zaa hr 1 _ rfl,fun W=>by rfl,fun W hW=>zp4 _ v m W (hck2.below hW)⟩
  |2,hi=>cases hi;exact⟨_,zaa hr 2 _ rfl,fun W=>by rfl,fun W hW=>zq3 _ v m W (hck2.below hW)⟩
  |3,hi=>cases hi;exact⟨_,zaa hr 3 _ rfl,fun W=>by rfl,fun W hW=>zre _ v m W (hck2.below hW)⟩
  |4,hi=>cases hi;exact⟨_,zaa hr 4 _ rfl,fun W=>by rfl,fun W hW=>zrh _ v m W (hck2.below hW)⟩
  |5,hi=>cases hi;exact⟨_,zaa hr 5 _ rfl,fun W=>by rfl,fun W hW=>zp8 _ v m W (hck2.below hW)⟩
  |6,hi=>cases hi;exact⟨_,zaa hr 6 _ rfl,fun W=>by rfl,fun W hW=>zql _ v m W (hck2.below hW)⟩
  |7,hi=>cases hi;exact⟨_,zaa hr 7 _ rfl,fun W=>by rfl,fun W hW=>zqz _ v m W (hck2.below hW)⟩
  |i+8,hi=>simp at hi
  }
  rintro e w3 ⟨rfl,hb3⟩;have hbel:=hw.trans (((bT hb2 hb3)).mono hw.size);clear hr hb2 hb3 hck;go_wp2_with fail;go_ret;exact⟨zao HE.out.symm,hbel⟩
end
section
open Go.RowKit
attribute [local go_sem ↓] Go.wp_at_zero Go.wp_at_succ
theorem zbl {e:Int} {r:List Int} (h:za0 (e::r)=0):e=0∧za0 r=0:=by
  unfold za0 at h
  by_cases he:e=0
  { rw [if_neg (by simpa using he)] at h;exact⟨he,h⟩ }
  { rw [if_pos he] at h;exact absurd h he }
structure VFine (v:Vh):Prop where
  bk:bookE v.ss=0
  sg:sigE v.sg=0
  gt:gtE v.g=0
  us:unsE v.us v.g.vo.length=0
  many:v.cs.length≤8∧v.net.length≤24
  cs:cpsE v.us.length v.cs=0
  net:netE v.us.length v.net=0
  now:inB v.now 0 100000=true
theorem zec (h:vhE v=0):VFine v:=by
  rw [vhE_eq] at h;obtain ⟨h1,h⟩:=zbl h;obtain ⟨h2,h⟩:=zbl h;obtain ⟨h3,h⟩:=zbl h;obtain ⟨h4,h⟩:=zbl h;obtain ⟨h5,h⟩:=zbl h;obtain ⟨h6,h⟩:=zbl h;obtain ⟨h7,h⟩:=zbl h;obtain ⟨h8,h⟩:=zbl h;refine⟨h1,h2,h3,h4, ?_,h6,h7, ?_⟩
  {
  unfold manyE at h5
  split at h5
  { assumption }
  { cases h5 }
  }
  {
  unfold nowE at h8
  split at h8
  { assumption }
  { cases h8 }
  }
theorem cps_ok {units:Nat} {l:List Cp} (h:cpsE units l=0) {x:Cp} (hx:x∈l): ∃i,cpE units i x=0:=by
  have: ∀(l:List Cp) (k:Nat),za0 (l.mapIdx (fun i=>cpE units (i+k)))=0→∀x∈l,∃i,cpE units i x=0:=by
    intro l
    induction l with
    |nil=>intro _ _ x hx;cases hx
    |cons y r ih=>
      intro k h0 x hx;rw [List.mapIdx_cons] at h0;obtain ⟨h1,h2⟩:=zbl h0
      rcases List.mem_cons.1 hx with e|e
      { rw [e];exact⟨_,h1⟩ }
      {
      refine ih (k+1) ?_ x e;rw [←h2]
      congr 2
      funext i
      rw [show i+(k+1)=i+1+k by omega]
      }
  exact this l 0 (by simpa [cpsE] using h) x hx
theorem cp_small {units i:Nat} {x:Cp} (hu:units≤4) (h:cpE units i x=0):CSm x:=by
  unfold cpE at h
  split at h
  { cases h }
  {
  rename_i h1
  have h2:x.ims.length=units:=Classical.byContradiction fun e=>h1 (.inr (.inl e))
  have h3:x.ts.length=units:=Classical.byContradiction fun e=>h1 (.inr (.inr e))
  refine⟨by omega,by omega,fun r hr=> ?_⟩;have hz:za0 (x.ims.map imgE)=0:=Classical.byContradiction fun e=>by rw [if_pos e] at h;exact e h
  have: ∀(l:List (List Int)),za0 (l.map imgE)=0→∀r∈l,imgE r=0:=by
    intro l
    induction l with
    |nil=>intro _ x hx;cases hx
    |cons y r ih=>
      intro h0 x hx;obtain ⟨g1,g2⟩:=zbl h0
      rcases List.mem_cons.1 hx with e|e
      { rw [e];exact g1 }
      { exact ih g2 x e }
  have hi:=this _ hz r hr;unfold imgE at hi
  split at hi
  { rename_i h5;unfold inR at h5;simp at h5;omega }
  { cases hi }
  }
theorem VFine.small {K:Nat→Prop} (h:VFine v) (hv:VIn w K m v):VSm v:=by
  obtain ⟨s1,s2,s3,s4⟩:=hv.g.sizes h.gt;have l1:=hv.g.ws.len;have l2:=hv.g.ks.len;have l3:=hv.g.vo.len;have l4:=hv.g.di.len;have hul:v.us.length=v.g.vo.length:=by
    have:=h.us;unfold unsE at this
    split at this
    { cases this }
    { rename_i h1;exact Classical.byContradiction fun e=>h1 e }
  have hm:=h.many;refine⟨?_, ?_,by omega,by omega,by omega,by omega,by omega,fun u hu=> ?_,by omega,fun x hx=> ?_,by omega,fun x hx=> ?_⟩
  {
  have:=h.bk;unfold bookE at this
  split at this
  { cases this }
  { omega }
  }
  {
  have:=h.sg;unfold sigE at this
  split at this
  { cases this }
  { omega }
  }
  {
  obtain ⟨k,hk⟩:=List.mem_iff_getElem?.1 hu;have:=zk0 (zj6 h.us hk);omega
  }
  {
  obtain ⟨i,hi⟩:=cps_ok h.cs hx;exact cp_small (by omega) hi
  }
  {
  have:=(zic (zhn h.net hx).1).2;omega
  }
theorem VTw.own {F bu bc bn:Nat} (h:VTw w F bu bc bn m v) {Z:Nat→Prop} (hF:F≤w.heap.size) (hZ: ∀b,Z b→b<F):VOwn (w.alloc (.cells (vhC v m) 40)) F Z ⟨w.heap.size,bu,bc,bn⟩ m v:=by
  have hb:Below w.heap.size w (w.alloc (.cells (vhC v m) 40)):=bA1;have l1:=h.us.lt;have l2:=h.cs.lt;have l3:=h.net.lt;have hK: ∀b,KV Z ⟨w.heap.size,bu,bc,bn⟩ b→KT F bu bc bn b∨w.heap.size≤b:=fun b e=>by
    rcases e with e|e|e|e|e
    { exact .inl (.inl (hZ b e)) }
    { exact .inr (Nat.le_of_eq e.symm) }
    { exact .inl (.inr (.inl e)) }
    { exact .inl (.inr (.inr (.inl e))) }
    { exact .inl (.inr (.inr (.inr e))) }
  exact⟨heap_alloc_last w (.cells (vhC v m) 40),h.ss.below hb,h.sg.below hb,h.g.below hb,h.ss.at_.wide h.ob hK,h.sg.at_.wide h.os hK,h.og.wide h.g hK,(h.us.wide UR.off hK).chg UR.chg (.of hb _) (hb.block _ l1.2),(h.cs.wide CR.off hK).chg CR.chg (.of hb _) (hb.block _ l2.2),(h.net.wide MR.off hK).chg MR.chg (.of hb _) (hb.block _ l3.2),hF,fun b e=>by have:=hZ b e;simp;omega,by dsimp only;omega,by dsimp only;omega,by dsimp only;omega,h.n4,h.n5,h.n6⟩
def DoAns (w:World) (r:Vh×Int) (e:Ending) (w' :World):Prop:=(∃m,e=.returned (.tuple #[vhv r.1 m,.int .i64 r.2])∧VIn w' (fun b=>b<w.heap.size∧Sm w b) m r.1)∧Below w.heap.size w w'
def va0:VA:=⟨none,0,0,none,0,0,ga0,none,0,0,none,0,0,none,0,0⟩
theorem vin0 (w:World) (K:Nat→Prop):VIn w K va0 vh0:=
  ⟨⟨.inl rfl,rfl,Nat.le_refl _,by decide,fun s h=>by cases h⟩,⟨.inl rfl,rfl,by decide⟩,⟨⟨.inl rfl,rfl,Nat.le_refl _,by decide⟩,⟨.inl rfl,rfl,by decide⟩,⟨.inl rfl,rfl,Nat.le_refl _,by decide⟩,⟨.inl rfl,rfl,Nat.le_refl _,by decide⟩⟩,⟨⟨[],.inl rfl,rfl,.inl rfl⟩,rfl,Nat.le_refl _,by decide⟩,⟨⟨[],.inl rfl,rfl,.inl rfl⟩,rfl,Nat.le_refl _,by decide⟩,⟨⟨[],.inl rfl,rfl,.inl rfl⟩,rfl,Nat.le_refl _,by decide⟩,.inl rfl,.inl rfl,⟨.inl rfl,.inl rfl,.inl rfl,.inl rfl⟩⟩
theorem do_e1 {x:Hp} (h:vhE v≠0):doS' v x= (vh0,vhE v):=by unfold doS';rw [if_pos h]
theorem do_e2 {x:Hp} (h:vhE v=0) (h2: (hapS v x).2≠0):doS' v x= (vh0,(hapS v x).2):=by unfold doS';rw [if_neg (by simpa using h),if_pos h2]
theorem do_0 {x:Hp} (h:vhE v=0) (h2: (hapS v x).2=0):doS' v x=hapS v x:=by unfold doS';rw [if_neg (by simpa using h),if_neg (by simpa using h2)]
end
section
open Go.RowKit
def bk (w:World) (b:Nat):Option Obj:=w.heap[b]?
theorem bk_of {o:Obj} (h:w.heap[b]?=some o):bk w b=some o:=h
theorem zgj (w:World) (o:Obj):bk (w.alloc o) w.heap.size=some o:=heap_alloc_last w o
theorem zli (w:World) (b:Nat):bk w.drew b=bk w b:=rfl
def rdB (t:TypeId) (p:Value):Sem Value:=Instr.loadAt t p
def alB (t:TypeId):Sem Value:=Instr.alloc t true (.tuple #[])
def bdB (t:TypeId):Sem Value:=Instr.build t #[]
def wrB (t:TypeId) (p x:Value):Sem Unit:=Instr.storeAt t p x
section
variable {P:Program} {w:World} {t u:TypeId} {n b:Nat} {cs cs' :Array Value} {fr:Nat×Nat}
def rdF (P:Program) (w:World) (t:TypeId) (n b:Nat) (o:Option Obj):Result Value:=match o with
  |some (.cells cs _ _)=>if cs.size=n then .ok (.agg cs) w else(rdB t (.pointer (some ⟨b,0,none⟩))).run P w
  |_=>(rdB t (.pointer (some ⟨b,0,none⟩))).run P w
def wrF (P:Program) (w:World) (t:TypeId) (n b:Nat) (cs' :Array Value) (o:Option Obj):Result Unit:=match o with
  |some (.cells cs _ (0,0))=>if cs.size=n∧cs'.size=n∧cs'.all (·.oneCell')=true then .ok () (w.setRow b cs') else(wrB t (.pointer (some ⟨b,0,none⟩)) (.agg cs')).run P w
  |_=>(wrB t (.pointer (some ⟨b,0,none⟩)) (.agg cs')).run P w
theorem zub (h:cs.size=n):rdF P w t n b (some (.cells cs u fr))=.ok (.agg cs) w:=by unfold rdF;dsimp only;rw [if_pos h]
theorem wrF_at (h:cs.size=n) (h1:cs'.size=n) (h2:cs'.all (·.oneCell')=true):wrF P w t n b cs' (some (.cells cs u (0,0)))=.ok () (w.setRow b cs'):=by unfold wrF;exact if_pos ⟨h,h1,h2⟩
theorem zlc {d:TypeDesc} (hu:P.underlying t=some d) (hd: (match d with| .struct _| .array _ _=>true|_=>false)=true) (hi: (P.info? t).map (·.size)=some n):
    (rdB t (.pointer (some ⟨b,0,none⟩))).run P w=rdF P w t n b (bk w b):=by
  unfold bk;cases ho:w.heap[b]? with
  |none=>rfl
  |some o=>
    cases o with
    |cells cs u fr=>
      unfold rdF;dsimp only
      by_cases h:cs.size=n
      {
      rw [if_pos h];have:=run_loadVar_row (P:=P) w b u t cs fr d ho hu hd (by rw [hi,h]);unfold rdB;simp only [Instr.loadAt,Instr.sureAddr,Sem.run_bind,Sem.run_pure,Result.andThen_ok,this]
      }
      { rw [if_neg h] }
    |_=>rfl
theorem zkv (hi: (P.info? t).map (·.size)=some n): (wrB t (.pointer (some ⟨b,0,none⟩)) (.agg cs')).run P w=wrF P w t n b cs' (bk w b):=by
  unfold bk;cases ho:w.heap[b]? with
  |none=>rfl
  |some o=>
    cases o with
    |cells cs u fr=>
      obtain ⟨f1,f2⟩:=fr;unfold wrF
      split
      {
      rename_i e
      cases e
      by_cases h:cs.size=n∧cs'.size=n∧cs'.all (·.oneCell')=true
      {
      rw [if_pos h];have:=run_storeVar_row (P:=P) w b u t cs cs' ho (by rw [hi,h.2.1]) (by omega) h.2.2;unfold wrB;simp only [Instr.storeAt,Instr.sureAddr,Sem.run_bind,Sem.run_pure,Result.andThen_ok,this]
      }
      { rw [if_neg h] }
      }
      { rfl }
    |_=>rfl
end
theorem zcv (w:World) (g:Nat) (cs:Array Value):Chg (fun b=>b=g) w (w.setRow g cs):=⟨rfl,rfl,rfl,by simp,fun k _ hn=>setRow_other w g k cs hn⟩
section
variable (ρ:Operand→Value) (dst:Option Tmp) (x y:Operand) (ty:TypeId) (pos:String) (after:Array Edge) (guard:Option (Nat×Bool))
theorem zhy:execOp ρ { dst,op:=.load 40 x,type:=ty,pos,after,guard }= (do pure (.value (←rdB 40 (ρ x)))):=rfl
theorem zhp:execOp ρ { dst,op:=.store 40 x y,type:=ty,pos,after,guard }= (do wrB 40 (ρ x) (ρ y);pure .skip):=rfl
theorem exH_ld:execOp ρ { dst,op:=.load 49 x,type:=ty,pos,after,guard }= (do pure (.value (←rdB 49 (ρ x)))):=rfl
theorem exH_st:execOp ρ { dst,op:=.store 49 x y,type:=ty,pos,after,guard }= (do wrB 49 (ρ x) (ρ y);pure .skip):=rfl
theorem exH_al:execOp ρ { dst,op:=.alloc 49,type:=ty,pos,after,guard }= (do pure (.value (←alB 49))):=rfl
theorem zhu:execOp ρ { dst,op:=.alloc 40,type:=ty,pos,after,guard }= (do pure (.value (←alB 40))):=rfl
theorem exV_bd:execOp ρ { dst,op:=.build 40 #[],type:=ty,pos,after,guard }= (do pure (.value (←bdB 40))):=by simp only [execOp,bdB,List.map_toArray,List.map_nil]
end
theorem sizeV: (Tryz.prog.info? 40).map (·.size)=some 15:=by kernel_rfl
theorem sizeH: (Tryz.prog.info? 49).map (·.size)=some 10:=by kernel_rfl
theorem zgl (w:World) (b:Nat): (rdB 40 (.pointer (some ⟨b,0,none⟩))).run Tryz.prog w=rdF Tryz.prog w 40 15 b (bk w b):=zlc Tryz.underlying40 rfl sizeV
theorem zgn (w:World) (b:Nat) (cs:Array Value): (wrB 40 (.pointer (some ⟨b,0,none⟩)) (.agg cs)).run Tryz.prog w=wrF Tryz.prog w 40 15 b cs (bk w b):=zkv sizeV
theorem zuu (w:World) (b:Nat): (rdB 49 (.pointer (some ⟨b,0,none⟩))).run Tryz.prog w=rdF Tryz.prog w 49 10 b (bk w b):=zlc Tryz.underlying49 rfl sizeH
theorem zup (w:World) (b:Nat) (cs:Array Value): (wrB 49 (.pointer (some ⟨b,0,none⟩)) (.agg cs)).run Tryz.prog w=wrF Tryz.prog w 49 10 b cs (bk w b):=zkv sizeH
theorem infoV: (Tryz.prog.info? 40).map (fun i=>(i.zero,i.size))=some (some (.agg (vhC vh0 va0)),15):=by kernel_rfl
theorem zgi (w:World): (alB 40).run Tryz.prog w=.ok (.pointer (some ⟨w.heap.size,0,none⟩)) (w.alloc (.cells (vhC vh0 va0) 40)):=by
  unfold alB
  simp [go_sem,zero_of_info infoV]
theorem bdV_run (w:World): (bdB 40).run Tryz.prog w=.ok (.agg (vhC vh0 va0)) w:=run_build w _ _ _ (by kernel_rfl)
theorem vhC_one (v:Vh) (m:VA): (vhC v m).all (·.oneCell')=true:=by simp [vhC,Value.oneCell']
theorem bk_v (h:w.heap[b]?=some (vhO v m)):bk w b=some (.cells (vhC v m) 40 (0,0)):=h
theorem rdF_V {fr:Nat×Nat} (v:Vh) (m:VA):rdF P w t 15 b (some (.cells (vhC v m) u fr))=.ok (.agg (vhC v m)) w:=zub rfl
theorem wrF_V (v v' :Vh) (m m' :VA):wrF P w t 15 b (vhC v' m') (some (.cells (vhC v m) u (0,0)))=.ok () (w.setRow b (vhC v' m')):=wrF_at rfl rfl (vhC_one _ _)
theorem ldV (h:w.heap[b]?=some (vhO v m)): (loadVar 40 ⟨b,0,none⟩).run Tryz.prog w=.ok (vhv v m) w:=
  run_loadVar_row w b _ _ _ _ _ h Tryz.underlying40 rfl sizeV
theorem resV2 {fn:Func} {p u:Tmp} (h:fn.results=#[.cell p 40,.tmp u]) {x:Value} (hp:tmps.getD p undef=.pointer (some ⟨b,0,none⟩)) (hx:tmps.getD u undef=x) (hb:w.heap[b]?=some (vhO v m)):
    (results fn tmps).run Tryz.prog w=.ok (.tuple #[vhv v m,x]) w:=by
  rw [Array.getD_eq_getD_getElem?] at hp hx;simp only [results,h]
  simp [Result.andThen,hp,hx,asAddr,ldV hb]
theorem resV3 {fn:Func} {p u z:Tmp} (h:fn.results=#[.cell p 40,.tmp u,.tmp z]) {x y:Value} (hp:tmps.getD p undef=.pointer (some ⟨b,0,none⟩)) (hx:tmps.getD u undef=x) (hy:tmps.getD z undef=y) (hb:w.heap[b]?=some (vhO v m)):
    (results fn tmps).run Tryz.prog w=.ok (.tuple #[vhv v m,x,y]) w:=by
  rw [Array.getD_eq_getD_getElem?] at hp hx hy;simp only [results,h]
  simp [Result.andThen,hp,hx,hy,asAddr,ldV hb]
def hpC (x:Hp) (mo:OA):Array Value:=#[.int .i64 x.k,.int .i64 x.u,.int .i64 x.j,.slice mo.a1 mo.n1 mo.c1,.slice mo.a2 mo.n2 mo.c2,.int .i64 x.o.v,.int .i64 x.o.u,.slice mo.a3 mo.n3 mo.c3,.slice mo.a4 mo.n4 mo.c4,.slice mo.a5 mo.n5 mo.c5]
theorem hpv_eq (x:Hp) (mo:OA):hpv x mo=.agg (hpC x mo):=rfl
theorem zuq (w:World) (b o:Nat) (x:Hp) (mo:OA) (h: ∀j v,(hpC x mo).toList[j]?=some v→w.cell? ⟨b,o+j,none⟩=some v): (rdB 49 (.pointer (some ⟨b,o,none⟩))).run Tryz.prog w=.ok (.agg (hpC x mo)) w:=
  run_loadAt_mid w b o _ (hpC x mo).toList _ h Tryz.underlying49 rfl sizeH
theorem rdF_H {fr:Nat×Nat} (x:Hp) (m:OA):rdF P w t 10 b (some (.cells (hpC x m) u fr))=.ok (.agg (hpC x m)) w:=zub rfl
def of9:Of:=⟨[], [],0,0, [], [], []⟩
def hp9:Hp:=⟨0,0,0,of9⟩
def oa9:OA:=⟨none,0,0,none,0,0,none,0,0,none,0,0,none,0,0⟩
theorem wrF_H (x x' :Hp) (m m' :OA):wrF P w t 10 b (hpC x' m') (some (.cells (hpC x m) u (0,0)))=.ok () (w.setRow b (hpC x' m')):=wrF_at rfl rfl (by simp [hpC,Value.oneCell'])
theorem infoHp: (Tryz.prog.info? 49).map (fun i=>(i.zero,i.size))=some (some (.agg (hpC hp9 oa9)),10):=by kernel_rfl
theorem zur (w:World): (alB 49).run Tryz.prog w=.ok (.pointer (some ⟨w.heap.size,0,none⟩)) (w.alloc (.cells (hpC hp9 oa9) 49)):=by
  unfold alB
  simp [go_sem,zero_of_info infoHp]
def gaC (g:Gt) (m:GA):Array Value:=#[.slice m.a m.n m.c,.int .i64 g.fu,.bool g.up,.int .i64 g.t.r.v,.slice m.ak m.nk m.ck,.int .i64 g.t.r.t,.int .i64 g.t.ver,.slice m.av m.nv m.cv,.slice m.ad m.nd m.cd]
theorem zud (g:Gt) (m:GA):gtv g m=.agg (gaC g m):=rfl
section
variable (ρ:Operand→Value) (dst:Option Tmp) (x y:Operand) (ty:TypeId) (pos:String) (after:Array Edge) (guard:Option (Nat×Bool))
theorem exG_ld:execOp ρ { dst,op:=.load 35 x,type:=ty,pos,after,guard }= (do pure (.value (←rdB 35 (ρ x)))):=rfl
theorem exG_st:execOp ρ { dst,op:=.store 35 x y,type:=ty,pos,after,guard }= (do wrB 35 (ρ x) (ρ y);pure .skip):=rfl
theorem exG_al:execOp ρ { dst,op:=.alloc 35,type:=ty,pos,after,guard }= (do pure (.value (←alB 35))):=rfl
end
theorem zeroG: (Tryz.prog.info? 35).map (fun i=>(i.zero,i.size))=some (some (.agg (gaC gt0 ga0)),9):=by kernel_rfl
theorem sizeG: (Tryz.prog.info? 35).map (·.size)=some 9:=(zero_of_info zeroG).2
theorem rdG_run (w:World) (b:Nat): (rdB 35 (.pointer (some ⟨b,0,none⟩))).run Tryz.prog w=rdF Tryz.prog w 35 9 b (bk w b):=zlc Tryz.underlying35 rfl sizeG
theorem wrG_run (w:World) (b:Nat) (cs:Array Value): (wrB 35 (.pointer (some ⟨b,0,none⟩)) (.agg cs)).run Tryz.prog w=wrF Tryz.prog w 35 9 b cs (bk w b):=zkv sizeG
theorem alG_run (w:World): (alB 35).run Tryz.prog w=.ok (.pointer (some ⟨w.heap.size,0,none⟩)) (w.alloc (.cells (gaC gt0 ga0) 35)):=by
  unfold alB
  simp [go_sem,zero_of_info zeroG]
theorem rdF_G {fr:Nat×Nat} (g:Gt) (m:GA):rdF P w t 9 b (some (.cells (gaC g m) u fr))=.ok (.agg (gaC g m)) w:=zub rfl
theorem rdG_mid (w:World) (b o:Nat) (g:Gt) (m:GA) (h: ∀j v,(gaC g m).toList[j]?=some v→w.cell? ⟨b,o+j,none⟩=some v): (rdB 35 (.pointer (some ⟨b,o,none⟩))).run Tryz.prog w=.ok (.agg (gaC g m)) w:=
  run_loadAt_mid w b o _ (gaC g m).toList _ h Tryz.underlying35 rfl sizeG
theorem wrF_G (g g' :Gt) (m m' :GA):wrF P w t 9 b (gaC g' m') (some (.cells (gaC g m) u (0,0)))=.ok () (w.setRow b (gaC g' m')):=wrF_at rfl rfl (by simp [gaC,Value.oneCell'])
def unC (u:Un) (a:Option Addr) (n c:Nat):Array Value:=#[.slice a n c,.int .i64 u.fu,.bool u.up,.int .i64 u.n,.int .i64 u.hv]
theorem unv_eq (u:Un) (a:Option Addr) (n c:Nat):unv u a n c=.agg (unC u a n c):=rfl
section
variable (ρ:Operand→Value) (dst:Option Tmp) (x y:Operand) (ty:TypeId) (pos:String) (after:Array Edge) (guard:Option (Nat×Bool))
theorem exU_ld:execOp ρ { dst,op:=.load 82 x,type:=ty,pos,after,guard }= (do pure (.value (←rdB 82 (ρ x)))):=rfl
end
theorem zeroU: (Tryz.prog.info? 82).map (fun i=>(i.zero,i.size))=some (some (.agg (unC un0 none 0 0)),5):=by kernel_rfl
theorem sizeU: (Tryz.prog.info? 82).map (·.size)=some 5:=(zero_of_info zeroU).2
theorem rdU_mid (w:World) (b o:Nat) (u:Un) (a:Option Addr) (n c:Nat) (h: ∀j v,(unC u a n c).toList[j]?=some v→w.cell? ⟨b,o+j,none⟩=some v): (rdB 82 (.pointer (some ⟨b,o,none⟩))).run Tryz.prog w=.ok (.agg (unC u a n c)) w:=
  run_loadAt_mid w b o _ (unC u a n c).toList _ h Tryz.underlying82 rfl sizeU
def ofC (v u:Int) (m:OA):Array Value:=#[.slice m.a1 m.n1 m.c1,.slice m.a2 m.n2 m.c2,.int .i64 v,.int .i64 u,.slice m.a3 m.n3 m.c3,.slice m.a4 m.n4 m.c4,.slice m.a5 m.n5 m.c5]
section
variable (ρ:Operand→Value) (dst:Option Tmp) (x y:Operand) (ty:TypeId) (pos:String) (after:Array Edge) (guard:Option (Nat×Bool))
theorem exO_ld:execOp ρ { dst,op:=.load 47 x,type:=ty,pos,after,guard }= (do pure (.value (←rdB 47 (ρ x)))):=rfl
end
theorem zeroO: (Tryz.prog.info? 47).map (fun i=>(i.zero,i.size))=some (some (.agg (ofC 0 0 oa9)),7):=by kernel_rfl
theorem sizeO: (Tryz.prog.info? 47).map (·.size)=some 7:=(zero_of_info zeroO).2
theorem rdO_mid (w:World) (b o:Nat) (v u:Int) (m:OA) (h: ∀j x,(ofC v u m).toList[j]?=some x→w.cell? ⟨b,o+j,none⟩=some x): (rdB 47 (.pointer (some ⟨b,o,none⟩))).run Tryz.prog w=.ok (.agg (ofC v u m)) w:=
  run_loadAt_mid w b o _ (ofC v u m).toList _ h Tryz.underlying47 rfl sizeO
end
end Go.Proofs.YthmekfcgdfckaaaGreatDoor
