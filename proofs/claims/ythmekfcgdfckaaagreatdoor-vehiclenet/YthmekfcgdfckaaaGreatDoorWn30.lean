/- The contracts of vehicle.take, send, double. A region that draws its order, and stores into cells that it reads: a load may be taken first, where the region's first store waits for it: 'wpAnyU', in which a condition S on the world is held until that store (number st) has come up. The contract of vehicle.send. The contracts of vehicle.double, query. -/
import Derived.Test.YthmekfcgdfckaaaGreatDoorWn29
import Derived.Test.YthmekfcgdfckaaaGreatDoorWn0
import Derived.Deep.RegionHeld
import Derived.Test.YthmekfcgdfckaaaGreatDoorWn28
set_option maxRecDepth 1000000
set_option maxHeartbeats 0
namespace Go.Proofs.YthmekfcgdfckaaaGreatDoor
variable {w:World} {K Z:Nat→Prop} {v:Value} {n i:Nat} {rs:List Nat}
section
open Go.RowKit
attribute [local go_sem ↓] Go.wp_at_zero Go.wp_at_succ
theorem MR.one (m:Ms) (c:List Value) (h:MR w K m c): ∀v∈c,v.oneCell' =true:=by
  obtain ⟨a,n,cp,rfl,-⟩:=h;intro v hv
  simp at hv
  rcases hv with rfl|rfl|rfl|rfl|rfl|rfl|rfl<;>rfl
theorem CR.one (m:Cp) (c:List Value) (h:CR w K m c): ∀v∈c,v.oneCell' =true:=by
  obtain ⟨m,rfl,-⟩:=h;intro v hv
  simp at hv
  rcases hv with rfl|rfl|rfl|rfl|rfl<;>rfl
theorem Vs.one {α:Type} {R:α→List Value→Prop} (hR: ∀x c,R x c→∀v∈c,v.oneCell' =true): ∀{l:List α} {vs:List Value},Vs R l vs→∀v∈vs,v.oneCell' =true
  | [],vs,h,v,hv=>by have h:vs= []:=h;subst h;cases hv
  |x::l,vs,⟨c,r,e,h1,h2⟩,v,hv=>by
    rw [e] at hv
    rcases List.mem_append.1 hv with h|h
    { exact hR _ _ h1 v h }
    { exact h2.one hR v h }
theorem VOwn.netRow {F:Nat} {q:VB} {m:VA} {v:Vh} (h:VOwn w F Z q m v): ∃cur,w.heap[q.bn]?=some (.cells cur 99 (0,0))∧cur.size=m.cn * 7∧m.nn≤m.cn∧Vs (MR w (KV Z q)) v.net (cur.toList.take (m.nn * 7))∧F≤q.bn∧m.cn≤maxLen:=by
  obtain ⟨vs,⟨l0,l1⟩,l2⟩:=h.net.row;have hat:=h.net.at_;rw [hat] at l1
  rcases l1 with ⟨l1,-⟩| ⟨gg,cap,cur,l1,l3,l4,l5,l6,l7,l8⟩
  { cases l1 }
  {
  cases l1;exact⟨cur,l4,l7,l5,by rw [l8];exact l2,l3,l6⟩
  }
theorem VOwn.msgAt {F:Nat} {q:VB} {m:VA} {v:Vh} (h:VOwn w F Z q m v) {k:Nat} {x:Ms} (hk:v.net[k]?=some x): ∃a n c,(BI w a n x.ws∧Ao x.ws (KV Z q) a)∧(w.cell? ⟨q.bn,k * 7,none⟩=some (.int .i64 x.k)∧w.cell? ⟨q.bn,k * 7+1,none⟩=some (.int .i64 x.u)∧w.cell? ⟨q.bn,k * 7+2,none⟩=some (.int .i64 x.n)∧w.cell? ⟨q.bn,k * 7+3,none⟩=some (.int .i64 x.at')∧w.cell? ⟨q.bn,k * 7+4,none⟩=some (.int .i64 x.im)∧w.cell? ⟨q.bn,k * 7+5,none⟩=some (.slice a n c)∧w.cell? ⟨q.bn,k * 7+6,none⟩=some (.bool x.y)):=by
  obtain ⟨vs,-,h1,h2⟩:=h.net.isRow;obtain ⟨b,off,x,n,c,e,h3,h4,y0,y1,y2,y3,y4,y5,y6⟩:=zgd h1 h2 hk;rw [h.net.at_] at e;cases e;simp only [Nat.zero_add] at y0 y1 y2 y3 y4 y5 y6;exact⟨x,n,c,⟨h3,h4⟩,y0,y1,y2,y3,y4,y5,y6⟩
theorem split_at7 {L p c r:List Value} {k:Nat} (e:L.take (n * 7)=p++(c++r)) (hp:p.length=k * 7) (hc:c.length=7) (hL:n * 7≤L.length):L.take (k * 7)=p∧(L.drop ((k+1)* 7)).take ((n - 1 - k)* 7)=r∧r.length= (n - 1 - k)* 7:=by
  have h0:n * 7=k * 7+(7+r.length):=by
    have:=congrArg List.length e;rw [List.length_take,Nat.min_eq_left hL,List.length_append,List.length_append,hp,hc] at this;exact this
  have hl:L=p++(c++(r++L.drop (n * 7))):=by
    have:=(List.take_append_drop (n * 7) L).symm;rw [e] at this
    simpa only [List.append_assoc] using this
  have hr:r.length= (n - 1 - k)* 7:=by omega
  generalize L.drop (n * 7)=t at *;subst hl;refine⟨by rw [←hp,List.take_left], ?_,hr⟩;have e2: (k+1)* 7= (p++c).length:=by rw [List.length_append,hp,hc];omega
  rw [e2,←List.append_assoc,List.drop_left,←hr,List.take_left]
def TkAns (w:World) (F:Nat) (Z:Nat→Prop) (q:VB) (m:VA) (v:Vh) (k:Nat) (x:Ms) (e:Ending) (w' :World):Prop:=
  (∃a n c,e=.returned (.tuple #[msv x a n c,.int .i64 0])∧BI w' a n x.ws∧Ao x.ws (KV Z q) a)∧VOwn w' F Z q ⟨m.ab,m.nb,m.cb,m.sa,m.ns,m.cs,m.g,m.au,m.nu,m.cu,m.ac,m.nc,m.cc,m.an,m.nn - 1,m.cn⟩ (takeM v k)∧Below F w w'
theorem take_no (F:Nat) (Z:Nat→Prop) (q:VB) (m:VA) (v:Vh) (k:Int) (w:World) (h:VOwn w F Z q m v) (hk:isM v k=false):
    Calls Tryz.prog 127 #[.pointer (some ⟨q.B,0,none⟩),.int .i64 k] w fun e w' =>e=.returned (.tuple #[msv ms9 none 0 0,.int .i64 5])∧Below w.heap.size w w' :=by
  have hb1:Below w.heap.size w (w.alloc (.cells #[.int .i64 0,.int .i64 0,.int .i64 0,.int .i64 0,.int .i64 0,.slice none 0 0,.bool false] 99)):=bA1;have HN:=hide (fun W (hW:Below w.heap.size w W)=>zd8 F Z q m v k W (h.below hW));rw [hk] at HN;clear hk h;go_enter Tryz.func127,Tryz.ntmps127;go_wp2_with fail;refine(zae HN _ hb1).mono ?_;rintro e w1 ⟨rfl,hw1⟩;replace hw1:=hw1.symm;subst hw1;go_wp2_with fail;refine bodyPost_ret (v:=.tuple #[msv ms9 none 0 0,.int .i64 5]) (by simp [results,Tryz.results127,go_sem,msv,ms9]) rfl ?_;exact⟨rfl,hb1⟩
theorem znt (F:Nat) (Z:Nat→Prop) (q:VB) (m:VA) (v:Vh) (k:Nat) (x:Ms) (w:World) (h:VOwn w F Z q m v) (hk:v.net[k]?=some x) (hcm:m.cn≤1000000):
    Calls Tryz.prog 127 #[.pointer (some ⟨q.B,0,none⟩),.int .i64 k] w (TkAns w F Z q m v k x):=by
  have hkl:=(List.getElem?_eq_some_iff.1 hk).1;have hl:=h.net.len;have hkI: (k:Int)< (m.nn:Int):=by omega
  have hkt:isM v k=true:=by unfold isM inB;simp;omega
  have hb1:Below w.heap.size w (w.alloc (.cells #[.int .i64 0,.int .i64 0,.int .i64 0,.int .i64 0,.int .i64 0,.slice none 0 0,.bool false] 99)):=bA1;have HN:=hide (fun W (hW:Below w.heap.size w W)=>zd8 F Z q m v k W (h.below hW));rw [hkt] at HN;have H:=hide (h.addZ hb1);have HF:=hide h.lt;have HK:=hide hk;have hBB:=zak h.box;have hfB:=h.fB;have hbn:=h.net.lt.2;clear h hkt hkl hl;have b1:=hide (heap_alloc_last w (.cells #[.int .i64 0,.int .i64 0,.int .i64 0,.int .i64 0,.int .i64 0,.slice none 0 0,.bool false] 99));have hs1:w.heap.size< (w.alloc (.cells #[.int .i64 0,.int .i64 0,.int .i64 0,.int .i64 0,.int .i64 0,.slice none 0 0,.bool false] 99)).heap.size:=by simp
  obtain ⟨a,n,c,⟨bi,ao⟩,y0,y1,y2,y3,y4,y5,y6⟩:=H.out.msgAt HK.out;have x13: (w.alloc (.cells #[.int .i64 0,.int .i64 0,.int .i64 0,.int .i64 0,.int .i64 0,.slice none 0 0,.bool false] 99)).cell? ⟨q.B,13,none⟩=some (.slice m.an m.nn m.cn):=zaa H.out.box 13 _ rfl;have hma:=H.out.net.at_;rw [hma] at x13;replace hma:=hide hma;go_enter Tryz.func127,Tryz.ntmps127;go_wp2_with fail;generalize hW1:w.alloc (.cells #[.int .i64 0,.int .i64 0,.int .i64 0,.int .i64 0,.int .i64 0,.slice none 0 0,.bool false] 99)=W1 at *;clear hW1;refine(zae HN _ hb1).mono ?_;rintro e w1 ⟨rfl,hw1⟩;replace hw1:=hw1.symm;subst hw1;go_upto_region 4 with fail
  have hb2:Below W1.heap.size W1 (W1.alloc (.cells (aM x a n c) 99)):=bA1;have b2:=hide (heap_alloc_last W1 (.cells (aM x a n c) 99));replace b1:=hide (zab b1.out hb2);have H2:=hide (H.out.below hb2);replace bi:=bi.below hb2;replace x13:=(hb2.cell (zah x13)).trans x13;generalize W1.alloc (.cells (aM x a n c) 99)=W2 at *;clear y0 y1 y2 y3 y4 y5 y6 HN H;obtain ⟨cur,r1,r2,r3,r4,r5,r6⟩:=H2.out.netRow;have hnl:=H2.out.net.len;obtain ⟨p,cc,r,e1,e2,e3,e4⟩:=r4.cut MR.len HK.out;have hcc:=MR.len _ _ e3;have hkn:k<m.nn:=by omega
  obtain ⟨hp,hr,hrl⟩:=split_at7 e1 e2 hcc (by rw [Array.length_toList,r2];exact Nat.mul_le_mul_right _ r3);have HD:=hide (zra q.bn m.nn m.cn k cur W2 r1 hkn r3 r2 hcm (by rw [hr];intro u hu;exact(e4.one MR.one) u (List.mem_append_right _ hu)));have hwr:IntKind.i64.wrap ((k:Int)+1)= (k:Int)+1:=by rw [IntKind.wrap_i64];omega
  have HV:=hide e4;have HP:=hide hp;have HRr:=hide hr;have HS:=hide (And.intro r2 (And.intro r3 (And.intro r5 r6)));have HKN:=hide hkn;clear e4 hp hr r1 r2 r3 r4 r5 r6 hnl e1 e2 e3 hcc hkn;go_wp2_with fail;refine(zae HD).mono ?_;rintro e w3 ⟨rfl,cur',d1,d2,d3,d4⟩;have d3' :cur'.toList.take ((m.nn - 1)* 7)=p++r:=by rw [d3,HP.out,HRr.out]
  have hcK:Chg (fun b=>b=q.bn) W2 w3:=.grown d4 (fun b e=>by cases e;rfl);have hcZ:Chg (KV (fun b=>Z b∨(w.heap.size≤b∧b<W1.heap.size)) q) W2 w3:=hcK.mono fun b e=>kv_bn e
  have hn3:=H2.out.n3;have x13' :w3.cell? ⟨q.B,13,none⟩=some (.slice (some ⟨q.bn,0,none⟩) m.nn m.cn):=hcK.cell x13 (fun e=>hn3 e);have f13:w3.frozen? ⟨q.B,13,none⟩=false:=by rw [World.frozen?_of_block (w:=W2) (hcK.block q.B (zak H2.out.box) hn3)];exact zad H2.out.box 13
  have hlen: (takeM v k).net.length=m.nn - 1:=by
    have:=H2.out.net.len;have hk2:=HKN.out;simp only [takeM,Int.toNat_natCast,List.length_eraseIdx];rw [if_pos (by omega)];omega
  have HW:=hide (H2.out.setNet (b' :=q.bn) (n:=m.nn - 1) (c:=m.cn) (vs:=p++r) (l:=v.net.eraseIdx k) hcK (.inl rfl) ⟨by rw [List.length_append,←HP.out,List.length_take,Array.length_toList,HS.out.1,hrl];have:=HKN.out;have:=HS.out.2.1;omega,.inr ⟨q.bn,m.cn,cur',rfl,HS.out.2.2.1,d1,by have:=HS.out.2.1;omega,HS.out.2.2.2,by rw [d2];exact HS.out.1,d3'⟩⟩ (HV.out.mono (MR.chg hcZ)) (by simpa [takeM] using hlen));have bi3:BI w3 a n x.ws:=⟨bi.at_.chg hcZ ao,bi.len,bi.max⟩;have hlo:w.heap.size≠q.B:=by omega
  have hsz:=hb1.size;replace b1:=hide (hcK.blk b1.out (show¬w.heap.size=q.bn by omega));replace b2:=hide (hcK.blk b2.out (show¬W1.heap.size=q.bn by omega));have hrb:W1.heap.size≠q.B:=by omega
  obtain ⟨u0,u1,u2,u3,u4,u5,u6⟩:=cl7 b2.out;obtain ⟨z0,z1,z2,z3,z4,z5,z6⟩:=cl7 b1.out;obtain ⟨g0,g1,g2,g3,g4,g5,g6⟩:=fr7 b1.out;have HZ:Hid ((fun b=>Z b∨(w.heap.size≤b∧b<W1.heap.size)) w.heap.size):=.inr ⟨Nat.le_refl _,hs1⟩;have hBl:Below F w w3:=((hb1.mono HF.out).trans (hb2.mono (Nat.le_trans HF.out hb1.size))).trans (hcK.below (fun b e=>by rw [e];exact HS.out.2.2.1) (Nat.le_trans (Nat.le_trans HF.out hb1.size) hb2.size));clear b1 b2 hcZ d1 d2 d3 d4 d3' hlen HD hwr hb2 hbn;have HBI:=hide (And.intro bi3 ao);have HBl:=hide hBl;have hlt:F≤w3.heap.size:=Nat.le_trans HF.out hBl.size;clear bi3 ao bi hBl x13 hcK;go_wp2_with fail;refine bodyPost_ret (v:=.tuple #[msv x a n c,.int .i64 0]) (by simp [results,Tryz.results127,go_sem,msv,z0,z1,z2,z3,z4,z5,z6]) rfl ?_;have hW4:VOwn (puts (w3.setCell ⟨q.B,13,none⟩ (.slice (some ⟨q.bn,0,none⟩) (m.nn - 1) m.cn)) w.heap.size 0 [.int .i64 x.k,.int .i64 x.u,.int .i64 x.n,.int .i64 x.at',.int .i64 x.im,.slice a n c,.bool x.y]) F Z q ⟨m.ab,m.nb,m.cb,m.sa,m.ns,m.cs,m.g,m.au,m.nu,m.cu,m.ac,m.nc,m.cc,some ⟨q.bn,0,none⟩,m.nn - 1,m.cn⟩ (takeM v k):=(HW.out.putZ HZ.out hlo _).lessZ (fun b e=>.inl e);have hc5:Chg (KV (fun b=>Z b∨(w.heap.size≤b∧b<W1.heap.size)) q) w3 (puts (w3.setCell ⟨q.B,13,none⟩ (.slice (some ⟨q.bn,0,none⟩) (m.nn - 1) m.cn)) w.heap.size 0 [.int .i64 x.k,.int .i64 x.u,.int .i64 x.n,.int .i64 x.at',.int .i64 x.im,.slice a n c,.bool x.y]):=((Chg.refl (KV (fun b=>Z b∨(w.heap.size≤b∧b<W1.heap.size)) q) w3).set (kv_B rfl) _).trans ((zbn _ _ _ _).mono fun b e=>.inl (by rw [e];exact HZ.out));have hb5:Below F w (puts (w3.setCell ⟨q.B,13,none⟩ (.slice (some ⟨q.bn,0,none⟩) (m.nn - 1) m.cn)) w.heap.size 0 [.int .i64 x.k,.int .i64 x.u,.int .i64 x.n,.int .i64 x.at',.int .i64 x.im,.slice a n c,.bool x.y]):=(HBl.out.setCell (p:=⟨q.B,13,none⟩) hfB _).trans (zbd _ HF.out (by simpa [World.setCell] using hlt));have hfin:TkAns w F Z q m v k x (.returned (.tuple #[msv x a n c,.int .i64 0])) (puts (w3.setCell ⟨q.B,13,none⟩ (.slice (some ⟨q.bn,0,none⟩) (m.nn - 1) m.cn)) w.heap.size 0 [.int .i64 x.k,.int .i64 x.u,.int .i64 x.n,.int .i64 x.at',.int .i64 x.im,.slice a n c,.bool x.y]):=
    ⟨⟨a,n,c,rfl,⟨HBI.out.1.at_.chg hc5 HBI.out.2,HBI.out.1.len,HBI.out.1.max⟩,HBI.out.2.mono fun b e=>by rcases e with e|e;exact .inl (.inl e);exact .inr e⟩,by rw [hma.out];exact hW4,hb5⟩
  exact hfin
end
section
open Go.RowKit
section
variable {P:Program} {ops:Array Oper} {Q:Exit→Act→World→Prop} {md:Region.Mode} {S:World→Prop} {st:Nat}
def zcm (P:Program) (md:Region.Mode) (ops:Array Oper) (Q:Exit→Act→World→Prop) (S:World→Prop) (st:Nat):Nat→Array Bool→Act→World→Prop
  |0,l,a,w=>Region.ready md ops l= []∧Q .normal a w
  |n+1,l,a,w=>(Region.ready md ops l= []→Q .normal a w)∧∀i∈Region.ready md ops l,wpOp P ops Q i (fun a' w' =>((l.setIfInBounds i true).getD st true=false→S w')∧zcm P md ops Q S st n (l.setIfInBounds i true) a' w') a w
theorem zkp: ∀(n:Nat) (l:Array Bool) (a:Act) (w:World),zcm P md ops Q S st n l a w→wpAny P md ops Q n l a w
  |0,_,_,_,h=>h
  |n+1,_,_,_,h=>⟨h.1,fun i hi=>wpOp_mono (fun a' w' h' =>zkp n _ a' w' h'.2) (h.2 i hi)⟩
theorem zhh {S' :World→Prop} {oi:Oper} (hi:ops[i]?=some oi) (hsel: ∀(j:Nat) (o:Oper) cs b,ops[j]?=some o→o.op≠.select cs b)
    (hQ: ∀c a w,Q (.panic c) (a.put oi.dst v) w→Q (.panic c) a w) (hne:st≠i)
    (hS' : (∀w,S' w)∨((∀w,S w→S' w)∧∀l:Array Bool,i∈Region.ready md ops l→l.getD st true=false→st∉Region.ready md ops l)):
    ∀(n:Nat) (l:Array Bool) (a:Act) (w:World),
      (∀j oj,ops[j]?=some oj→j≠i→l.getD j true=false→(∀e∈oj.after,Region.binds md e=true→e.on≠i)→oi.apart ops oj=true)→
      i∈Region.ready md ops l→YieldsIf P ops S' oi v a→((∀w,S' w)∨l.getD st true=false)→(l.getD st true=false→S w)→
      zcm P md ops Q S st n (l.setIfInBounds i true) (a.put oi.dst v) w→zcm P md ops Q S st (n+1) l a w:=by
  have key: ∀(l:Array Bool) (w:World),((∀w,S' w)∨l.getD st true=false)→(l.getD st true=false→S w)→S' w:=fun l w h1 h2=>by
    rcases h1 with h1|h1
    { exact h1 w }
    {
    rcases hS' with h| ⟨h,_⟩
    { exact h w }
    { exact h w (h2 h1) }
    }
  intro n
  induction n with
  |zero=>
    intro l a w _ hr hy h1 hS H;refine⟨fun h=>(by rw [h] at hr;cases hr),fun j hj=> ?_⟩
    by_cases hji:j=i
    {
    subst hji;exact hy.wpOp hi (key l w h1 hS) ⟨fun h=>hS (by rwa [getD_set_ne true (Ne.symm hne)] at h),H⟩
    }
    {
    have:=ready_mono hj hji;rw [H.1] at this;cases this
    }
  |succ n ih=>
    intro l a w hfree hr hy h1 hS H;refine⟨fun h=>(by rw [h] at hr;cases hr),fun j hj=> ?_⟩
    by_cases hji:j=i
    {
    subst hji;exact hy.wpOp hi (key l w h1 hS) ⟨fun h=>hS (by rwa [getD_set_ne true (Ne.symm hne)] at h),H⟩
    }
    {
    have g1:=H.2 j (ready_mono hj hji);obtain ⟨hjun,oj,hoj,hall⟩:=mem_ready.1 hj;have hnot: ∀e∈oj.after,Region.binds md e=true→e.on≠i:=fun e he hb heq=>by
      have q1:=hall e he hb;have q0:=(mem_ready.1 hr).1;rw [heq] at q1
      rcases Nat.lt_or_ge i l.size with h' |h'
      { simp [h'] at q0 q1;rw [q0] at q1;cases q1 }
      { simp [Array.getElem?_eq_none h'] at q1 }
    have g2:=wpOp_putIf hoj (hfree j oj hoj hji hjun hnot) (fun cs b=>hsel i oi cs b hi) (fun cs b=>hsel j oj cs b hoj) hQ hy g1;have hfree' : ∀k ok,ops[k]?=some ok→k≠i→(l.setIfInBounds j true).getD k true=false→
        (∀e∈ok.after,Region.binds md e=true→e.on≠i)→oi.apart ops ok=true:=fun k ok hk hki hun hno=>by
      refine hfree k ok hk hki ?_ hno
      by_cases hjk:j=k
      { subst hjk;exact hjun }
      { rw [getD_set_ne true hjk] at hun;exact hun }
    have same: ((l.setIfInBounds i true).setIfInBounds j true).getD st true= (l.setIfInBounds j true).getD st true:=by
      rw [Array.setIfInBounds_comm _ _ (Ne.symm hji),getD_set_ne true (Ne.symm hne)]
    have h1' : (∀w,S' w)∨(l.setIfInBounds j true).getD st true=false:=by
      rcases h1 with h1|h1
      { exact .inl h1 }
      {
      rcases hS' with h| ⟨_,h⟩
      { exact .inl h }
      {
      right
      have hjs:j≠st:=fun e=>h l hr h1 (e▸hj)
      rw [getD_set_ne true hjs];exact h1
      }
      }
    refine wpOp_mono (fun a' w' h3=>⟨fun hl=>h3.2.1 (same▸hl),ih (l.setIfInBounds j true) a' w' hfree' (ready_mono hr (Ne.symm hji)) h3.1 h1' (fun hl=>h3.2.1 (same▸hl)) ?_⟩) g2;rw [Array.setIfInBounds_comm _ _ hji];exact h3.2.2
    }
theorem zay {oi:Oper} {l:Array Bool} {a:Act} (hi:ops[i]?=some oi)
    (hs: (Region.noSelect ops&&(Region.free md ops l i&&((Region.ready md ops l).contains i&&decide (st≠i))))=true)
    (hQ: ∀c a w,Q (.panic c) (a.put oi.dst v) w→Q (.panic c) a w) (hy:YieldsIf P ops (fun _=>True) oi v a) (hS:l.getD st true=false→S w)
    (h:zcm P md ops Q S st n (l.setIfInBounds i true) (a.put oi.dst v) w):zcm P md ops Q S st (n+1) l a w:=by
  simp only [Bool.and_eq_true,decide_eq_true_eq] at hs;exact zhh (S' :=fun _=>True) hi (Region.noSelect_spec hs.1) hQ hs.2.2.2 (.inl fun _=>trivial) n l a w (Region.free_spec hi hs.2.1) (by simpa using hs.2.2.1) hy (.inl fun _=>trivial) hS h
theorem Utk {oi:Oper} {l:Array Bool} {a:Act} (h:zcm P md ops Q S st n (l.setIfInBounds i true) (a.put oi.dst v) w) (hi:ops[i]?=some oi:=by(simp only [List.getElem?_toArray,List.getElem?_cons_zero,List.getElem?_cons_succ];rfl))
    (hs: (Region.noSelect ops&&(Region.free md ops l i&&((Region.ready md ops l).contains i&&decide (st≠i))))=true:=by kernel_rfl)
    (hQ: ∀c a w,Q (.panic c) (a.put oi.dst v) w→Q (.panic c) a w:=by exact fun _ _ _ h=>h) (hw:Region.wanted oi (yielded ops a.tmps)=true:=by rfl) (hy: ∀w,True→(execOp a.eval oi).run P w=.ok (.value v) w:=by(intro w hSw;(try dsimp only at hSw);go_simp;(try with_reducible rfl)))
    (hS:l.getD st true=false→S w:=by first|exact fun h=>absurd h (by decide)|exact fun _=>by assumption):zcm P md ops Q S st (n+1) l a w:=zay hi hs hQ (.inl ⟨hw,hy⟩) hS h
theorem zge {oi os:Oper} {l:Array Bool} {a:Act} (hi:ops[i]?=some oi) (ho:ops[st]?=some os)
    (hs: (Region.noSelect ops&&(Region.free md ops l i&&((Region.ready md ops l).contains i&&(decide (st≠i)&&(!l.getD st true&&os.after.any fun e=>Region.binds md e&&e.on==i)))))=true)
    (hQ: ∀c a w,Q (.panic c) (a.put oi.dst v) w→Q (.panic c) a w) (hy:YieldsIf P ops S oi v a) (hS:l.getD st true=false→S w)
    (h:zcm P md ops Q S st n (l.setIfInBounds i true) (a.put oi.dst v) w):zcm P md ops Q S st (n+1) l a w:=by
  simp only [Bool.and_eq_true,decide_eq_true_eq,Bool.not_eq_true'] at hs;obtain ⟨s1,s2,s3,s4,s5,s6⟩:=hs;obtain ⟨e,he,hb⟩:=List.any_eq_true.1 (by simpa using s6: (os.after.toList.any fun e=>Region.binds md e&&e.on==i)=true);simp only [Bool.and_eq_true,beq_iff_eq] at hb;refine zhh (S' :=S) hi (Region.noSelect_spec s1) hQ s4 (.inr ⟨fun _ h=>h,fun l' hr' _ hst=> ?_⟩) n l a w (Region.free_spec hi s2) (by simpa using s3) hy (.inr s5) hS h;obtain ⟨_,o',ho',hall⟩:=mem_ready.1 hst;rw [ho] at ho';cases ho';have q1:=hall e (by simpa using he) hb.1;have q0:=(mem_ready.1 hr').1;rw [hb.2] at q1
  rcases Nat.lt_or_ge i l'.size with h' |h'
  { simp [h'] at q0 q1;rw [q0] at q1;cases q1 }
  { simp [Array.getElem?_eq_none h'] at q1 }
def AllU (P:Program) (md:Region.Mode) (ops:Array Oper) (Q:Exit→Act→World→Prop) (S:World→Prop) (st:Nat) (n:Nat) (l:Array Bool) (a:Act) (w:World) (rs:List Nat):Prop:=
  ∀i∈rs,wpOp P ops Q i (fun a' w' =>((l.setIfInBounds i true).getD st true=false→S w')∧zcm P md ops Q S st n (l.setIfInBounds i true) a' w') a w
theorem U_nil {l:Array Bool} {a:Act} :AllU P md ops Q S st n l a w []:=fun _ h=>by cases h
theorem zgm {l:Array Bool} {a:Act} {o:Oper} (ho:ops[i]?=some o)
    (h: ∀K' :Act→World→Prop,Shut (∀a w,((l.setIfInBounds i true).getD st true=false→S w)→(((l.setIfInBounds i true).getD st true=false→S w)→zcm P md ops Q S st n (l.setIfInBounds i true) a w)→K' a w)→if Region.wanted o (yielded ops a.tmps)=true then Oper.wp P o a w K' Q else K' (a.put o.dst undef) w)
    (hs:AllU P md ops Q S st n l a w rs):AllU P md ops Q S st n l a w (i::rs):=fun j hj=>by
  rcases List.mem_cons.1 hj with rfl|hj
  { exact wpOp_step ho (fun K' hK=>h K' (fun a w hS hW=>hK a w ⟨hS,hW hS⟩)) }
  { exact hs j hj }
theorem ze5 {l:Array Bool} {a:Act} (hr:Region.ready md ops l=rs) (hne:rs≠ []) (h:AllU P md ops Q S st n l a w rs):zcm P md ops Q S st (n+1) l a w:=
  ⟨fun h0=>absurd (hr▸h0) hne,hr▸h⟩
theorem U_done {l:Array Bool} {a:Act} {w:World} (hr:Region.ready md ops l= []) (h:Q .normal a w): ∀n,zcm P md ops Q S st n l a w
  |0=>⟨hr,h⟩
  |_+1=>⟨fun _=>h,by rw [hr];simp⟩
theorem zlm {id:Nat} {a:Act} (st:Nat) (S:World→Prop) (hm:P.follows .mixedOrders=true) (hS:S w.drew)
    (h: ((Array.replicate ops.size false).getD st true=false→S w.drew)→zcm P .any ops Q S st ops.size (Array.replicate ops.size false) a w.drew): (Code.region id ops true).wp P Q a w:=
  wp_region_any hm (zkp _ _ _ _ (h fun _=>hS))
end
end
section
open Go.RowKit
attribute [local go_sem ↓] Go.wp_at_zero Go.wp_at_succ
theorem zpz (g n cap c:Nat) (a:Option Addr) (ty:TypeId) (w:World) (h:n≤cap):
    (Builtin.append_ #[38,38] ty #[.slice (some ⟨g,0,none⟩) n cap,.slice a 0 c]).run Tryz.prog w=.ok (.slice (some ⟨g,0,none⟩) n cap) w:=by
  obtain ⟨i0,hi0,hz0,hz1,hz2⟩:=info_parts infoM;have hl: ∀(x:Addr),(loadCells x 0).run Tryz.prog w=.ok #[] w:=fun x=>by simpa using run_loadCells_list (P:=Tryz.prog) w x [] (by simp)
  cases a<;>simp [Builtin.append_,run_underlying Tryz.underlying38,Builtin.lenOf,Builtin.firstCells,sizeOf,typeInfo,hi0,storeCells,hl,h]
def SdAns (w:World) (F:Nat) (Z:Nat→Prop) (B:Nat) (v:Vh) (l:List Ms) (w' :World):Prop:=
  (∃q m,q.B=B∧VOwn w' F Z q m ⟨v.ss,v.sg,v.g,v.us,v.cs,sendS v.net l,v.now⟩)∧Below F w w'
theorem zgs (F:Nat) (Z:Nat→Prop) (q:VB) (m:VA) (v:Vh) (a:Option Addr) (n c:Nat) (l:List Ms) (mvs:List Value) (w:World) (h:VOwn w F Z q m v) (hn:m.nn≤24) (hr:IsRow w a mvs) (hv:Vs (MR w (KV Z q)) l mvs) (hl:l.length=n) (hc:n≤c):
    Calls Tryz.prog 193 #[.pointer (some ⟨q.B,0,none⟩),.slice a n c] w fun e w' =>e=.returned (.tuple #[])∧SdAns w F Z q.B v l w' :=by
  have x13:=zaa h.box 13 (.slice m.an m.nn m.cn) rfl;have hat:=h.net.at_;rw [hat] at x13;have f13:w.frozen? ⟨q.B,13,none⟩=false:=zad h.box 13;have hnl:=h.net.len;have i1:IntKind.i64.wrap (24 - (m.nn:Int))=24 - (m.nn:Int):=by rw [IntKind.wrap_i64];omega
  obtain ⟨cur,r1,r2,r3,r4,r5,r6⟩:=h.netRow;obtain ⟨k,hk⟩: ∃k:Nat,k=min (24 - m.nn) n:=⟨_,rfl⟩;have hmin:min (24 - (m.nn:Int)) (n:Int)= (k:Int):=by omega
  have i2: (k:Int)≤(c:Int):=by omega
  have HSd:Hid (sendS v.net l=v.net++l.take k):=by
    unfold sendS;rw [hnl]
    show _=_
    congr 1
    by_cases hx:24 - m.nn≤n
    { rw [hk,Nat.min_eq_left hx] }
    { rw [hk,Nat.min_eq_right (by omega),List.take_of_length_le (by omega),List.take_of_length_le (by omega)] }
  have H:=hide h;have HA:Hid (∃v' w',(Builtin.append_ #[38,38] 38 #[.slice (some ⟨q.bn,0,none⟩) m.nn m.cn,.slice a k c]).run Tryz.prog w.drew=.ok v' w' ∧w'.ownsRow F 99 7 v' (m.nn+k) (cur.toList.take (m.nn * 7)++mvs.take (k * 7))∧w.drew.grownBy w' (some q.bn)∧(∃b' c',v' =.slice (some ⟨b',0,none⟩) (m.nn+k) c' ∧(b' =q.bn∨w.heap.size≤b'))):=by
    have ho:w.drew.ownsRow F 99 7 (.slice (some ⟨q.bn,0,none⟩) m.nn m.cn) m.nn (cur.toList.take (m.nn * 7)):=⟨by rw [List.length_take,Array.length_toList,r2];exact Nat.min_eq_left (Nat.mul_le_mul_right _ r3),.inr ⟨q.bn,m.cn,cur,rfl,r5,r1,r3,r6,r2,rfl⟩⟩
    by_cases hk0:k=0
    {
    subst hk0;exact⟨_,_,zpz _ _ _ _ a _ _ r3,by simpa using ho,⟨rfl,rfl,rfl,Nat.le_refl _,fun _ _ _=>rfl⟩,q.bn,m.cn,by simp,.inl rfl⟩
    }
    {
    obtain ⟨irr,hir,rz0,rz1,rz2⟩:=info_parts infoM;have hmv:=hv.len MR.len
    rcases hr with hr| ⟨ba,oa,rfl,hrc⟩
    { rw [hr] at hmv;simp at hmv;omega }
    obtain ⟨v',w',e1,e2,e3,e4,e5⟩:=run_append_own_at (P:=Tryz.prog) w.drew F 38 38 99 irr _ 7 72 Tryz.underlying38 hir rz0 rz1 rz2 rfl (by omega) (.slice (some ⟨q.bn,0,none⟩) m.nn m.cn) m.nn _ ho ⟨ba,oa,none⟩ k c (mvs.take (k * 7)) (by rw [List.length_take];omega) (fun j u hu=>by rw [zc2];exact hrc j u (by rw [List.getElem?_take] at hu;split at hu;exact hu;cases hu)) (fun u hu=>(hv.one MR.one) u (List.mem_of_mem_take hu)) (by unfold maxLen;omega) (by omega) H.out.lt;refine⟨v',w',e1,e2,e3, ?_⟩;obtain ⟨-,⟨e6,-⟩| ⟨g',c',cur',e6,-⟩⟩:=e2
    { exact absurd (e4.1 e6).2 hk0 }
    {
    subst e6;refine⟨g',c',rfl, ?_⟩
    rcases e5 with e5|e5
    { exact .inl (Option.some.inj e5) }
    { exact .inr (Nat.le_of_eq (Option.some.inj e5).symm) }
    }
    }
  obtain ⟨v',w4,ha,ho4,hg4,b',c',rfl,hb'⟩:=HA.out;have HO4:=hide ho4;have HG4:=hide hg4;have HB4:=hide hb';have HV:=hide hv;have HR4:=hide r4;have HLt:=hide h.lt;have hn3:=h.n3;have hBl:=zak h.box;have x13' :w4.cell? ⟨q.B,13,none⟩=some (.slice (some ⟨q.bn,0,none⟩) m.nn m.cn):=(Chg.grown (K:=fun b=>b=q.bn) hg4 (fun b e=>by cases e;rfl)).cell (w:=w.drew) x13 hn3;have f13' :w4.frozen? ⟨q.B,13,none⟩=false:=by rw [World.frozen?_of_block (w:=w.drew) (hg4.block q.B hBl (fun e=>hn3 (Option.some.inj e)))];exact f13
  have HL:=hide hl;have HNL:=hide hnl;have HK:=hide hk;clear ho4 hg4 hb' hv r1 r2 r3 r4 r5 r6 h hr HA hl hnl hk;go_enter Tryz.func193,Tryz.ntmps193;go_upto_region 1 with fail
  have hSS:w.drew.cell? ⟨q.B,13,none⟩=some (.slice (some ⟨q.bn,0,none⟩) m.nn m.cn):=x13;refine zlm 14 (fun W' =>W'.cell? ⟨q.B,13,none⟩=some (.slice (some ⟨q.bn,0,none⟩) m.nn m.cn)) (by kernel_rfl) hSS ?_;intro _;refine Utk (i:=0) ?_
  try simp only [sq]
  refine Utk (i:=1) ?_
  try simp only [sq]
  refine Utk (i:=2) ?_
  try simp only [sq]
  refine Utk (i:=3) ?_
  try simp only [sq]
  refine zge (i:=4) (v:= ?_) (by simp only [List.getElem?_toArray,List.getElem?_cons_zero,List.getElem?_cons_succ];rfl) (by simp only [List.getElem?_toArray,List.getElem?_cons_zero,List.getElem?_cons_succ];rfl) (by kernel_rfl) (by exact fun _ _ _ h=>h) (Or.inl ⟨by rfl, ?_⟩) (by first|exact fun _=>hSS|exact fun h=>absurd h (by decide)) ?_;rotate_left
  {
  intro w hSw
  try dsimp only at hSw
  go_simp
  try with_reducible rfl
  }
  try simp only [sq]
  refine Utk (i:=5) ?_
  try simp only [sq]
  refine Utk (i:=6) ?_
  try simp only [sq]
  refine Utk (i:=7) ?_
  try simp only [sq]
  refine Utk (i:=8) ?_
  try simp only [sq]
  refine Utk (i:=9) ?_
  try simp only [sq]
  refine Utk (i:=10) ?_
  try simp only [sq]
  refine ze5 (rs:= [11]) (by kernel_rfl) (by simp) ?_;refine(zgm (by rfl) (fun K hK=> ?_) U_nil);refine Lib.wp_append_run _ (.tmp 15) (.tmp 21) _ _ rfl _ _ rfl rfl _ _ ha ?_;refine hK.out _ _ (fun _=>x13') (fun _=> ?_);clear hK K
  try simp only [sq]
  replace hSS:=x13';refine Utk (i:=12) ?_
  try simp only [sq]
  refine Utk (i:=13) ?_
  try simp only [sq]
  refine ze5 (rs:= [14]) (by kernel_rfl) (by simp) ?_;refine(zgm (by rfl) (fun K hK=> ?_) U_nil);go_simp;refine hK.out _ _ (fun h=>absurd h (by decide)) (fun _=> ?_);clear hK K
  try simp only [sq]
  refine U_done (by kernel_rfl) ?_ _;have hcK:Chg (fun b=>b=q.bn) w w4:=⟨HG4.out.os,HG4.out.tape,HG4.out.output,HG4.out.size,fun k hk hn=>HG4.out.block k hk (fun e=>hn (Option.some.inj e))⟩;have HW:=hide (H.out.setNet (b' :=b') (n:=m.nn+k) (c:=c') (vs:=cur.toList.take (m.nn * 7)++mvs.take (k * 7)) (l:=v.net++l.take k) hcK HB4.out HO4.out (by
    have hK2: ∀b,KV Z ⟨q.B,q.bu,q.bc,b'⟩ b→KV Z q b∨w.heap.size≤b:=fun b e=>kv_net HB4.out e
    have hC2:Chg (fun b=>KV Z q b∨w.heap.size≤b) w w4:=hcK.mono fun b e=>.inl (kv_bn e)
    have g1:=((HR4.out.app (HV.out.take MR.len k)).mono (MR.off (K' :=fun b=>KV Z q b∨w.heap.size≤b) fun b e=>e)).mono (MR.chg hC2);exact g1.mono (MR.off fun b e=>.inl (hK2 b e))) (by rw [List.length_append,HNL.out,List.length_take,HL.out];have:=HK.out;omega))
  have hb4:Below F w w4:=hcK.below (fun b e=>by rw [e];exact H.out.net.lt.1) HLt.out;have hb5:Below F w (w4.setCell ⟨q.B,13,none⟩ (.slice (some ⟨b',0,none⟩) (m.nn+k) c')):=hb4.setCell H.out.fB _;go_wp2_with fail
  first|go_end0|refine bodyPost_ret (results_none rfl _ _ _) rfl ?_
  exact⟨rfl,⟨⟨q.B,q.bu,q.bc,b'⟩,_,rfl,by rw [HSd.out];exact HW.out⟩,hb5⟩
end
section
open Go.RowKit
attribute [local go_sem ↓] Go.wp_at_zero Go.wp_at_succ
theorem vs_one {α:Type} {R:α→List Value→Prop} {x:α} {c:List Value} (h:R x c):Vs R [x] c:=⟨c, [],by simp,h,rfl⟩
theorem zif {w1 w' :World} {F B:Nat} {v:Vh} {l:List Ms} {r:Vh×Int} (hr:r= (⟨v.ss,v.sg,v.g,v.us,v.cs,sendS v.net l,v.now⟩,0)) (h:SdAns w1 F Z B v l w') (hb:Below F w w1):HV w F Z B r (.returned (.int .i64 0)) w' :=by
  subst hr;obtain ⟨⟨q,m,e,h1⟩,h2⟩:=h;exact⟨rfl,hb.trans h2,fun _=>⟨q,m,e,h1⟩⟩
theorem zq4 (F:Nat) (Z:Nat→Prop) (q:VB) (m:VA) (v:Vh) (k:Int) (w:World) (h:VOwn w F Z q m v) (hn:m.nn≤24) (hs: ∀x∈v.net,x.ws.length≤1000000):
    Calls Tryz.prog 128 #[.pointer (some ⟨q.B,0,none⟩),.int .i64 k] w (HV w F Z q.B (dblS v k)):=by
  have HN:=hide (zd8 F Z q m v k w h);have hnl:=h.net.len;cases hk:isM v k
  {
  have HE:Hid (dblS v k= (vh0,5)):=by unfold dblS;rw [if_pos hk];exact rfl
  rw [hk] at HN;clear hk h hs hnl;go_enter Tryz.func128,Tryz.ntmps128;go_wp2_with fail;refine(zae HN).mono ?_;rintro e w1 ⟨rfl,hw1⟩;replace hw1:=hw1.symm;subst hw1;go_wp2_with fail;go_ret;exact zbs (by rw [HE.out]) (by decide) (Below.refl _ _)
  }
  rw [hk] at HN;have x13:=zaa h.box 13 (.slice m.an m.nn m.cn) rfl;rw [h.net.at_] at x13
  by_cases hf:m.nn=24
  {
  have HE:Hid (dblS v k= (vh0,8)):=by unfold dblS;rw [if_neg (by rw [hk];decide),if_pos (by rw [hnl];exact hf)];exact rfl
  have d: ((m.nn:Int)==24)=true:=by simp;omega
  clear hk h hs hnl hf;go_enter Tryz.func128,Tryz.ntmps128;go_wp2_with fail;refine(zae HN).mono ?_;rintro e w1 ⟨rfl,hw1⟩;replace hw1:=hw1.symm;subst hw1;go_wp2_with fail;go_ret;exact zbs (by rw [HE.out]) (by decide) (Below.refl _ _)
  }
  have d: ((m.nn:Int)==24)=false:=by simp;omega
  obtain ⟨j,rfl⟩: ∃j:Nat,k= (j:Int):=⟨k.toNat,by unfold isM inB at hk;simp at hk;omega⟩;have hj:j<v.net.length:=by unfold isM inB at hk;simp at hk;omega
  have hjI: (j:Int)< (m.nn:Int):=by omega
  have hku:v.net[j]?=some v.net[j]:=List.getElem?_eq_getElem hj;have HR:Hid (dblS v j= (⟨v.ss,v.sg,v.g,v.us,v.cs,sendS v.net [v.net[j]],v.now⟩,0)):=by
    unfold dblS sendS;rw [if_neg (by rw [hk];decide),if_neg (by omega)];simp only [Int.toNat_natCast];rw [show v.net.getD j ms9=v.net[j] by simp [hj],List.take_of_length_le (by simp;omega)];exact rfl
  obtain ⟨a,n,c,⟨bi,ao⟩,y0,y1,y2,y3,y4,y5,y6⟩:=h.msgAt hku;have HT:=hide (zf0 v.net[j] a n c w bi (by rw [←bi.len];exact hs _ (List.getElem_mem hj)));unfold msv at HT;have H:=hide h;have hlt:=h.lt;clear hk h hs hnl hf hku ao bi;generalize v.net[j]=x at *;clear hj;go_enter Tryz.func128,Tryz.ntmps128;go_wp2_with fail;refine(zae HN).mono ?_;rintro e w1 ⟨rfl,hw1⟩;replace hw1:=hw1.symm;subst hw1;go_wp2_with fail;refine(zae HT).mono ?_;rintro e w1 ⟨⟨g,hg,rfl⟩,hb⟩;have hb2:Below w.heap.size w (w1.alloc (.cells #[.int .i64 x.k,.int .i64 x.u,.int .i64 x.n,.int .i64 x.at',.int .i64 x.im,.slice (some ⟨g,0,none⟩) n n,.bool x.y] 99)):=hb.alloc hb.size _;have hba:Below w1.heap.size w1 (w1.alloc (.cells #[.int .i64 x.k,.int .i64 x.u,.int .i64 x.n,.int .i64 x.at',.int .i64 x.im,.slice (some ⟨g,0,none⟩) n n,.bool x.y] 99)):=bA1;have hrow:IsRow (w1.alloc (.cells #[.int .i64 x.k,.int .i64 x.u,.int .i64 x.n,.int .i64 x.at',.int .i64 x.im,.slice (some ⟨g,0,none⟩) n n,.bool x.y] 99)) (some ⟨w1.heap.size,0,none⟩) [.int .i64 x.k,.int .i64 x.u,.int .i64 x.n,.int .i64 x.at',.int .i64 x.im,.slice (some ⟨g,0,none⟩) n n,.bool x.y]:=zcq (heap_alloc_last w1 (.cells #[.int .i64 x.k,.int .i64 x.u,.int .i64 x.n,.int .i64 x.at',.int .i64 x.im,.slice (some ⟨g,0,none⟩) n n,.bool x.y] 99));have hmr:MR (w1.alloc (.cells #[.int .i64 x.k,.int .i64 x.u,.int .i64 x.n,.int .i64 x.at',.int .i64 x.im,.slice (some ⟨g,0,none⟩) n n,.bool x.y] 99)) (KV Z q) x [.int .i64 x.k,.int .i64 x.u,.int .i64 x.n,.int .i64 x.at',.int .i64 x.im,.slice (some ⟨g,0,none⟩) n n,.bool x.y]:=⟨some ⟨g,0,none⟩,n,n,rfl,hg.2.2.below hba,.at_ (fun e=>by have:=H.out.kv g e;have:=hg.1;omega)⟩;have HS:=hide (zgs F Z q m v (some ⟨w1.heap.size,0,none⟩) 1 1 [x] _ _ (H.out.below hb2) hn hrow (vs_one hmr) rfl (Nat.le_refl _));clear hrow hmr hba;go_wp2_with fail;refine(zae HS).mono ?_;rintro e w4 ⟨rfl,hs4⟩;go_wp2_with fail;go_ret;exact zif HR.out hs4 (hb2.mono hlt)
theorem query_any (F:Nat) (Z:Nat→Prop) (q:VB) (m:VA) (v:Vh) (k:Int) (w:World) (h:VOwn w F Z q m v) (hn:m.nn≤24) (hu:unsE v.us v.g.vo.length=0):
    Calls Tryz.prog 125 #[.pointer (some ⟨q.B,0,none⟩),.int .i64 k] w (HV w F Z q.B (qryS v k)):=by
  have HN:=hide (zf7 F Z q m v k w h);cases hk:isU v k
  {
  have HE:Hid (qryS v k= (vh0,5)):=by unfold qryS;rw [if_pos hk];exact rfl
  rw [hk] at HN;clear hk h hu;go_enter Tryz.func125,Tryz.ntmps125;go_wp2_with fail;refine(zae HN).mono ?_;rintro e w1 ⟨rfl,hw1⟩;replace hw1:=hw1.symm;subst hw1;go_wp2_with fail;go_ret;exact zbs (by rw [HE.out]) (by decide) (Below.refl _ _)
  }
  rw [hk] at HN;obtain ⟨j,rfl⟩: ∃j:Nat,k= (j:Int):=⟨k.toNat,by unfold isU inB at hk;simp at hk;omega⟩;have hj:j<v.us.length:=by unfold isU inB at hk;simp at hk;omega
  have hnl:=h.us.len;have hjI: (j:Int)< (m.nu:Int):=by omega
  have hku:v.us[j]?=some v.us[j]:=List.getElem?_eq_getElem hj;have hun:=zj6 hu hku;have hgd:v.us.getD j un9=v.us[j]:=by simp [hj]
  have x11:=zaa h.box 11 (.slice m.au m.nu m.cu) rfl;rw [h.us.at_] at x11;obtain ⟨x,nx,cx,q0,y0,y1,y2,y3,y4⟩:=h.unitAt hku;cases hup:v.us[j].up
  {
  have HE:Hid (qryS v j= (vh0,7)):=by unfold qryS;rw [if_neg (by rw [hk];decide)];simp only [Int.toNat_natCast];rw [hgd,if_pos hup];exact rfl
  rw [hup] at y2;clear hk h hu hnl hun hgd hku q0 hup;go_enter Tryz.func125,Tryz.ntmps125;go_wp2_with fail;refine(zae HN).mono ?_;rintro e w1 ⟨rfl,hw1⟩;replace hw1:=hw1.symm;subst hw1;go_wp2_with fail;go_ret;exact zbs (by rw [HE.out]) (by decide) (Below.refl _ _)
  }
  have HC:=hide (zm7 v.us[j] x nx cx w q0);have HRd:Hid (zer v.us[j]= (stOf v.us[j].ws,0)):=by unfold zer;rw [if_neg (by simpa using hun)];exact rfl
  rw [HRd.out] at HC;have HQ:Hid ((inB (stOf v.us[j].ws).rdy 1 8=false→qryS v j= (vh0,12))∧(inB (stOf v.us[j].ws).rdy 1 8=true→qryS v j= (⟨v.ss,v.sg,v.g,v.us,v.cs,sendS v.net [⟨7,j,(stOf v.us[j].ws).rdy,0,0, [],false⟩],v.now⟩,0))):=by
    refine⟨fun hz=> ?_,fun hz=> ?_⟩
    { unfold qryS;rw [if_neg (by rw [hk];decide)];simp only [Int.toNat_natCast];rw [hgd,if_neg (by rw [hup];decide),if_pos hz] }
    { unfold qryS;rw [if_neg (by rw [hk];decide)];simp only [Int.toNat_natCast];rw [hgd,if_neg (by rw [hup];decide),if_neg (by rw [hz];decide)] }
  rw [hup] at y2;unfold usv unv at HC;rw [hup] at HC;have H:=hide h;have hlt:=h.lt;clear hk h hu hnl hun hgd hku q0 hup HRd;generalize stOf v.us[j].ws=s at *;generalize v.us[j]=u at *;clear hj;go_enter Tryz.func125,Tryz.ntmps125;go_wp2_with fail;refine(zae HN).mono ?_;rintro e w1 ⟨rfl,hw1⟩;replace hw1:=hw1.symm;subst hw1;go_wp2_with fail;refine(zae HC).mono ?_;rintro e w1 ⟨rfl,hb⟩;have hb2:Below w.heap.size w (w1.alloc (.cells #[.int .i64 s.slot,.int .i64 s.by',.int .i64 s.rdy] 84)):=hb.alloc hb.size _;have bs:=hide (heap_alloc_last w1 (.cells #[.int .i64 s.slot,.int .i64 s.by',.int .i64 s.rdy] 84));have s2:=zaa bs.out 2 _ rfl;clear y0 y1 y2 y3 y4 x11 HC HN hb;have HWt:=hide (fun W=>zdq s.rdy 1 8 W);go_wp2_with fail;generalize w1.alloc (.cells #[.int .i64 s.slot,.int .i64 s.by',.int .i64 s.rdy] 84)=W2 at *;refine(zae HWt _).mono ?_;rintro e w3 ⟨rfl,hw3⟩;replace hw3:=hw3.symm;subst hw3;cases hz:inB s.rdy 1 8
  {
  have HE:=hide (HQ.out.1 hz);clear hz;go_wp2_with fail;go_ret;exact zbs (by rw [HE.out]) (by decide) (hb2.mono hlt)
  }
  have HE:=hide (HQ.out.2 hz);clear hz HWt;have hb3:Below w.heap.size w (W2.alloc (.cells #[.int .i64 7,.int .i64 (j:Int),.int .i64 s.rdy,.int .i64 0,.int .i64 0,.slice none 0 0,.bool false] 99)):=hb2.alloc hb2.size _;have hrow:IsRow (W2.alloc (.cells #[.int .i64 7,.int .i64 (j:Int),.int .i64 s.rdy,.int .i64 0,.int .i64 0,.slice none 0 0,.bool false] 99)) (some ⟨W2.heap.size,0,none⟩) [.int .i64 7,.int .i64 (j:Int),.int .i64 s.rdy,.int .i64 0,.int .i64 0,.slice none 0 0,.bool false]:=zcq (heap_alloc_last W2 (.cells #[.int .i64 7,.int .i64 (j:Int),.int .i64 s.rdy,.int .i64 0,.int .i64 0,.slice none 0 0,.bool false] 99));have hmr:MR (W2.alloc (.cells #[.int .i64 7,.int .i64 (j:Int),.int .i64 s.rdy,.int .i64 0,.int .i64 0,.slice none 0 0,.bool false] 99)) (KV Z q) ⟨7,j,s.rdy,0,0, [],false⟩ [.int .i64 7,.int .i64 (j:Int),.int .i64 s.rdy,.int .i64 0,.int .i64 0,.slice none 0 0,.bool false]:=⟨none,0,0,rfl,⟨.inl rfl,rfl,by decide⟩,.inl rfl⟩;have HS:=hide (zgs F Z q m v (some ⟨W2.heap.size,0,none⟩) 1 1 [⟨7,j,s.rdy,0,0, [],false⟩] _ _ (H.out.below hb3) hn hrow (vs_one hmr) rfl (Nat.le_refl _));clear hrow hmr;go_wp2_with fail;refine(zae HS).mono ?_;rintro e w4 ⟨rfl,hs4⟩;go_wp2_with fail;go_ret;exact zif HE.out hs4 (hb3.mono hlt)
end
end Go.Proofs.YthmekfcgdfckaaaGreatDoor
