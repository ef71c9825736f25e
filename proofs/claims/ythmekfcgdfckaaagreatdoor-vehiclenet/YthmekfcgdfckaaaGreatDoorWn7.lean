/- Plain facts for package meta: a numeral is read back ('numO'), texts of numbers, releases and images ('wr', 'relT', 'imgT', 'rootT'), a release is read ('readR') just from its own text, unlike ones have unlike texts. No program in this text. Plain texts of package meta: 'wr', 'rootT', 'relT', 'imgT'; 'readR' (the program's way of reading a release) and 'readQ' (the other way) read just what 'relT' writes; unlike ones have unlike texts. No program in this text. What package meta's checks say, as plain functions: 'rootE', 'relE', 'imgE', 'bookE', 'nameN'. No program in this text. Texts and targets in memory ('IsStrs', 'IsTgts'); rows of texts of one's own ('OwnStrs'); the contracts of slices.Index, slices.Contains at texts, and of meta.within. The contracts of meta.checkKeys, CheckRoot, rowOf, fits, CheckRelease, CheckImage, CheckBook. The contracts of meta.CheckRelease, CheckImage, CheckBook. The package variables of Go's library that stand as they were laid ('Tab', 'Vars'), and what strconv.Itoa, strings.Join do in their presence. The contract of meta.written. -/
import Derived.Lib.AtoiTie
import Derived.Lib.AtoiAllCases
import Derived.Lib.SplitLaws
import Derived.Lib.Join
import Derived.Lib.ItoaLen
import Derived.Test.YthmekfcgdfckaaaGreatDoorWn0
import Derived.Lib.SlicesS
import Derived.Test.YthmekfcgdfckaaaGreatDoorMShelf
set_option maxRecDepth 1000000
set_option maxHeartbeats 0
namespace Go.Proofs.YthmekfcgdfckaaaGreatDoor
variable {n v u t:Int} {a:Option Addr} {ks xs:List Int} {w w' :World} {ss:List ByteArray} {s:ByteArray} {k g:Nat}
section
open Go.Lib
def I64 (n:Int):Prop:= -9223372036854775808≤n∧n≤9223372036854775807
theorem dec_len: ∀(k u:Nat),u<10 ^(k+1)→(decDigits u).length≤k+1
  |0,u,h=>by rw [decDigits_length,nDigits_small (by simpa using h)];exact Nat.le_refl _
  |k+1,u,h=>by
    by_cases h9:u<10
    { rw [decDigits_length,nDigits_small h9];omega }
    {
    have:=dec_len k (u / 10) (by rw [Nat.pow_succ] at h;omega);rw [decDigits_length] at this⊢;rw [nDigits_big h9];omega
    }
theorem zfl (k:Nat) (h0:0≤n) (h1:n< (10:Int)^(k+1)): (itoa n).length≤k+1:=by
  unfold itoa;rw [if_neg (by omega)];refine dec_len k _ ?_;have: ((10 ^(k+1):Nat):Int)= (10:Int)^(k+1):=by simp
  omega
theorem zqb (x y:List UInt8) (r:List (List UInt8)) (sep:List UInt8):join (x::y::r) sep=x++(sep++join (y::r) sep):=by
  rw [join_cons,join_cons]
  simp [joinTail]
end
section
open Go.Lib
abbrev T3:=Int×Int×Int
def semiW:List UInt8:= [59,32]
def relW:List UInt8:= [114,101,108,101,97,115,101,32]
def untW:List UInt8:= [32,117,110,116,105,108,32]
def rootW:List UInt8:= [114,111,111,116,32]
def ofW:List UInt8:= [32,111,102,32]
def imgW:List UInt8:= [105,109,97,103,101,32]
def wr (l:List Int):List UInt8:=join (l.map itoa) [32]
def tgtT (t:T3):List UInt8:=wr [t.1,t.2.1,t.2.2]
def headT (v u:Int):List UInt8:=relW++wr [v]++untW++wr [u]
def relT (v u:Int) (ts:List T3):List UInt8:=join (headT v u::ts.map tgtT) semiW
def rootT (v:Int) (ks:List Int) (n:Int):List UInt8:=rootW++wr [v,n]++ofW++wr ks
def imgT (w:List Int):List UInt8:=imgW++wr w
def I3 (t:T3):Prop:=I64 t.1∧I64 t.2.1∧I64 t.2.2
def IR (v u:Int) (ts:List T3):Prop:=I64 v∧I64 u∧∀t∈ts,I3 t
theorem zi1 (k m:Nat): ∀(xs:List (List UInt8)) (sep:List UInt8),sep.length≤m→(∀x∈xs,x.length≤k)→(join xs sep).length≤xs.length *(k+m)
  | [],_,_,_=>by simp [join_nil]
  | [x],_,_,h=>by rw [join_one];have:=h x (by simp);simp;omega
  |x::y::r,sep,hm,h=>by
    rw [zqb];have:=zi1 k m (y::r) sep hm (fun z hz=>h z (by simp at hz⊢;exact .inr hz));have:=h x (by simp);simp only [List.length_append,List.length_cons] at *;rw [Nat.add_mul (r.length+1) 1];omega
theorem wr_len (k:Nat) (l:List Int) (h: ∀x∈l,(itoa x).length≤k): (wr l).length≤l.length *(k+1):=by
  have:=zi1 k 1 (l.map itoa) [32] (by simp) (fun x hx=>by obtain ⟨y,hy,rfl⟩:=List.mem_map.1 hx;exact h y hy)
  simpa [wr] using this
end
section
open Go.Lib
def inR (n a b:Int):Bool:=decide (a≤n∧n≤b)
theorem inR_t {a b:Int} (h0:a≤n) (h1:n≤b):inR n a b=true:=by unfold inR;simp;omega
theorem inR_lo {a b:Int} (h0: ¬a≤n):inR n a b=false:=by unfold inR;simp;omega
theorem inR_hi {a b:Int} (h0: ¬n≤b):inR n a b=false:=by unfold inR;simp;omega
theorem zd1 {a b:Int}:inR n a b=true↔a≤n∧n≤b:=by unfold inR;simp
def keysE (ahead:Int):List Int→Int
  | []=>0
  |k::r=>if inR k 1 50 then(if k≤ahead then 6 else keysE k r) else 3
def rootE (v:Int) (ks:List Int) (n:Int):Int:=
  if inR v 1 1000 then(if inR ks.length 1 6 then(if keysE 0 ks=0 then(if inR n 1 ks.length then 0 else 4) else keysE 0 ks) else 2) else 3
def tOK (i:Nat) (t:T3):Bool:=inR t.1 i i&&inR t.2.1 1 60&&inR t.2.2 1 40
def tgtsE (i:Nat):List T3→Int
  | []=>0
  |t::r=>if tOK i t then tgtsE (i+1) r else 3
def relE (v u:Int) (ts:List T3):Int:=
  if inR v 1 1000&&inR u 0 100000 then(if inR ts.length 1 4 then tgtsE 0 ts else 2) else 3
def wordB (n:Int):Bool:=decide (0≤n∧n≤65535)
def imgE (w:List Int):Int:=if inR w.length 1 40 then(if w.all wordB then 0 else 3) else 2
def nameN (ss:List ByteArray) (s:ByteArray):Nat:=match ss with
  | []=>0
  |t::r=>if t=s then 1 else if nameN r s=0 then 0 else nameN r s+1
def zcc (seen:List ByteArray):List ByteArray→Int
  | []=>0
  |s::r=>if 2000<s.size then 2 else if nameN seen s=0 then zcc (seen++ [s]) r else 6
def bookE (ss:List ByteArray):Int:=if 60<ss.length then 2 else zcc [] ss
theorem zft (h:rootE v ks n=0): (1≤v∧v≤1000)∧(1≤ks.length∧ks.length≤6)∧1≤n∧n≤ks.length∧keysE 0 ks=0:=by
  unfold rootE at h
  split at h
  {
  rename_i h1
  split at h
  {
  rename_i h2
  split at h
  {
  rename_i h3
  split at h
  {
  rename_i h4
  rw [zd1] at h1 h2 h4;exact⟨h1,by omega,h4.1,h4.2,h3⟩
  }
  { cases h }
  }
  { contradiction }
  }
  { cases h }
  }
  {
  cases h
  }
theorem keys_in : ∀{a:Int},keysE a ks=0→∀k∈ks,1≤k∧k≤50:=by
  induction ks with
  |nil=>intro a _ k hk;cases hk
  |cons x r ih=>
    intro a h k hk;unfold keysE at h
    split at h
    {
    rename_i h1
    split at h
    { cases h }
    {
    rw [zd1] at h1
    rcases List.mem_cons.1 hk with rfl|hk
    { exact h1 }
    { exact ih h k hk }
    }
    }
    {
    cases h
    }
theorem tgts_in {ts:List T3}: ∀{i:Nat},tgtsE i ts=0→∀t∈ts,(0≤t.1∧t.1<i+ts.length)∧(1≤t.2.1∧t.2.1≤60)∧1≤t.2.2∧t.2.2≤40:=by
  induction ts with
  |nil=>intro i _ t ht;cases ht
  |cons x r ih=>
    intro i h t ht;unfold tgtsE at h
    split at h
    {
    rename_i h1
    rcases List.mem_cons.1 ht with rfl|ht
    {
    simp only [tOK,Bool.and_eq_true,zd1] at h1;simp only [List.length_cons];omega
    }
    {
    have:=ih h t ht;simp only [List.length_cons];omega
    }
    }
    {
    cases h
    }
theorem zk4 {ts:List T3} (h:relE v u ts=0): (1≤v∧v≤1000)∧(0≤u∧u≤100000)∧(1≤ts.length∧ts.length≤4)∧tgtsE 0 ts=0:=by
  unfold relE at h
  split at h
  {
  rename_i h1
  split at h
  {
  rename_i h2
  simp only [Bool.and_eq_true,zd1] at h1 h2;exact⟨h1.1,h1.2,by omega,h⟩
  }
  { cases h }
  }
  {
  cases h
  }
theorem relE_IR {ts:List T3} (h:relE v u ts=0):IR v u ts:=by
  obtain ⟨h1,h2,h3,h4⟩:=zk4 h;refine⟨⟨by omega,by omega⟩,⟨by omega,by omega⟩,fun t ht=> ?_⟩;have:=tgts_in h4 t ht;exact⟨⟨by omega,by omega⟩,⟨by omega,by omega⟩,⟨by omega,by omega⟩⟩
theorem zlv {w:List Int} (h:imgE w=0): (1≤w.length∧w.length≤40)∧∀x∈w,0≤x∧x≤65535:=by
  unfold imgE at h
  split at h
  {
  rename_i h1
  split at h
  {
  rename_i h2
  rw [zd1] at h1;refine⟨by omega,fun x hx=> ?_⟩;have:=List.all_eq_true.1 h2 x hx
  simpa [wordB] using this
  }
  { cases h }
  }
  {
  cases h
  }
theorem relT_len {ts:List T3} (h:relE v u ts=0): (relT v u ts).length≤2000:=by
  obtain ⟨h1,h2,h3,h4⟩:=zk4 h;have e1: ∀n:Int,(wr [n]).length= (itoa n).length:=fun n=>by unfold wr;rw [List.map_cons,List.map_nil,join_one]
  have a1:=zfl (n:=v) 5 (by omega) (by omega);have a2:=zfl (n:=u) 5 (by omega) (by omega);have hd: (headT v u).length≤100:=by
    unfold headT;simp only [List.length_append,e1];have:relW.length=8:=rfl;have:untW.length=7:=rfl;omega
  have:=zi1 100 2 (headT v u::ts.map tgtT) semiW (by decide) (fun x hx=>by
    rcases List.mem_cons.1 hx with rfl|hx
    · exact hd
    · obtain ⟨t,ht,rfl⟩:=List.mem_map.1 hx
      have q:=tgts_in h4 t ht;have b1:=zfl (n:=t.1) 5 (by omega) (by omega);have b2:=zfl (n:=t.2.1) 5 (by omega) (by omega);have b3:=zfl (n:=t.2.2) 5 (by omega) (by omega);have:=wr_len 6 [t.1,t.2.1,t.2.2] (fun x hx=>by simp at hx;rcases hx with rfl|rfl|rfl<;>omega)
      simp at this
      unfold tgtT;omega)
  simp only [List.length_cons,List.length_map] at this;unfold relT;have: (ts.length+1)*(100+2)≤5 * 102:=Nat.mul_le_mul (by omega) (by omega);omega
theorem zp6 :nameN ss s=0↔s∉ss:=by
  induction ss with
  |nil=>simp [nameN]
  |cons t r ih=>
    unfold nameN
    by_cases h:t=s
    { simp [h] }
    {
    rw [if_neg h]
    by_cases h0:nameN r s=0
    {
    rw [if_pos h0];simp only [List.mem_cons,not_or,true_iff];exact⟨fun e=>h e.symm,ih.1 h0⟩
    }
    {
    rw [if_neg h0];have:s∈r:=Classical.byContradiction fun hn=>h0 (ih.2 hn)
    simp [this]
    }
    }
theorem zoc (ss:List ByteArray) (s:ByteArray):nameN ss s≤ss.length:=by
  induction ss with
  |nil=>simp [nameN]
  |cons t r ih=>
    unfold nameN
    split
    { simp }
    {
    split
    { simp }
    {
    simp;omega
    }
    }
theorem zqc : ∀{k:Nat},s∉ss.take k→nameN ss s=if nameN (ss.drop k) s=0 then 0 else nameN (ss.drop k) s+k:=by
  induction ss with
  |nil=>intro k _;simp [nameN]
  |cons t r ih=>
    intro k hk;cases k with
    |zero=>simp
    |succ k=>
      simp only [List.take_succ_cons,List.mem_cons,not_or] at hk;simp only [List.drop_succ_cons];rw [nameN,if_neg (fun e=>hk.1 e.symm),ih hk.2]
      split
      { simp }
      {
      rename_i h
      rw [if_neg (by omega)];omega
      }
theorem nameN_hit (h:s∉ss.take k) (hk:ss[k]?=some s):nameN ss s=k+1:=by
  rw [zqc h];have:ss.drop k=s::ss.drop (k+1):=by
    obtain ⟨hl,e⟩:=List.getElem?_eq_some_iff.1 hk;rw [List.drop_eq_getElem_cons hl,e]
  rw [this]
  simp [nameN]
  omega
end
section
open Go.RowKit
def za1 (w:World) (a:Option Addr) (ss:List ByteArray):Prop:=
  ss= []∨∃b off,a=some ⟨b,off,none⟩∧∀i,i<ss.length→w.cell? ⟨b,off+i,none⟩=some (.string (ss.getD i ByteArray.empty))
theorem za1.below (h:za1 w a ss) (hb:Below w.heap.size w w'):za1 w' a ss:=by
  rcases h with h| ⟨b,off,rfl,hc⟩
  { exact .inl h }
  {
  exact .inr ⟨b,off,rfl,fun i hi=>by rw [hb.cell (zah (hc i hi))];exact hc i hi⟩
  }
theorem za1.alloc (h:za1 w a ss) (o:Obj):za1 (w.alloc o) a ss:=
  h.below (bA1)
theorem za1.take (h:za1 w a ss) (k:Nat):za1 w a (ss.take k):=by
  rcases h with rfl| ⟨b,off,rfl,hc⟩
  { exact .inl (by simp) }
  {
  refine .inr ⟨b,off,rfl,fun i hi=> ?_⟩
  simp at hi
  rw [hc i (by omega)]
  simp [show i<k by omega]
  }
def svals (ss:List ByteArray):List Value:=ss.map Value.string
def za4 (w:World) (g:Nat) (ss:List ByteArray):Prop:=w.heap[g]?=some (.cells (svals ss).toArray 9 (0,0))
theorem za4.cell (h:za4 w g ss) (i:Nat) (hi:i<ss.length):w.cell? ⟨g,i,none⟩=some (.string (ss.getD i ByteArray.empty)):=by
  unfold za4 at h
  simp [World.cell?,h,svals,hi]
theorem za4.free (h:za4 w g ss) (i:Nat):w.frozen? ⟨g,i,none⟩=false:=by
  unfold za4 at h
  simp [World.frozen?,h]
theorem za4.isStrs (h:za4 w g ss):za1 w (some ⟨g,0,none⟩) ss:=
  .inr ⟨g,0,rfl,fun i hi=>by rw [Nat.zero_add];exact h.cell i hi⟩
theorem za4.lt (h:za4 w g ss):g<w.heap.size:=(Array.getElem?_eq_some_iff.1 h).1
theorem za4.below {B:Nat} (h:za4 w g ss) (hb:Below B w w') (hg:g<B):za4 w' g ss:=by
  unfold za4;rw [hb.block g hg];exact h
theorem za4.set (h:za4 w g ss) (i:Nat) (s:ByteArray):za4 (w.setCell ⟨g,i,none⟩ (.string s)) g (ss.set i s):=by
  unfold za4 at h⊢;simp only [World.setCell,Array.getElem?_modify]
  simp [h,svals]
theorem zna: (Tryz.prog.info? 9).map (fun i=>(i.zero,i.size,i.bytes))=some (some (.string ByteArray.empty),1,16):=by kernel_rfl
theorem zqr (n:Nat):madeCells (Value.string ByteArray.empty).cells n= (svals (List.replicate n ByteArray.empty)).toArray:=by
  apply Array.toList_inj.1
  show(madeCells #[Value.string ByteArray.empty] n).toList=_
  rw [toList_madeCells_one]
  simp [svals]
theorem make_strs (n:Nat) (w:World) (h:n * 16≤281474976710656):
    (Instr.makeSlice 22 (.int .i64 n) (.int .i64 n)).run Tryz.prog w=.ok (.slice (some ⟨w.heap.size,0,none⟩) n n) (w.alloc (.cells (svals (List.replicate n ByteArray.empty)).toArray 9)):=by
  obtain ⟨i0,hi,hz0,hz1,hz2⟩:=info_parts zna;have:=run_make (P:=Tryz.prog) w 22 9 i0 (.string ByteArray.empty) Tryz.underlying22 hi hz0 .i64 .i64 n n (by omega) (by omega) (by rw [hz2];omega) (by omega);rw [hz1,Int.toNat_natCast,Nat.mul_one,zqr] at this;exact this
def zj8 (t:T3):List Value:= [.int .i64 t.1,.int .i64 t.2.1,.int .i64 t.2.2]
def tv (t:T3):Value:=.agg #[.int .i64 t.1,.int .i64 t.2.1,.int .i64 t.2.2]
def zbm (w:World) (a:Option Addr) (ts:List T3):Prop:=
  ts= []∨∃b off,a=some ⟨b,off,none⟩∧∀i t,ts[i]?=some t→
    w.cell? ⟨b,off+i * 3,none⟩=some (.int .i64 t.1)∧w.cell? ⟨b,off+i * 3+1,none⟩=some (.int .i64 t.2.1)∧w.cell? ⟨b,off+i * 3+2,none⟩=some (.int .i64 t.2.2)
theorem zbm.below {ts:List T3} (h:zbm w a ts) (hb:Below w.heap.size w w'):zbm w' a ts:=by
  rcases h with h| ⟨b,off,rfl,hc⟩
  { exact .inl h }
  {
  refine .inr ⟨b,off,rfl,fun i t hi=> ?_⟩;obtain ⟨h1,h2,h3⟩:=hc i t hi;exact⟨by rw [hb.cell (zah h1)];exact h1,by rw [hb.cell (zah h2)];exact h2,by rw [hb.cell (zah h3)];exact h3⟩
  }
theorem zbm.alloc {ts:List T3} (h:zbm w a ts) (o:Obj):zbm (w.alloc o) a ts:=
  h.below (bA1)
theorem za2 (n a b:Int) (w:World):Calls Tryz.prog 229 #[.int .i64 n,.int .i64 a,.int .i64 b] w fun e w' =>e=.returned (.bool (inR n a b))∧w' =w:=by
  by_cases h0:a≤n
  {
  by_cases h1:n≤b
  {
  have hd:decide (n≤b)=true:=by simp;omega
  go_enter Tryz.func229,Tryz.ntmps229;go_wp2;go_ret;exact⟨zan (inR_t h0 h1).symm,rfl⟩
  }
  {
  have hd:decide (n≤b)=false:=by simp;omega
  go_enter Tryz.func229,Tryz.ntmps229;go_wp2;go_ret;exact⟨zan (inR_hi (by omega)).symm,rfl⟩
  }
  }
  {
  go_enter Tryz.func229,Tryz.ntmps229;go_wp2;go_ret;exact⟨zan (inR_lo (by omega)).symm,rfl⟩
  }
theorem zmv (hk:k<ss.length) (h:s∉ss.take k) (hne: ¬s=ss[k]):s∉ss.take (k+1):=by
  rw [List.take_succ_eq_append_getElem hk];simp only [List.mem_append,List.mem_singleton,not_or];exact⟨h,hne⟩
theorem zgv (a:Option Addr) (n c:Nat) (ss:List ByteArray) (s:ByteArray) (w:World) (h:za1 w a ss) (hn:ss.length=n) (hm:n≤maxLen):
    Calls Tryz.prog 100 #[.slice a n c,.string s] w fun e w' =>e=.returned (.int .i64 ((nameN ss s:Int)- 1))∧w' =w:=by
  unfold maxLen at hm;have HN:Hid (ss.length=n):=hn;go_enter Tryz.func100,Tryz.ntmps100;go_wp2
  go_loop [8] (fun i=>∃k:Nat,k≤n∧i=.int .i64 k∧Hid (s∉ss.take k)) (fun i=>n - (intOf i).toNat)
  case atStart=>exact⟨0,Nat.zero_le _,rfl,by show _∉_;simp⟩
  case round=>
    obtain ⟨k,hk,rfl,ht⟩:=hrel
    by_cases hlt:k<n
    {
    rcases h with rfl| ⟨b0,o0,rfl,hc0⟩
    { simp at hn;omega }
    have hkx:k<ss.length:=by omega
    have e0:=hc0 k hkx;rw [show ss.getD k ByteArray.empty=ss[k] by simp [hkx]] at e0;clear hn hc0
    by_cases he:s=ss[k]
    {
    have hb: (s.toList==ss[k].toList)=true:=(Lib.bytes_beq_iff _ _).2 he;have HE:=hide he;clear he;go_wp2;go_ret;refine⟨?_,rfl⟩;rw [nameN_hit ht.out (by rw [List.getElem?_eq_getElem hkx,←HE.out]),show(((k+1:Nat):Int)- 1)= (k:Int) by omega];rfl
    }
    {
    have hb: (s.toList==ss[k].toList)=false:=(Lib.bytes_beq_false_iff _ _).2 he;have HE:=hide he;clear he;go_wp2
    go_round
    case rel=>exact⟨k+1,by omega,by go_num,zmv hkx ht.out HE.out⟩
    case measure=>simp [intOf];omega
    }
    }
    {
    go_wp2;go_ret;have hx:=ht.out;rw [List.take_of_length_le (by omega)] at hx;rw [zp6.2 hx];exact⟨rfl,rfl⟩
    }
def hasB (ss:List ByteArray) (s:ByteArray):Bool:=decide (nameN ss s≠0)
theorem zmt (a:Option Addr) (n c:Nat) (ss:List ByteArray) (s:ByteArray) (w:World) (h:za1 w a ss) (hn:ss.length=n) (hm:n≤maxLen):
    Calls Tryz.prog 133 #[.slice a n c,.string s] w fun e w' =>e=.returned (.bool (hasB ss s))∧w' =w:=by
  have hc:=hide (zgv a n c ss s w h hn hm);have hd:decide (0≤((nameN ss s:Int)- 1))=hasB ss s:=by
    unfold hasB;rw [decide_eq_decide];omega
  generalize hq: ((nameN ss s:Int)- 1)=q at hc hd;clear hn hq;go_enter Tryz.func133,Tryz.ntmps133;go_wp2_with fail;refine(zae hc).mono ?_;rintro e w' ⟨rfl,rfl⟩;go_wp2;go_ret;exact⟨rfl,rfl⟩
end
section
open Go.RowKit
theorem keysE_bad (hk:k<xs.length) (a:Int) (h:inR xs[k] 1 50=false):keysE a (xs.drop k)=3:=by
  rw [List.drop_eq_getElem_cons hk]
  simp [keysE,h]
theorem keysE_two (hk:k<xs.length) (a:Int) (h:inR xs[k] 1 50=true) (h2:xs[k]≤a):keysE a (xs.drop k)=6:=by
  rw [List.drop_eq_getElem_cons hk]
  simp [keysE,h,h2]
theorem zp2 (hk:k<xs.length) (a:Int) (h:inR xs[k] 1 50=true) (h2: ¬xs[k]≤a):keysE a (xs.drop k)=keysE xs[k] (xs.drop (k+1)):=by
  rw [List.drop_eq_getElem_cons hk]
  simp [keysE,h,h2]
theorem zap {a b:Int} (h:a=b):Ending.returned (.int .i64 a)=.returned (.int .i64 b):=by rw [h]
theorem zmu (a:Option Addr) (n c:Nat) (xs:List Int) (w:World) (h:zag w a xs) (hn:xs.length=n) (hm:n≤maxLen):
    Calls Tryz.prog 262 #[.slice a n c] w fun e w' =>e=.returned (.int .i64 (keysE 0 xs))∧w' =w:=by
  unfold maxLen at hm;have HN:Hid (xs.length=n):=hn;go_enter Tryz.func262,Tryz.ntmps262;go_wp2
  go_loop [3,8] (fun p i=>∃(k:Nat) (q:Int),k≤n∧p=.int .i64 q∧i=.int .i64 k∧Hid (keysE q (xs.drop k)=keysE 0 xs)) (fun _ i=>n - (intOf i).toNat)
  case atStart=>exact⟨0,0,Nat.zero_le _,rfl,rfl,rfl⟩
  case round=>
    obtain ⟨k,q,hk,rfl,rfl,ht⟩:=hrel
    by_cases hlt:k<n
    {
    rcases h with rfl| ⟨b0,o0,rfl,hc0⟩
    { simp at hn;omega }
    have hkx:k<xs.length:=by omega
    have e0:=hc0 k hkx;rw [show xs.getD k 0=xs[k] by simp [hkx]] at e0;clear hn hc0;go_wp2_with fail;refine(za2 _ _ _ _).mono ?_;rintro e w' ⟨rfl,rfl⟩;cases hv:inR xs[k] 1 50
    {
    have HV:=hide hv;clear hv;go_wp2_with fail;go_ret;exact⟨zap (by rw [←ht.out,keysE_bad hkx _ HV.out]),rfl⟩
    }
    {
    have HV:=hide hv;clear hv
    by_cases hq:xs[k]≤q
    {
    go_wp2_with fail;go_ret;exact⟨zap (by rw [←ht.out,keysE_two hkx _ HV.out hq]),rfl⟩
    }
    {
    have hd:decide (xs[k]≤q)=false:=by simp;omega
    go_wp2_with fail
    go_round
    case rel=>exact⟨k+1,xs[k],by omega,rfl,by go_num,by show _=_;rw [←ht.out,zp2 hkx _ HV.out (by omega)]⟩
    case measure=>simp [intOf];omega
    }
    }
    }
    {
    go_wp2_with fail;go_ret;have hx:=ht.out;rw [List.drop_eq_nil_of_le (by omega)] at hx;exact⟨zap (by rw [←hx];rfl),rfl⟩
    }
theorem zlw (h1:inR v 1 1000=false):rootE v ks t=3:=by simp [rootE,h1]
theorem zle (h1:inR v 1 1000=true) (h2:inR ks.length 1 6=false):rootE v ks t=2:=by simp [rootE,h1,h2]
theorem rootE_3 (h1:inR v 1 1000=true) (h2:inR ks.length 1 6=true) (h3:keysE 0 ks≠0):rootE v ks t=keysE 0 ks:=by simp [rootE,h1,h2,h3]
theorem rootE_4 (h1:inR v 1 1000=true) (h2:inR ks.length 1 6=true) (h3:keysE 0 ks=0) (h4:inR t 1 ks.length=false):rootE v ks t=4:=by simp [rootE,h1,h2,h3,h4]
theorem rootE_0 (h1:inR v 1 1000=true) (h2:inR ks.length 1 6=true) (h3:keysE 0 ks=0) (h4:inR t 1 ks.length=true):rootE v ks t=0:=by simp [rootE,h1,h2,h3,h4]
def rv (v:Int) (a:Option Addr) (n c:Nat) (t:Int):Value:=.agg #[.int .i64 v,.slice a n c,.int .i64 t]
theorem zeu (v:Int) (a:Option Addr) (n c:Nat) (t:Int) (xs:List Int) (w:World) (h:zag w a xs) (hn:xs.length=n) (hm:n≤maxLen):
    Calls Tryz.prog 216 #[rv v a n c t] w fun e w' =>e=.returned (.int .i64 (rootE v xs t))∧Below w.heap.size w w' :=by
  have HN:=hide hn;have HK:=hide (fun W (hW:zag W a xs)=>zmu a n c xs W hW hn hm);unfold maxLen at hm;unfold rv;clear hn;cases h1:inR v 1 1000
  {
  go_enter Tryz.func216,Tryz.ntmps216
  go_wp2_with (go_at_call 229;refine(za2 _ _ _ _).mono ?_;rintro e w' ⟨rfl,rfl⟩)
  go_ret;exact⟨zap (zlw h1).symm,bA1⟩
  }
  {
  cases h2:inR (n:Int) 1 6
  {
  go_enter Tryz.func216,Tryz.ntmps216
  go_wp2_with (go_at_call 229;refine(za2 _ _ _ _).mono ?_;rintro e w' ⟨rfl,rfl⟩)
  go_ret;exact⟨zap (zle h1 (by rw [HN.out];exact h2)).symm,bA1⟩
  }
  {
  by_cases h3:keysE 0 xs=0
  {
  cases h4:inR t 1 n
  {
  go_enter Tryz.func216,Tryz.ntmps216
  go_wp2_with (first
    | (go_at_call 229;refine(za2 _ _ _ _).mono ?_;rintro e w' ⟨rfl,rfl⟩)
    | (go_at_call 262;refine(HK.out _ (h.alloc _)).mono ?_;rintro e w' ⟨rfl,rfl⟩))
  go_ret;exact⟨zap (rootE_4 h1 (by rw [HN.out];exact h2) h3 (by rw [HN.out];exact h4)).symm,bA1⟩
  }
  {
  go_enter Tryz.func216,Tryz.ntmps216
  go_wp2_with (first
    | (go_at_call 229;refine(za2 _ _ _ _).mono ?_;rintro e w' ⟨rfl,rfl⟩)
    | (go_at_call 262;refine(HK.out _ (h.alloc _)).mono ?_;rintro e w' ⟨rfl,rfl⟩))
  go_ret;exact⟨zap (rootE_0 h1 (by rw [HN.out];exact h2) h3 (by rw [HN.out];exact h4)).symm,bA1⟩
  }
  }
  {
  have hb: (keysE 0 xs !=0)=true:=by simpa using h3
  have H3:=hide h3;have HE:=hide (rootE_3 (t:=t) h1 (by rw [HN.out];exact h2) h3);clear h3;generalize keysE 0 xs=q at HK hb HE;go_enter Tryz.func216,Tryz.ntmps216
  go_wp2_with (first
    | (go_at_call 229;refine(za2 _ _ _ _).mono ?_;rintro e w' ⟨rfl,rfl⟩)
    | (go_at_call 262;refine(HK.out _ (h.alloc _)).mono ?_;rintro e w' ⟨rfl,rfl⟩))
  go_ret;exact⟨zap HE.out.symm,bA1⟩
  }
  }
  }
theorem zl6 (t:T3) (w:World):Calls Tryz.prog 170 #[tv t] w fun e w' =>e=.returned (tv t)∧Below w.heap.size w w' :=by
  unfold tv;go_enter Tryz.func170,Tryz.ntmps170;go_wp2;refine bodyPost_ret (v:=.agg #[.int .i64 t.1,.int .i64 t.2.1,.int .i64 t.2.2]) (by simp [results,Tryz.results170,go_sem]) rfl ⟨rfl, ?_⟩;exact bA2
def preB (p:Nat) (t:T3) (k:Nat):Bool:=(decide (k≤0)||inR t.1 p p)&&(decide (k≤1)||inR t.2.1 1 60)&&(decide (k≤2)||inR t.2.2 1 40)
theorem ix0 (a b c:Int) (W:World): (Instr.index 226 (.agg #[.int .i64 a,.int .i64 b,.int .i64 c]) (.int .i64 0)).run Tryz.prog W=.ok (.int .i64 a) W:=by kernel_rfl
theorem ix1 (a b c:Int) (W:World): (Instr.index 226 (.agg #[.int .i64 a,.int .i64 b,.int .i64 c]) (.int .i64 1)).run Tryz.prog W=.ok (.int .i64 b) W:=by kernel_rfl
theorem ix2 (a b c:Int) (W:World): (Instr.index 226 (.agg #[.int .i64 a,.int .i64 b,.int .i64 c]) (.int .i64 2)).run Tryz.prog W=.ok (.int .i64 c) W:=by kernel_rfl
def bnds (p:Nat):Obj:=.cells #[.int .i64 p,.int .i64 p,.int .i64 1,.int .i64 60,.int .i64 1,.int .i64 40] 315
theorem znu (t:T3) (p:Nat) (w:World):
    Calls Tryz.prog 230 #[tv t,.int .i64 p] w fun e w' =>e=.returned (.bool (tOK p t))∧Below w.heap.size w w' :=by
  have HR:=hide (fun W=>zl6 t W);unfold tv;unfold tv at HR;go_enter Tryz.func230,Tryz.ntmps230;go_wp2_with fail;have hw:Below w.heap.size w ((w.alloc (.cells #[.int .i64 t.1,.int .i64 t.2.1,.int .i64 t.2.2] 163)).alloc (bnds p)):=bA2;have b0:=hide (heap_alloc_last (w.alloc (.cells #[.int .i64 t.1,.int .i64 t.2.1,.int .i64 t.2.2] 163)) (bnds p));rw [World.size_alloc] at b0;unfold bnds at b0 hw;generalize (w.alloc (.cells #[.int .i64 t.1,.int .i64 t.2.1,.int .i64 t.2.2] 163)).alloc (.cells #[.int .i64 p,.int .i64 p,.int .i64 1,.int .i64 60,.int .i64 1,.int .i64 40] 315)=W at *;refine(zae HR _).mono ?_;rintro e w1 ⟨rfl,hb1⟩;replace b0:=hide (zab b0.out hb1);replace hw:=bT hw hb1;clear hb1;go_wp2_with fail
  go_loopw [16] (fun i wr=>∃k:Nat,k≤3∧i=.int .i64 k∧Below w.heap.size w wr∧Hid (wr.heap[w.heap.size+1]?=some (.cells #[.int .i64 p,.int .i64 p,.int .i64 1,.int .i64 60,.int .i64 1,.int .i64 40] 315 (0,0)))∧Hid (preB p t k=true)) (fun i _=>3 - (intOf i).toNat)
  case atStart=>exact⟨0,by decide,rfl,hw,b0,by show _=_;simp [preB]⟩
  case round=>
    clear hw b0;obtain ⟨k,hk,rfl,hw,b0,ht⟩:=hrel;have c0:=zaa b0.out 0 _ rfl;have c1:=zaa b0.out 1 _ rfl;have c2:=zaa b0.out 2 _ rfl;have c3:=zaa b0.out 3 _ rfl;have c4:=zaa b0.out 4 _ rfl;have c5:=zaa b0.out 5 _ rfl;have hk' :k=0∨k=1∨k=2∨k=3:=by omega
    rcases hk' with rfl|rfl|rfl|rfl
    {
    have hix:=fun W=>ix0 t.1 t.2.1 t.2.2 W
    cases hv:inR t.1 p p
    {
    have HV:=hide hv;go_wp2_with fail;go_quiet ((go_at_call 229;refine Calls.quiet_of_same (za2 _ _ _ _)));go_wp2_with fail;go_ret;exact⟨zan (by simp [tOK,HV.out]),below_drewN hw _⟩
    }
    {
    have HV:=hide hv;go_wp2_with fail;go_quiet ((go_at_call 229;refine Calls.quiet_of_same (za2 _ _ _ _)));go_wp2_with fail
    go_roundw
    case rel=>exact⟨1,by decide,rfl,below_drewN hw _,b0,by show _=_;simp [preB,HV.out]⟩
    case measure=>simp [intOf]
    }
    }
    {
    have hix:=fun W=>ix1 t.1 t.2.1 t.2.2 W
    have h0:=hide (show inR t.1 p p=true by have:=ht.out;simpa [preB] using this);cases hv:inR t.2.1 1 60
    {
    have HV:=hide hv;go_wp2_with fail;go_quiet ((go_at_call 229;refine Calls.quiet_of_same (za2 _ _ _ _)));go_wp2_with fail;go_ret;exact⟨zan (by simp [tOK,HV.out]),below_drewN hw _⟩
    }
    {
    have HV:=hide hv;go_wp2_with fail;go_quiet ((go_at_call 229;refine Calls.quiet_of_same (za2 _ _ _ _)));go_wp2_with fail
    go_roundw
    case rel=>exact⟨2,by decide,rfl,below_drewN hw _,b0,by show _=_;simp [preB,HV.out,h0.out]⟩
    case measure=>simp [intOf]
    }
    }
    {
    have hix:=fun W=>ix2 t.1 t.2.1 t.2.2 W
    have h0:=hide (show inR t.1 p p=true∧inR t.2.1 1 60=true by have:=ht.out;simpa [preB] using this);cases hv:inR t.2.2 1 40
    {
    have HV:=hide hv;go_wp2_with fail;go_quiet ((go_at_call 229;refine Calls.quiet_of_same (za2 _ _ _ _)));go_wp2_with fail;go_ret;exact⟨zan (by simp [tOK,HV.out]),below_drewN hw _⟩
    }
    {
    have HV:=hide hv;go_wp2_with fail;go_quiet ((go_at_call 229;refine Calls.quiet_of_same (za2 _ _ _ _)));go_wp2_with fail
    go_roundw
    case rel=>exact⟨3,by decide,rfl,below_drewN hw _,b0,by show _=_;simp [preB,HV.out,h0.out.1,h0.out.2]⟩
    case measure=>simp [intOf]
    }
    }
    {
    have h0:=hide (show(inR t.1 p p=true∧inR t.2.1 1 60=true)∧inR t.2.2 1 40=true by have:=ht.out;simpa [preB] using this);go_wp2_with fail;go_ret;exact⟨zan (by simp [tOK,h0.out.1.1,h0.out.1.2,h0.out.2]),hw⟩
    }
end
section
open Go.RowKit
theorem relE_1 {ts:List T3} (h1:inR v 1 1000=false):relE v u ts=3:=by simp [relE,h1]
theorem relE_2 {ts:List T3} (h1:inR u 0 100000=false):relE v u ts=3:=by simp [relE,h1]
theorem relE_3 {ts:List T3} (h1:inR v 1 1000=true) (h2:inR u 0 100000=true) (h3:inR ts.length 1 4=false):relE v u ts=2:=by simp [relE,h1,h2,h3]
theorem relE_4 {ts:List T3} (h1:inR v 1 1000=true) (h2:inR u 0 100000=true) (h3:inR ts.length 1 4=true):relE v u ts=tgtsE 0 ts:=by simp [relE,h1,h2,h3]
theorem tgtsE_bad {ts:List T3} (hk:k<ts.length) (h:tOK k ts[k]=false):tgtsE k (ts.drop k)=3:=by
  rw [List.drop_eq_getElem_cons hk]
  simp [tgtsE,h]
theorem zqe {ts:List T3} (hk:k<ts.length) (h:tOK k ts[k]=true):tgtsE k (ts.drop k)=tgtsE (k+1) (ts.drop (k+1)):=by
  rw [List.drop_eq_getElem_cons hk]
  simp [tgtsE,h]
def relv (v u:Int) (a:Option Addr) (n c:Nat):Value:=.agg #[.int .i64 v,.int .i64 u,.slice a n c]
theorem zff (v u:Int) (a:Option Addr) (n c:Nat) (ts:List T3) (w:World) (h:zbm w a ts) (hn:ts.length=n) (hm:n≤maxLen):
    Calls Tryz.prog 169 #[relv v u a n c] w fun e w' =>e=.returned (.int .i64 (relE v u ts))∧Below w.heap.size w w' :=by
  have HN:=hide hn;unfold maxLen at hm;unfold relv;clear hn;cases h1:inR v 1 1000
  {
  go_enter Tryz.func169,Tryz.ntmps169
  go_wp2_with (go_at_call 229;refine(za2 _ _ _ _).mono ?_;rintro e w' ⟨rfl,rfl⟩)
  go_ret;exact⟨zap (relE_1 h1).symm,bA1⟩
  }
  {
  cases h2:inR u 0 100000
  {
  go_enter Tryz.func169,Tryz.ntmps169
  go_wp2_with (go_at_call 229;refine(za2 _ _ _ _).mono ?_;rintro e w' ⟨rfl,rfl⟩)
  go_ret;exact⟨zap (relE_2 h2).symm,bA1⟩
  }
  {
  cases h3:inR (n:Int) 1 4
  {
  go_enter Tryz.func169,Tryz.ntmps169
  go_wp2_with (go_at_call 229;refine(za2 _ _ _ _).mono ?_;rintro e w' ⟨rfl,rfl⟩)
  go_ret;exact⟨zap (relE_3 h1 h2 (by rw [HN.out];exact h3)).symm,bA1⟩
  }
  {
  have HE:=hide (relE_4 h1 h2 (ts:=ts) (by rw [HN.out];exact h3));have hw0:Below w.heap.size w (w.alloc (.cells #[.int .i64 v,.int .i64 u,.slice a n c] 45)):=bA1;go_enter Tryz.func169,Tryz.ntmps169
  go_wp2_with (go_at_call 229;refine(za2 _ _ _ _).mono ?_;rintro e w' ⟨rfl,rfl⟩)
  go_loopw [23] (fun i wr=>∃k:Nat,k≤n∧i=.int .i64 k∧Below w.heap.size w wr∧Hid (tgtsE k (ts.drop k)=tgtsE 0 ts)) (fun i _=>n - (intOf i).toNat)
  case atStart=>exact⟨0,Nat.zero_le _,rfl,hw0,rfl⟩
  case round=>
    clear hw0;obtain ⟨k,hk,rfl,hw,ht⟩:=hrel
    by_cases hlt:k<n
    {
    have i1:=h.below hw
    rcases i1 with rfl| ⟨b0,o0,rfl,hc0⟩
    {
    have:=HN.out
    simp at this
    omega
    }
    have hkx:k<ts.length:=by rw [HN.out];exact hlt
    obtain ⟨e0,e1,e2⟩:=hc0 k ts[k] (List.getElem?_eq_getElem hkx);clear hc0;have hw1:=hw.alloc hw.size (.cells #[.int .i64 ts[k].1,.int .i64 ts[k].2.1,.int .i64 ts[k].2.2] 163);have HB:=hide (tgtsE_bad hkx);have HX:=hide (zqe hkx);generalize ts[k]=tk at *;cases hv:tOK k tk
    {
    have HF:=hide (fun W=>znu tk k W);rw [hv] at HF;unfold tv at HF;have HV:=hide (HB.out hv);clear hv;go_wp2_with fail;refine(zae HF _).mono ?_;rintro e w1 ⟨rfl,hb1⟩;replace hw1:=bT hw1 hb1;go_wp2_with fail;go_ret;exact⟨zap (by rw [HE.out,←ht.out,HV.out]),hw1⟩
    }
    {
    have HF:=hide (fun W=>znu tk k W);rw [hv] at HF;unfold tv at HF;have HV:=hide (HX.out hv);clear hv;go_wp2_with fail;refine(zae HF _).mono ?_;rintro e w1 ⟨rfl,hb1⟩;replace hw1:=bT hw1 hb1;go_wp2_with fail
    go_roundw
    case rel=>exact⟨k+1,by omega,by go_num,hw1,by show _=_;rw [←ht.out,HV.out]⟩
    case measure=>simp [intOf];omega
    }
    }
    {
    go_wp2_with fail;go_ret;have hx:=ht.out;rw [List.drop_eq_nil_of_le (by rw [HN.out];omega)] at hx;exact⟨zap (by rw [HE.out,←hx];rfl),hw⟩
    }
  }
  }
  }
theorem znv (xs:List Int):okL xs=xs.all wordB:=rfl
theorem imgE_1 {w:List Int} (h:inR w.length 1 40=false):imgE w=2:=by simp [imgE,h]
theorem imgE_2 {w:List Int} (h:inR w.length 1 40=true) (h2:okL w=false):imgE w=3:=by rw [znv] at h2;simp [imgE,h,h2]
theorem imgE_3 {w:List Int} (h:inR w.length 1 40=true) (h2:okL w=true):imgE w=0:=by rw [znv] at h2;simp only [imgE,h,h2];rfl
theorem zd9 (a:Option Addr) (n c:Nat) (xs:List Int) (w:World) (h:zag w a xs) (hn:xs.length=n) (hm:n≤maxLen):
    Calls Tryz.prog 167 #[.slice a n c] w fun e w' =>e=.returned (.int .i64 (imgE xs))∧w' =w:=by
  have HN:=hide hn;have HA:=hide (zc8 a n c xs w h hn hm);clear hn;cases h1:inR (n:Int) 1 40
  {
  have HE:=hide (imgE_1 (w:=xs) (by rw [HN.out];exact h1));go_enter Tryz.func167,Tryz.ntmps167
  go_wp2_with (go_at_call 229;refine(za2 _ _ _ _).mono ?_;rintro e w' ⟨rfl,rfl⟩)
  go_ret;exact⟨zap HE.out.symm,rfl⟩
  }
  {
  cases h2:okL xs
  {
  have HE:=hide (imgE_2 (by rw [HN.out];exact h1) h2);rw [h2] at HA;go_enter Tryz.func167,Tryz.ntmps167
  go_wp2_with (first| (go_at_call 229;refine(za2 _ _ _ _).mono ?_;rintro e w' ⟨rfl,rfl⟩)| (go_at_call 217;refine(zae HA).mono ?_;rintro e w' ⟨rfl,rfl⟩))
  go_ret;exact⟨zap HE.out.symm,rfl⟩
  }
  {
  have HE:=hide (imgE_3 (by rw [HN.out];exact h1) h2);rw [h2] at HA;go_enter Tryz.func167,Tryz.ntmps167
  go_wp2_with (first| (go_at_call 229;refine(za2 _ _ _ _).mono ?_;rintro e w' ⟨rfl,rfl⟩)| (go_at_call 217;refine(zae HA).mono ?_;rintro e w' ⟨rfl,rfl⟩))
  go_ret;exact⟨zap HE.out.symm,rfl⟩
  }
  }
theorem zo3 (hk:k<ss.length) (h:2000<ss[k].size):zcc (ss.take k) (ss.drop k)=2:=by
  rw [List.drop_eq_getElem_cons hk];simp only [zcc];rw [if_pos h]
theorem zrk (hk:k<ss.length) (h: ¬2000<ss[k].size) (h2:hasB (ss.take k) ss[k]=true):zcc (ss.take k) (ss.drop k)=6:=by
  rw [List.drop_eq_getElem_cons hk];simp only [zcc];rw [if_neg h,if_neg (by simpa [hasB] using h2)]
theorem zpu (hk:k<ss.length) (h: ¬2000<ss[k].size) (h2:hasB (ss.take k) ss[k]=false):zcc (ss.take k) (ss.drop k)=zcc (ss.take (k+1)) (ss.drop (k+1)):=by
  rw [List.drop_eq_getElem_cons hk,List.take_succ_eq_append_getElem hk];simp only [zcc];rw [if_neg h,if_pos (by simpa [hasB] using h2)]
def bookv (a:Option Addr) (n c:Nat):Value:=.agg #[.slice a n c]
theorem zdw (a:Option Addr) (n c:Nat) (ss:List ByteArray) (w:World) (h:za1 w a ss) (hn:ss.length=n) (hc:n≤c) (hz: ∀s∈ss,s.size≤maxLen):
    Calls Tryz.prog 38 #[bookv a n c] w fun e w' =>e=.returned (.int .i64 (bookE ss))∧Below w.heap.size w w' :=by
  have HN:=hide hn;unfold maxLen at hz;unfold bookv;have hw0:Below w.heap.size w (w.alloc (.cells #[.slice a n c] 24)):=bA1
  by_cases h1:60<n
  {
  have HE:=hide (show bookE ss=2 by unfold bookE;rw [if_pos (by omega)]);clear hn;go_enter Tryz.func38,Tryz.ntmps38;go_wp2_with fail;go_ret;exact⟨zap HE.out.symm,hw0⟩
  }
  {
  have HE:=hide (show bookE ss=zcc [] ss by unfold bookE;rw [if_neg (by omega)]);clear hn;go_enter Tryz.func38,Tryz.ntmps38;go_wp2_with fail
  go_loopw [12] (fun i wr=>∃k:Nat,k≤n∧i=.int .i64 k∧wr=w.alloc (.cells #[.slice a n c] 24)∧Hid (zcc (ss.take k) (ss.drop k)=zcc [] ss)) (fun i _=>n - (intOf i).toNat)
  case atStart=>exact⟨0,Nat.zero_le _,rfl,rfl,by show _=_;simp⟩
  case round=>
    obtain ⟨k,hk,rfl,rfl,ht⟩:=hrel
    by_cases hlt:k<n
    {
    have i1:=h.below hw0;have i2:=i1.take k;have hkx:k<ss.length:=by rw [HN.out];exact hlt
    rcases i1 with rfl| ⟨b0,o0,rfl,hc0⟩
    {
    have:=HN.out
    simp at this
    omega
    }
    have e0:=h;have e0:=hc0 k hkx;rw [show ss.getD k ByteArray.empty=ss[k] by simp [hkx]] at e0;have hzk:=hz ss[k] (List.getElem_mem hkx);clear hc0
    by_cases h2:2000<ss[k].size
    {
    have HV:=hide (zo3 hkx h2);generalize ss[k]=sk at *;go_wp2_with fail;go_ret;exact⟨zap (by rw [HE.out,←ht.out,HV.out]),hw0⟩
    }
    {
    have HC:=hide (zmt (some ⟨b0,o0,none⟩) k c (ss.take k) ss[k] _ i2 (by simp;omega) (by unfold maxLen;omega));cases h3:hasB (ss.take k) ss[k]
    {
    have HV:=hide (zpu hkx h2 h3);rw [h3] at HC;generalize ss[k]=sk at *
    go_wp2_with (go_at_call 133;refine(zae HC).mono ?_;rintro e w' ⟨rfl,rfl⟩)
    go_roundw
    case rel=>exact⟨k+1,by omega,by go_num,trivial,by show _=_;rw [←ht.out,HV.out]⟩
    case measure=>simp [intOf];omega
    }
    {
    have HV:=hide (zrk hkx h2 h3);rw [h3] at HC;generalize ss[k]=sk at *
    go_wp2_with (go_at_call 133;refine(zae HC).mono ?_;rintro e w' ⟨rfl,rfl⟩)
    go_ret;exact⟨zap (by rw [HE.out,←ht.out,HV.out]),hw0⟩
    }
    }
    }
    {
    go_wp2_with fail;go_ret;have hx:=ht.out;rw [List.drop_eq_nil_of_le (by rw [HN.out];omega)] at hx;exact⟨zap (by rw [HE.out,←hx];rfl),hw0⟩
    }
  }
end
section
open Go.RowKit
def bs (l:List UInt8):ByteArray:=⟨l.toArray⟩
theorem ztl (l:List UInt8): (bs l).data.toList=l:=by simp [bs]
theorem zdk (l:List UInt8): (bs l).size=l.length:=rfl
theorem var_below {n:String} {cs:Array Value} (h:w.var? Tryz.prog n=some cs) (hb:Below w.heap.size w w'):w'.var? Tryz.prog n=some cs:=by
  unfold World.var? at h⊢;cases hg:Tryz.prog.globalNamed n with
  |none=>rw [hg] at h;cases h
  |some g=>
    rw [hg] at h;simp only [Option.bind_some] at h⊢;have hlt:g<w.heap.size:=by
      cases hx:w.heap[g]? with
      |none=>rw [hx] at h;cases h
      |some o=>exact(Array.getElem?_eq_some_iff.1 hx).1
    rw [hb.block g hlt];exact h
def Tab (w:World):Prop:=Lib.TabIs Tryz.prog w "internal/strconv.uint64pow10" .u64 Lib.pow10Tab
theorem Tab.below (h:Tab w) (hb:Below w.heap.size w w'):Tab w' :=var_below h hb
theorem Tab.alloc (h:Tab w) (o:Obj):Tab (w.alloc o):=h.below (bA1)
theorem zqn (w:World) (os:Array Obj):Below w.heap.size w (Sort.grow w os):=
  ⟨rfl,rfl,rfl,by simp,fun k hk=>Sort.heap_grow_old w os hk⟩
theorem itoa_any (n:Int) (hn:I64 n) (w:World) (hT:Tab w):
    Calls Tryz.prog 213 #[.int .i64 n] w fun e w' =>e=.returned (.string (bs (Lib.itoa n)))∧Below w.heap.size w w' :=by
  refine(Tryz.strconv_Itoa n hn.1 hn.2 w hT).mono ?_;rintro e w' ⟨rfl,k,os,rfl⟩;exact⟨rfl,(below_drewN (Below.refl _ _) k).trans (zqn (w.drewN k) os:Below (w.drewN k).heap.size _ _)⟩
theorem zot (a:Option Addr) (n c:Nat) (ss:List ByteArray) (sep:List UInt8) (w:World) (h:za1 w a ss) (hn:ss.length=n) (hc:n≤c) (hm:n≤140737488355328)
    (hlen: (Lib.join (ss.map (·.data.toList)) sep).length≤140737488355328):
    Calls Tryz.prog 171 #[.slice a n c,.string (bs sep)] w fun e w' =>e=.returned (.string (bs (Lib.join (ss.map (·.data.toList)) sep)))∧Below w.heap.size w w' :=by
  subst hn
  rcases h with rfl| ⟨b,off,rfl,hcell⟩
  {
  refine(Tryz.strings_Join_none a c (bs sep) w).mono ?_;rintro e w' ⟨rfl,rfl⟩;exact⟨rfl,Below.refl _ _⟩
  }
  {
  by_cases h0:ss= []
  {
  subst h0;refine(Tryz.strings_Join_none _ c (bs sep) w).mono ?_;rintro e w' ⟨rfl,rfl⟩;exact⟨rfl,Below.refl _ _⟩
  }
  have hpos:0<ss.length:=by cases ss with
    |nil=>exact absurd rfl h0
    |cons x r=>simp
  have:=Tryz.strings_Join b off c ss (bs sep) w (fun j x hx=>by
    obtain ⟨hj,hx⟩:=List.getElem?_eq_some_iff.1 hx;have:=hcell j hj;rw [show ss.getD j ByteArray.empty=x by simp [hj,hx]] at this;exact this) (zah (hcell 0 hpos)) hm hc (by rw [ztl];exact hlen)
  rw [ztl] at this;exact this
  }
end
section
open Go.RowKit
def tl (xs:List Int) (n k:Nat):List ByteArray:=(xs.take k).map (fun x=>bs (Lib.itoa x))++List.replicate (n - k) ByteArray.empty
theorem tl_len (xs:List Int) (n k:Nat) (hn:xs.length=n) (hk:k≤n): (tl xs n k).length=n:=by simp [tl];omega
theorem tl_set {n:Nat} (hn:xs.length=n) (hk:k<xs.length): (tl xs n k).set k (bs (Lib.itoa xs[k]))=tl xs n (k+1):=by
  unfold tl;have hl: ((xs.take k).map (fun x=>bs (Lib.itoa x))).length=k:=by simp;omega
  rw [List.set_append_right _ _ (by omega),hl,Nat.sub_self,List.take_succ_eq_append_getElem hk,List.map_append,show n - k= (n - (k+1))+1 by omega,List.replicate_succ]
  simp
theorem tl_all {n:Nat} (hn:xs.length=n): (tl xs n n).map (·.data.toList)=xs.map Lib.itoa:=by
  unfold tl;rw [List.take_of_length_le (by omega)]
  simp [bs]
theorem zeh (hx: ∀x∈xs,I64 x) (h:xs.length≤64): (wr xs).length≤2000:=by
  have:=wr_len 21 xs (fun x hxm=>Lib.itoa_length_le x (hx x hxm).1 (hx x hxm).2);have:xs.length * 22≤64 * 22:=Nat.mul_le_mul_right _ h;omega
theorem zdp (a:Option Addr) (n c:Nat) (xs:List Int) (w:World) (h:zag w a xs) (hn:xs.length=n) (hx: ∀x∈xs,I64 x) (hs:n≤64) (hT:Tab w):
    Calls Tryz.prog 168 #[.slice a n c] w fun e w' =>e=.returned (.string (bs (wr xs)))∧Below w.heap.size w w' :=by
  have HN:=hide hn;have hmk:=make_strs n w (by omega);have HJ:=hide (fun W (hW:za1 W (some ⟨w.heap.size,0,none⟩) (tl xs n n))=>zot (some ⟨w.heap.size,0,none⟩) n n (tl xs n n) [32] W hW (tl_len xs n n hn (Nat.le_refl _)) (Nat.le_refl _) (by omega) (by
    rw [tl_all hn];have:=zeh hx (by omega);unfold wr at this;omega))
  rw [tl_all hn] at HJ;have h0:Hid (za4 (w.alloc (.cells (svals (List.replicate n ByteArray.empty)).toArray 9)) w.heap.size (tl xs n 0)):=by
    show za4 _ _ _
    unfold za4 tl
    simpa using heap_alloc_last w (.cells (svals (List.replicate n ByteArray.empty)).toArray 9)
  have hw0:Below w.heap.size w (w.alloc (.cells (svals (List.replicate n ByteArray.empty)).toArray 9)):=bA1;clear hn;go_enter Tryz.func168,Tryz.ntmps168;go_wp2_with fail
  go_loopw [11] (fun i wr=>∃k:Nat,k≤n∧i=.int .i64 k∧Below w.heap.size w wr∧Hid (za4 wr w.heap.size (tl xs n k))) (fun i _=>n - (intOf i).toNat)
  case atStart=>exact⟨0,Nat.zero_le _,rfl,hw0,h0⟩
  case round=>
    clear h0 hw0 hmk;obtain ⟨k,hk,rfl,hw,ho⟩:=hrel
    by_cases hlt:k<n
    {
    have h1:=h.below hw
    rcases h1 with rfl| ⟨b0,o0,rfl,hc0⟩
    {
    have:=HN.out
    simp at this
    omega
    }
    have hkx:k<xs.length:=by rw [HN.out];exact hlt
    have e0:=hc0 k hkx;rw [show xs.getD k 0=xs[k] by simp [hkx]] at e0;have hi:=hx xs[k] (List.getElem_mem hkx);have ltw:=ho.out.lt;have HS:=hide (tl_set HN.out hkx);have hTr:=hT.below hw;have HL:=hide (tl_len xs n k HN.out hk);clear hc0;go_wp2_with fail;refine(itoa_any _ hi _ hTr).mono ?_;rintro e w1 ⟨rfl,hb1⟩;have ho1:=hide (ho.out.below hb1 ltw);have hf1:=ho1.out.free k;have hc1:=ho1.out.cell k (by rw [HL.out];exact hlt);have hw1:=bT hw hb1;go_wp2_with fail
    go_roundw
    case rel=>
      refine⟨k+1,by omega,by go_num,hw1.setCell (Nat.le_refl _) _, ?_⟩
      show za4 _ _ _
      rw [←HS.out];exact ho1.out.set k _
    case measure=>simp [intOf];omega
    }
    {
    have hkn:k=n:=by omega
    subst hkn;go_wp2_with fail;refine(zae HJ _ ho.out.isStrs).mono ?_;rintro e w1 ⟨rfl,hb1⟩;go_wp2_with fail;go_ret;exact⟨rfl,(bT hw hb1)⟩
    }
end
end Go.Proofs.YthmekfcgdfckaaaGreatDoor
