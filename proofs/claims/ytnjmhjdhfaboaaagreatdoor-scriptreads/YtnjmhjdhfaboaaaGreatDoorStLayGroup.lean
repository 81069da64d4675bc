import Derived.Test.YtnjmhjdhfaboaaaGreatDoorLayAtGroup
import Derived.Shelf.SlIterI.Nil
set_option maxRecDepth 1000000
set_option maxHeartbeats 4000000
open Nat (le_refl le_trans lt_of_lt_of_le zero_le)
open List
open Go.Proofs.Tryz
namespace Go.Proofs.YtnjmhjdhfaboaaaGreatDoor
open Go.RowKit Go.Maps Go.Sort Go.Shelf dH
theorem Å{p:Prop}(h:p):Go.RowKit.Hid p:=h
theorem Υ{A:Type}(l:List A)(i:Nat)(a:A):l.toArray.setIfInBounds i a=(l.set i a).toArray:=setIfInBounds_toArray ..
theorem Φ{A:Type}{x:A}{l:List A}{i:Nat}{a:A}:(x::l).set (i+1) a=x::l.set i a:=set_cons_succ
theorem Χ{A:Type}{x:A}{l:List A}{a:A}:(x::l).set 0 a=a::l:=set_cons_zero
def OL:Go.Shelf.Ren:=⟨fun|7=>98|10=>143|n=>n,fun|23=>189|26=>3|3=>99|28=>193|0=>0|27=>192|33=>244|4=>4|n=>n,fun|n=>n⟩
theorem aeK:Go.Proofs.SlLaysZI.n7 prog OL:=by constructor<;>first|kernel_rfl|exact λ_=>by kernel_rfl|exact⟨_,nQ,rfl⟩
def Jh:Go.Shelf.Ren:=⟨fun|6=>97|8=>141|9=>142|11=>186|13=>188|12=>187|23=>236|24=>193|14=>227|15=>228|16=>229|17=>230|18=>231|19=>232|20=>233|21=>234|22=>235|25=>271|26=>272|27=>273|28=>274|29=>275|30=>276|31=>292|n=>n,fun|26=>3|28=>193|24=>35|0=>0|3=>3|37=>162|48=>224|50=>91|4=>4|40=>327|39=>326|45=>233|5=>5|9=>9|51=>361|55=>365|57=>388|58=>51|33=>244|n=>n,fun|n=>n⟩
theorem afV:Go.Proofs.SlLaysZI.n6 prog Jh:=by constructor<;>first|kernel_rfl|exact λ_=>by kernel_rfl|exact⟨_,nQ,rfl⟩
def OM:Go.Shelf.Ren:=⟨fun|7=>159|10=>201|n=>n,fun|23=>261|26=>9|3=>262|28=>228|0=>0|27=>227|33=>80|4=>4|n=>n,fun|n=>n⟩
theorem aeL:Go.Proofs.SlLaysZ.n7 prog OM:=by constructor<;>first|kernel_rfl|exact λ_=>by kernel_rfl|exact⟨_,nQ,rfl⟩
def T9:Go.Shelf.Ren:=⟨fun|189=>142|125=>188|257=>187|128=>236|129=>193|294=>227|295=>228|296=>229|297=>230|298=>231|299=>232|216=>233|300=>234|301=>235|328=>271|329=>272|330=>273|331=>274|332=>275|215=>276|343=>292|n=>n,fun|28=>35|3=>3|46=>162|0=>0|51=>224|53=>91|4=>4|183=>327|182=>326|131=>233|5=>5|9=>9|218=>361|222=>365|228=>388|229=>51|n=>n,fun|n=>n⟩
theorem afW:Go.Proofs.Lays.n189 prog T9:=by constructor<;>first|kernel_rfl|exact λ_=>by kernel_rfl|exact⟨_,nQ,rfl⟩
theorem RX(p:Option Addr)(o:Nat)(w:World):
  Calls prog 142 #[.slice p 0 o] w λe w'=>e = .returned (.tuple #[])/\w'=w:=by
 have A:Hid (∀w,Calls prog 227 #[.slice p 0 o,.int .i64 0,.int .i64 0] w λe w'=>e = .returned (.tuple #[])/\w'=w):=λw=>by
  go_enter func227,ntmps227;go_wp2;refine wp_loop_rounds 1 ?_;rw[rounds_succ];go_wp2;go_end0;exact⟨rfl,rfl⟩
 have F:Hid (∀w,Calls prog 187 #[.slice p 0 o,.int .i64 0,.int .i64 0,.int .i64 0] w λe w'=>e = .returned (.tuple #[])/\w'=w):=λw=>by
  go_enter func187,ntmps187;go_wp2;refine wp_loop_rounds 1 ?_;rw[rounds_succ];go_wp2_with fail;refine Calls.mono (A.out _) ?_;rintro e w1 ⟨rfl,z⟩;have q:=z;subst q;go_wp2;refine bodyPost_ret (results_none rfl _ _ _) rfl ?_;exact⟨rfl,rfl⟩
 have D:Hid (∀w,Calls prog 188 #[.int .u64 0] w λe w'=>e = .returned (.int .i64 0)/\w'=w):=λw=>Any.bits_Len MN 0 w fO fO
 go_enter func142,ntmps142;go_wp2_with fail;refine Calls.mono (D.out _) ?_;rintro e w1 ⟨rfl,z⟩;have q:=z;subst q;go_wp2_with fail;refine Calls.mono (F.out _) ?_;rintro e w1 ⟨rfl,z⟩;have q:=z;subst q;go_wp2;go_end0;exact⟨rfl,rfl⟩
theorem ai5(m:Nat):AnyZI.SortsIn prog Jh Fence.wide m:=
 ⟨λblk q o ss W z A D=>callsIn_wide.2 (Any.slices_Sort_int afW blk q o ss W z A D),λp o W=>callsIn_wide.2 (RX p o W)⟩
theorem Ua(o:Option Nat)(W:World):Calls prog 98 #[.map o] W λe w'=>e = .returned (.func (.func 143) #[] #[.pointer (some ⟨W.heap.size,0,none⟩)])/\w'=W.alloc (.cells #[.map o] 189):=
 callsIn_wide.1 (AnyZI.keys_in aeK Fence.wide 5 trivial rfl o W)
theorem Ub(o:Option Nat)(W:World):Calls prog 159 #[.map o] W λe w'=>e = .returned (.func (.func 201) #[] #[.pointer (some ⟨W.heap.size,0,none⟩)])/\w'=W.alloc (.cells #[.map o] 261):=
 callsIn_wide.1 (AnyZ.keys_in aeL Fence.wide 5 trivial rfl o W)
theorem Uc{H:Type}(b A:Nat)(o:DataW H)(R:Value->Option (DataW H×List MemPlace))(w:World)(D:w.ownsMap prog 3 R b A o)(z:Maps.size o<=maxLen)(O:Maps.size o*8<=140737488355328):
  Calls prog 97 #[.func (.func 143) #[] #[.pointer (some ⟨w.heap.size,0,none⟩)]] (w.alloc (.cells #[.map (some b)] 189)) λe w'=>∃(v:Value) (ss:List Int),e = .returned v/\ss.Perm (intKeys o) /\
   w'.ownsRow (w.alloc (.cells #[.map (some b)] 189)).heap.size 3 1 v ss.length ((ss.mergeSort (λx y=>decide (x<=y))).map encZ)/\(v = .slice none 0 0↔ss = [])/\Below (w.alloc (.cells #[.map (some b)] 189)).heap.size (w.alloc (.cells #[.map (some b)] 189)) w':=by
 have K:=D.lt;have Q:SeqGives Fence.wide 2 prog 143 #[.pointer (some ⟨w.heap.size,0,none⟩)] encZ (λss=>ss.Perm (intKeys o)) (Maps.size o) (w.alloc (.cells #[.map (some b)] 189)):=
  AnyZI.keys_gives (ρ:=OL) { aeK with } Fence.wide _ trivial rfl fO w.heap.size b A o _ vI vI (by
   obtain⟨es,q,I,F,J,G⟩:=D;exact⟨es,q,(Below.heap_alloc _ _ b K).trans I,F,J,G⟩)
 exact callsIn_wide.1 (AnyZI.sorted_in afV Fence.wide 5 trivial trivial trivial trivial rfl fO (ai5 _) (enters_of func142 lG rfl) 143 #[.pointer (some ⟨w.heap.size,0,none⟩)] trivial (enters_of func143 lG rfl) _ _ z O _ Q)
theorem Po{H:Type}(b A:Nat)(o:DataW H)(R:Value->Option (DataW H×List MemPlace))(w:World)(D:w.ownsMap prog 9 R b A o)(z:Maps.size o<=maxLen)(O:Maps.size o*16<=140737488355328):
  Calls prog 155 #[.func (.func 201) #[] #[.pointer (some ⟨w.heap.size,0,none⟩)]] (w.alloc (.cells #[.map (some b)] 261)) λe w'=>∃(v:Value) (ss:List (List UInt8)),e = .returned v/\ss.Perm (strKeys o) /\
   w'.ownsRow (w.alloc (.cells #[.map (some b)] 261)).heap.size 9 1 v ss.length ((ss.mergeSort (λx y=>decide (x<=y))).map encStr)/\(v = .slice none 0 0↔ss = [])/\Below (w.alloc (.cells #[.map (some b)] 261)).heap.size (w.alloc (.cells #[.map (some b)] 261)) w':=by
 have K:=D.lt;have Q:SeqGives Fence.wide 2 prog 201 #[.pointer (some ⟨w.heap.size,0,none⟩)] encStr (λss=>ss.Perm (strKeys o)) (Maps.size o) (w.alloc (.cells #[.map (some b)] 261)):=
  AnyZ.keys_gives (ρ:=OM) { aeL with } Fence.wide _ trivial rfl fO w.heap.size b A o _ vI vI (by
   obtain⟨es,q,I,F,J,G⟩:=D;exact⟨es,q,(Below.heap_alloc _ _ b K).trans I,F,J,G⟩)
 exact callsIn_wide.1 (AnyZ.sorted_in Vg Fence.wide 5 trivial trivial trivial trivial rfl fO (aap _) (enters_of func147 lG rfl) 201 #[.pointer (some ⟨w.heap.size,0,none⟩)] trivial (enters_of func201 lG rfl) _ _ z O _ Q)
theorem ac9{w:World}{O R:Nat}{D:DataW Value}(U:w.ownsMap prog 3 fM O R D){q:Int->Bool}(I:∀k,Maps.has D (.int .i64 k)=q k){F:List Int}(o:F.Pairwise (· < ·))(J:∀x,x∈F↔q x=true){ss:List Int}(K:ss.Perm (intKeys D)):ss.mergeSort (λx y=>decide (x<=y))=F/\ss.length=F.length:=by
 have Q:F.Nodup:=o.imp λh e=>fO;have H:CollectedI D (λ_=>false) F:=⟨Q,λx=>by rw[J,I];simp⟩;have z:=K.trans (H.perm U Mx underlying3 λ_=>rfl).symm;refine⟨?_,z.length_eq⟩;refine List.Perm.eq_of_pairwise (le:=λa b:Int=>a<=b) (λa b _ _ A G=>fO) ?_ (o.imp λh=>fO) ((mergeSort_perm ss _).trans z);exact (pairwise_mergeSort (le:=λx y:Int=>decide (x<=y)) (λa b c A G=>by simp only[decide_eq_true_eq] at *;omega) (λa b=>by simp only[Bool.or_eq_true,decide_eq_true_eq];omega) ss).imp λh=>by simpa using h
open aV aD aR bK aU
def aay(ea:Nat->Addr)(w wa:World)(sb hb db:Nat)(S:List Sr)(d:Dk)(Bs:List Bk)(span keep:Int)(G F H:List Nat)(L:List Rw)(e:Ending)(w':World):Prop:=
 ∃v o9 H',e = .returned (.tuple #[.int .i64 ((tu span L (zS span L)).length:Int),v])/\((v = .nilIface/\xK span L (zS span L)=0)\/(v = .iface 397 (.pointer (some (ea 6)))/\xK span L (zS span L)=7))/\fE w w' sb hb db S d (Bs++tu span L (zS span L)) span keep o9 G F H'/\Kept (fB sb G F H) wa w'/\∀x,x∈H'->x∈H\/wa.heap.size<=x
theorem aaz{w wr:World}{D:Nat}{S:List Sr}{G:List Nat}(h:oZ w wr D S G)(F:bV S<=1000)(last:Int):∀r,r∈rJ last S->(∀p,p∈r.2->0<=p.1/\p.1<=1099511627776/\p.2<18446744073709551616)/\r.1.length<=1000/\r.2.length<=1000:=λr K=>by
 obtain⟨k,H,rfl⟩:=mem_map.1 K;obtain⟨l,I,rfl,_⟩:=ig.1 H;obtain⟨_,_,_,_,Q⟩:=h.ex;refine⟨λp J=>?_,Q.len l I,le_trans (length_filter_le _ _) (le_trans (vo S _) F)⟩;obtain⟨A,z⟩:=mem_filter.1 J;simp at z;obtain⟨O,o,q⟩:=Gu A;have:=h.well.Ke O o p q;exact⟨z.1,this.2.1,this.2.2⟩
theorem ai6{L:List Rw}{s f:Int}(hL:∀r,r∈L->(∀p,p∈r.2->0<=p.1/\p.1<=1099511627776/\p.2<18446744073709551616)/\r.1.length<=1000/\r.2.length<=1000):∀r,r∈je s f L->ni r.2/\r.1.length<=1000/\r.2.length<=1000:=λr G=>by
 obtain⟨q,F,rfl,_⟩:=Md G;obtain⟨o,z,A⟩:=hL q F;exact⟨λp D=>by
  have:=o p (mem_filter.1 D).1;omega,z,le_trans (Uq ..) A⟩
theorem ada(s f:Int)(L:List Rw):full (je s f L)=je s f L:=yA λr o=>by
 obtain⟨q,_,_,h⟩:=Md o;exact h
theorem aaA{B:Nat}{ea:Nat->Addr}(w wa:World)(E:MU B ea w)(hB:B<=w.heap.size)(A hb db:Nat)(S:List Sr)(d:Dk)(Bs:List Bk)(o keep:Int)(vB:Value)(G F H:List Nat)(h:fE w wa A hb db S d Bs o keep vB G F H)(hs:1<=o/\o<=100000)(now:Int)(JL : -1099511627776<=now/\now<=1099511627776)(hn:S.length<=900)(hc:bV S<=900)(ŏ:Bs.length<=1000)(L:List Rw)(hL:L=rJ (kJ o now-1) S):
  Calls prog 66 #[.pointer (some ⟨A,0,none⟩),.int .i64 now] wa λe w'=>aay ea w wa A hb db S d Bs o keep G F H L e w':=by
 have Bq:=Å (RG w wa A hb S G o now (ak h.blk 0) (ak h.blk 2) h.hd hs JL fO fO);rw[<-hL] at Bq;have XQ:=aaz h.hd (show bV S<=1000 by omega) (kJ o now-1);rw[<-hL] at XQ;have hLn:L.length<=900:=by
  rw[hL];unfold rJ bZ;rw[length_map,length_map];exact le_trans (length_filter_le _ _) hn
 have qc:=aC h.blk;have HST:=Å h;have HE:=Å E;have GH:=Å XQ;obtain⟨iB,hIB,hB0,χ,ź⟩:=info_parts Tryz.infoBk;have Gf:=Å hIB;have φ:(zS o L).length<=1000000:=by
  have h1:∀l:List Int,(l.foldr qR []).length<=l.length:=λl=>by
   induction l with
   | nil=>exact le_refl _
   | cons a l ih=>
    have h2:∀(x:Int) (m:List Int),(qR x m).length<=m.length+1:=λx m=>by
     induction m with
     | nil=>simp[qR]
     | cons y m ih2=>
      rw[qR];split
      ·simp
      ·split
       ·simp
       ·simp;exact ih2
    exact le_trans (h2 _ _) (by simp;exact ih)
  refine le_trans (h1 _) ?_;have h3:∀l:List Rw,(∀r,r∈l->r.2.length<=1000)->(l.flatMap λr=>r.2.map λp=>kJ o p.1).length<=l.length*1000:=λl=>by
   induction l with
   | nil=>intro _;exact zero_le _
   | cons a l ih=>
    intro h;have h2:=ih λr hr=>h r (mem_cons_of_mem _ hr)
    have h3:=h a (mem_cons_self ..);rw[flatMap_cons,length_append,length_map,length_cons];omega
  have:=h3 L λr hr=>(XQ r hr).2.2
  omega
 clear h E XQ hL hIB;go_enter func66,ntmps66;go_wp2_with fail;refine Calls.mono Bq.out ?_;rintro e w1 ⟨mb,nb,X,sv,rfl,adb,ώ,Ŋ,Ξ⟩;obtain⟨D,Ē,hD2,hD3⟩:=adb.im.map;have Ϣ:=Ē.size_le;have HSI:=Å (Uc mb nb D fM w1 Ē (by unfold maxLen;omega) fO);have Bz:=Å (Ua (some mb) w1);have HD:=Å (And.intro Ē hD2);have qo:=Å adb;have HB1:=Å ώ;clear adb ώ Ē hD2 hD3 Bq;dsimp only
 go_wp2_with fail;refine Calls.mono Bz.out ?_;rintro e w2 ⟨rfl,Æ⟩;subst Æ;dsimp only
 go_wp2_with fail;refine Calls.mono HSI.out ?_;rintro e w3 ⟨v3,ss,rfl,Ű,Ĵ,_,Ϛ⟩;obtain⟨hsrt,Ĕ⟩:=ac9 HD.out.1 HD.out.2 (ags o L) (λx=>G6) Ű;rw[hsrt,Ĕ] at Ĵ;have Ed:=((Below.refl _ _).alloc (le_refl _) _).trans (Ϛ.mono vI);have HP3:=Å (qo.out.below Ed Ŋ);have HB3:=Å (HB1.out.trans (Ed.mono HB1.out.size));obtain⟨a3,c3,rfl⟩:=bA Ĵ;obtain⟨Y,RY⟩:=bE (zS o L);obtain⟨n,ϛ⟩:=bE Y.length;have Lv:=Å RY;have HN:=Å ϛ;rw[<-RY,<-ϛ] at Ĵ;rw[<-RY,<-ϛ];rw[<-RY,<-ϛ] at φ;have Ñ:wa.heap.size<=(w1.alloc (.cells #[.map (some mb)] 189)).heap.size:=by
  have:=HB1.out.size;simp
  omega
 have K3:=Å (iA Ĵ Ñ);have H0:Hid (fE w w3 A hb db S d (Bs++(Y.take 0).map λf=>(f,o,je o f L)) o keep vB G F H):=by
  have:=HST.out.same (HST.out.aI.trans (HB3.out.mono HST.out.aI.size)) (λx Z=>HB3.out.block x (HST.out.lt Z).2);show fE _ _ _ _ _ _ _ _ _ _ _ _ _ _;simpa using this
 clear Ű Ĵ Ϛ hsrt Ĕ Ed RY ϛ qo HB1 HD HSI Bz Ñ;dsimp only
 go_wp2_with fail;go_loopw [6,19] (λmd ii wr=>∃(k:Nat) (o9:Value) (H':List Nat),k<=n/\md = .int .i64 (k:Int)/\ii = .int .i64 (k:Int)/\fE w wr A hb db S d (Bs++(Y.take k).map λf=>(f,o,je o f L)) o keep o9 G F H'/\wG A w3 wr/\Kept (fB A G F H) wa wr/\(∀x,x∈H'->x∈H\/wa.heap.size<=x)/\∀f,f∈Y.take k->kG f o (je o f L)=0) (λ_ ii _=>n-(intOf ii).toNat);case atStart=>exact⟨0,vB,H,zero_le _,rfl,rfl,H0.out,wG.refl _ _,Kept.of_below HB3.out,λx Z=>.inl Z,λf hf=>by simp at hf⟩
 case round=>
  obtain⟨k,o9,H',hk,rfl,rfl,ϖ,Ğ,Ł,hH',ķ⟩:=hrel;clear H0;have AU:=Å ϖ;have Ls:=Å Ğ;have AB:=Å Ł;have HH':=Å hH';have HGD:=Å ķ;by_cases ϥ:k<n
  ·have BP:k<Y.length:=by rw[<-HN.out];exact ϥ
   obtain⟨f,hf⟩:=bE (Y[k]);have π:=HP3.out.akL Ğ qc Ŋ;have hko:wr.ownsRow wa.heap.size 3 1 (.slice a3 n c3) n (Y.map encZ):=Ğ.own K3.out nQ qc;obtain⟨g3,e3,ĭ⟩:∃g3,a3=some ⟨g3,0,none⟩/\wr.cell? ⟨g3,k,none⟩=some (.int .i64 f):=by
    rcases hko.2 with⟨_,J⟩|⟨g,cap,cur,hv,_,hh,_,_,hs,hc⟩
    ·omega
    ·injection hv with hv;refine⟨g,hv,?_⟩;have e1:wr.cell? ⟨g,k,none⟩=cur[k]?:=by simp[World.cell?,hh]
     have e2:cur[k]? = (cur.toList.take (n*1))[k]?:=by rw[List.getElem?_take_of_lt fO];simp
     rw[e1,e2,hc,hf];simp[BP,encZ]
   subst e3;have Í:uz o L f=true:=by rw[hf];exact G6.1 (Lv.out ▸ getElem_mem BP)
   obtain⟨M,hM⟩:=bE (je o f L);have Ϝ:=π.im.row f Í;have Ŗ:=π.rows f Í;rw[<-hM] at Ŗ;obtain⟨a6,c6,Ť,hrp⟩:=xE (show wr.ownsRow wa.heap.size 104 2 (sv f) M.length (X f) by rw[hM];exact Ϝ) Ŗ;obtain⟨r,hr,ai9⟩:=any_eq_true.1 Í;obtain⟨p0,ŀ,ı⟩:=any_eq_true.1 ai9;have UY:0<=f/\f<=1099511627776:=by
    have h1:=(GH.out r hr).1 p0 ŀ;have h2:=G5 (s:=o) (t:=p0.1) fO h1.1;rw[of_decide_eq_true ı] at h2;omega
   have HMi:Hid (∀r,r∈M->ni r.2/\r.1.length<=1000/\r.2.length<=1000):=by
    rw[hM];exact ai6 GH.out
   have Ň:full M=M:=by rw[hM];exact ada ..
   have hMn:M.length<=1000:=by rw[hM];exact le_trans (Ur ..) fO
   have gY:Hid (∀z,Below wr.heap.size wr z->z.cell? ⟨A,2,none⟩=some (.int .i64 o)/\(Instr.lookup 189 (.map (some mb)) (.int .i64 f) false).run prog z = .ok (.slice a6 M.length c6) z):=λz J=>by
    refine⟨ak ((J.block _ (aC ϖ.blk)).trans ϖ.blk) 2,?_⟩;have:=π.im.look underlying189 RD f fO z (J.block _ π.im.lt);rw[wR,if_pos Í,Ť] at this;exact this
   have Dg:Hid (∀z,Below wr.heap.size wr z->Calls prog 99 #[.int .i64 f,.int .i64 o,.slice a6 M.length c6] z λe z'=>∃p q O Q V W R U v3,e = .returned (.tuple #[.agg #[.int .i64 p,.int .i64 q,.slice O V R,.slice Q W U],v3])/\Below wr.heap.size wr z'/\Below z.heap.size z z'/\Lx ea wr z' f o M p q (.slice O V R) (.slice Q W U) v3):=λz J=>by
    have Gt:=ϖ.aI.trans (J.mono ϖ.aI.size);refine (K7 z (HE.out.k.below Gt hB) (le_trans hB Gt.size) f o a6 c6 _ (hrp.below J) HMi.out hMn).mono ?_;intro e z' hmo;obtain⟨v3,wP,vJ,⟨h0,u1,u2,rfl,o1,o2⟩|⟨h0,rfl⟩⟩:=hmo
    ·have h2:=J.trans (wP.mono J.size);rw[Ň] at o1 o2;have o1':=gD o1 J.size;have o2':=gD o2 J.size;obtain⟨ua,uc,rfl⟩:=bA o1;obtain⟨ub,ud,rfl⟩:=bA o2;exact⟨_,_,_,_,_,_,_,_,_,rfl,h2,wP,h2,vJ,.inl ⟨h0,rfl,rfl,o1',o2'⟩⟩
    ·have h2:=J.trans (wP.mono J.size);exact⟨_,_,_,_,_,_,_,_,_,rfl,h2,wP,h2,vJ,.inr ⟨h0,rfl,rfl,rfl,rfl⟩⟩
   obtain⟨lm,hlm⟩:=bE M.length;rw[<-hlm] at gY Dg;have HFM:=Å (And.intro hf (And.intro hM (And.intro hlm BP)));have HB0:Hid (Below wr.heap.size wr wr.drew):=dz (Below.refl _ _);have k0:(0:Int)<=k:=fO;have k1:(k:Int)<n:=fO;clear ϖ Ğ Ł hH' ķ hf π hko Í hM Ϝ Ŗ Ť hrp hr ai9 ŀ ı Ň hlm;go_upto_region 6 with fail;clear ĭ;go_cut [10,11] from 23 to 34 (λv10 v11 wz=>Es ea wr wz f o M v11 v10);case first=>
    refine eU (S:=λz=>z.cell? ⟨A,2,none⟩=some (.int .i64 o)/\(Instr.lookup 189 (.map (some mb)) (.int .i64 f) false).run prog z = .ok (.slice a6 lm c6) z) lG 13 (gY.out _ HB0.out) (λϊ=>?_);refine bJ 0 24 (.int .i64 f) ϊ rfl rfl ?_ ?_
    ·intro w _;go_simp
    try simp only[Act.put,Υ,Φ,Χ]
    refine bJ 1 25 (.pointer (some ⟨A,0,none⟩)) ϊ rfl rfl ?_ ?_
    ·intro w _;go_simp
    try simp only[Act.put,Υ,Φ,Χ]
    refine bJ 2 26 (.pointer (some ⟨A,0,none⟩)) ϊ rfl rfl ?_ ?_
    ·intro w _;go_simp
    try simp only[Act.put,Υ,Φ,Χ]
    refine bJ 3 27 (.pointer (some ⟨A,2,none⟩)) ϊ rfl rfl ?_ ?_
    ·intro w _;go_simp
    try simp only[Act.put,Υ,Φ,Χ]
    refine iF 4 28 (.int .i64 o) ϊ rfl rfl ?_ ?_
    ·intro w ϡ;obtain⟨iY,iZ⟩:=ϡ;go_simp
    try simp only[Act.put,Υ,Φ,Χ]
    refine bJ 5 29 (.map (some mb)) ϊ rfl rfl ?_ ?_
    ·intro w _;go_simp
    try simp only[Act.put,Υ,Φ,Χ]
    refine bJ 6 30 (.int .i64 f) ϊ rfl rfl ?_ ?_
    ·intro w _;go_simp
    refine iF 7 31 (.slice a6 lm c6) ϊ rfl rfl ?_ ?_
    ·intro w ϡ;obtain⟨iY,iZ⟩:=ϡ;go_simp
    refine bU (rs:=[8,12]) lG vI ?_;refine aM.cons rfl (λK I=>?_) (aM.cons rfl (λK I=>?_) aM.nil)
    ·go_simp
     refine Calls.mono (Dg.out _ HB0.out) ?_;rintro e w5 ⟨p,q,O,Q,V,W,R,U,v3,rfl,ć,hs5,Ă⟩;refine I.out _ _ (gY.out _ ć) ?_;refine bJ 9 23 (.tuple #[.agg #[.int .i64 p,.int .i64 q,.slice O V R,.slice Q W U],v3]) (gY.out _ ć) rfl rfl ?_ ?_
     ·intro w _;go_simp
     refine bJ 10 33 (.agg #[.int .i64 p,.int .i64 q,.slice O V R,.slice Q W U]) (gY.out _ ć) rfl rfl ?_ ?_
     ·intro w _;go_simp
     refine bJ 11 34 v3 (gY.out _ ć) rfl rfl ?_ ?_
     ·intro w _;go_simp
     refine lV 12 rfl λK I=>?_
     go_simp
     refine I.out _ _ (gY.out _ (bQ ć (.cells #[.int .i64 0,.int .i64 0,.slice none 0 0,.slice none 0 0] 114))) ?_;have ė:(w5.alloc (.cells #[.int .i64 0,.int .i64 0,.slice none 0 0,.slice none 0 0] 114)).heap[w5.heap.size]? = some (.cells #[.int .i64 0,.int .i64 0,.slice none 0 0,.slice none 0 0] 114 (0,0)):=heap_alloc_new _ _;have qM:wr.heap.size<=w5.heap.size:=ć.size;have j0:=ak ė 0;have j1:=ak ė 1;have j2:=ak ė 2;have j3:=ak ė 3;simp at j0 j1 j2 j3;have jf:∀k,World.frozen? (w5.alloc (.cells #[.int .i64 0,.int .i64 0,.slice none 0 0,.slice none 0 0] 114)) ⟨w5.heap.size,k,none⟩=false:=λk=>aA ė k
     refine nX 13 rfl λK I=>?_
     have Di:=Å (show Es ea wr _ f o M v3 _ from ⟨_,p,q,O,Q,V,W,R,U,rfl,heap_alloc_new _ _,qM,Ă.below (bQ (Below.refl _ _) _)⟩);go_simp
     refine I.out _ _ ?_;refine nX 14 rfl λK I=>?_
     go_simp
     refine I.out _ _ ?_;refine dA lG ?_ _;go_wp2_with fail;go_meet;case rel=>exact Di.out
    ·go_simp
     refine I.out _ _ (gY.out _ (bQ HB0.out (.cells #[.int .i64 0,.int .i64 0,.slice none 0 0,.slice none 0 0] 114))) ?_;have ė:(wr.drew.alloc (.cells #[.int .i64 0,.int .i64 0,.slice none 0 0,.slice none 0 0] 114)).heap[wr.heap.size]? = some (.cells #[.int .i64 0,.int .i64 0,.slice none 0 0,.slice none 0 0] 114 (0,0)):=heap_alloc_new _ _;have qM:wr.heap.size<=wr.heap.size:=le_refl _;refine lV 8 rfl λK I=>?_
     go_simp
     refine Calls.mono (Dg.out _ (bQ HB0.out (.cells #[.int .i64 0,.int .i64 0,.slice none 0 0,.slice none 0 0] 114))) ?_;rintro e w5 ⟨p,q,O,Q,V,W,R,U,v3,rfl,ć,hs5,Ă⟩;refine I.out _ _ (gY.out _ ć) ?_;have AV:=(hs5.block _ (aC ė)).trans ė;refine bJ 9 23 (.tuple #[.agg #[.int .i64 p,.int .i64 q,.slice O V R,.slice Q W U],v3]) (gY.out _ ć) rfl rfl ?_ ?_
     ·intro w _;go_simp
     refine bJ 10 33 (.agg #[.int .i64 p,.int .i64 q,.slice O V R,.slice Q W U]) (gY.out _ ć) rfl rfl ?_ ?_
     ·intro w _;go_simp
     refine bJ 11 34 v3 (gY.out _ ć) rfl rfl ?_ ?_
     ·intro w _;go_simp
     have j0:=ak AV 0;have j1:=ak AV 1;have j2:=ak AV 2;have j3:=ak AV 3;simp at j0 j1 j2 j3;have jf:∀k,World.frozen? w5 ⟨wr.heap.size,k,none⟩=false:=λk=>aA AV k
     refine nX 13 rfl λK I=>?_
     have Di:=Å (show Es ea wr _ f o M v3 _ from ⟨_,p,q,O,Q,V,W,R,U,rfl,_root_.Go.Proofs.YtnjmhjdhfaboaaaGreatDoor.uK AV _ _ _ _,qM,Ă.uK AV qM _ _ _ _⟩);go_simp
     refine I.out _ _ ?_;clear I K;try simp only[Act.put,Υ,Φ,Χ]
     refine nX 14 rfl λK I=>?_
     go_simp
     refine I.out _ _ ?_;clear I K;try simp only[Act.put,Υ,Φ,Χ]
     refine dA lG ?_ _;clear j0 j1 j2 j3 jf;go_wp2_with fail;go_meet;case rel=>exact Di.out
   obtain⟨jb,p,q,O,Q,V,W,R,U,rfl,hj,qM,Ă⟩:=hcut;have JO:=Ă.OC;by_cases J:kG f o M=0
   ·obtain rfl:=JO.none J;obtain⟨vs,ϭ,pq,fP,è⟩:=AU.out.vg.ex;have ϖ:=AU.out;obtain⟨aB,cB,rfl⟩:=bA fP;obtain⟨nB,wH⟩:=bE ((Bs++(Y.take k).map λf=>(f,o,je o f L)).length);have arR:nB<=2000000:=by
     rw[wH,length_append,length_map,length_take];omega
    rw[<-wH] at fP;have HJZ:=Å Ă;have Jf:Hid (∀z,Below wc.heap.size wc z->z.cell? ⟨A,4,none⟩=some (.slice aB nB cB)/\z.cell? ⟨jb,0,none⟩=some (.int .i64 p)/\z.cell? ⟨jb,1,none⟩=some (.int .i64 q)/\z.cell? ⟨jb,2,none⟩=some (.slice O V R)/\z.cell? ⟨jb,3,none⟩=some (.slice Q W U)):=λz J=>by
     have e0:=(J.block _ (by have:=aC ϖ.blk;have:=Ă.aI.size;omega)).trans ((Ă.aI.block _ (aC ϖ.blk)).trans ϖ.blk);rw[<-wH] at e0;have e1:=(J.block _ (aC hj)).trans hj;exact⟨ak e0 4,ak e1 0,ak e1 1,ak e1 2,ak e1 3⟩
    have Ø:Below wc.heap.size wc wc.drew:=dz (Below.refl _ _);have HW5:Hid (Below wr.heap.size wr (wc.drew.alloc (.cells #[.int .i64 p,.int .i64 q,.slice O V R,.slice Q W U] 114))):=Ă.aI.trans ((bQ Ø _).mono Ă.aI.size);have lJ:Hid ((wc.drew.alloc (.cells #[.int .i64 p,.int .i64 q,.slice O V R,.slice Q W U] 114)).ownsRow w.heap.size 114 4 (.slice aB nB cB) nB (bM (Bs++(Y.take k).map λf=>(f,o,je o f L)) vs)):=aX fP HW5.out;have iV:Hid (∀i z,([.int .i64 p,.int .i64 q,.slice O V R,.slice Q W U]:List Value)[i]? = some z->(wc.drew.alloc (.cells #[.int .i64 p,.int .i64 q,.slice O V R,.slice Q W U] 114)).cell? ((⟨wc.heap.size,0,none⟩:Addr).add i)=some z):=World.news_of_block (heap_alloc_new wc.drew _);have kH:Hid (∀z∈([.int .i64 p,.int .i64 q,.slice O V R,.slice Q W U]:List Value),z.oneCell'=true):=by
     intro z J;simp at J;rcases J with rfl|rfl|rfl|rfl<;>rfl
    have Zg:Hid (w.heap.size<=(wc.drew.alloc (.cells #[.int .i64 p,.int .i64 q,.slice O V R,.slice Q W U] 114)).heap.size):=le_trans ϖ.aI.size HW5.out.size;have sU:Hid (p=f/\q=o/\wc.ownsRow wr.heap.size 9 1 (.slice O V R) M.length ((M.map Prod.fst).map encStr)/\wc.ownsRow wr.heap.size 9 1 (.slice Q W U) M.length ((M.map λr=>dU r.2).map encStr)):=by
     rcases Ă.res with h|h
     ·exact h.2
     ·exact absurd J h.1
    have pK:=Å (And.intro ϭ (And.intro pq (And.intro fP (And.intro è wH))));have IJ:=Å (And.intro qM (aC hj));have HZ:=Å J;clear ϭ pq fP è ϖ wH hj qM Ă JO J;go_upto_region 9 with fail;refine eU (S:=λz=>z.cell? ⟨A,4,none⟩=some (.slice aB nB cB)/\z.cell? ⟨jb,0,none⟩=some (.int .i64 p)/\z.cell? ⟨jb,1,none⟩=some (.int .i64 q)/\z.cell? ⟨jb,2,none⟩=some (.slice O V R)/\z.cell? ⟨jb,3,none⟩=some (.slice Q W U)) lG 10 (Jf.out _ Ø) (λϊ=>?_);refine bJ 0 39 (.pointer (some ⟨A,0,none⟩)) ϊ rfl rfl ?_ ?_
    ·intro w _;go_simp
    try simp only[Act.put,Υ,Φ,Χ]
    refine bJ 1 40 (.pointer (some ⟨A,0,none⟩)) ϊ rfl rfl ?_ ?_
    ·intro w _;go_simp
    try simp only[Act.put,Υ,Φ,Χ]
    refine bJ 2 41 (.pointer (some ⟨A,0,none⟩)) ϊ rfl rfl ?_ ?_
    ·intro w _;go_simp
    try simp only[Act.put,Υ,Φ,Χ]
    refine bJ 3 42 (.pointer (some ⟨A,4,none⟩)) ϊ rfl rfl ?_ ?_
    ·intro w _;go_simp
    try simp only[Act.put,Υ,Φ,Χ]
    refine iF 4 43 (.slice aB nB cB) ϊ rfl rfl ?_ ?_
    ·intro w ϡ;obtain⟨iY,iZ,kg,lg,oh⟩:=ϡ;go_simp
    try simp only[Act.put,Υ,Φ,Χ]
    refine iF 5 44 (.agg #[.int .i64 p,.int .i64 q,.slice O V R,.slice Q W U]) ϊ rfl rfl ?_ ?_
    ·intro w ϡ;obtain⟨iY,iZ,kg,lg,oh⟩:=ϡ;go_simp
    try simp only[Act.put,Υ,Φ,Χ]
    refine lV 6 rfl λK I=>?_
    go_simp
    refine I.out _ _ (Jf.out _ (bQ Ø _)) ?_;clear I K;try simp only[Act.put,Υ,Φ,Χ]
    refine lV 7 rfl λK I=>?_
    refine step_append_lies _ (by rfl) _ _ 111 (by rfl) w.heap.size 114 iB (.agg #[.int .i64 0,.int .i64 0,.slice none 0 0,.slice none 0 0]) 4 64 underlying111 Gf.out hB0 χ ź rfl nQ _ _ _ (by rfl) lJ.out ⟨wc.heap.size,0,none⟩ 1 1 [.int .i64 p,.int .i64 q,.slice O V R,.slice Q W U] (by rfl) rfl iV.out kH.out fO (by unfold maxLen;omega) fO Zg.out _ rfl ?_;intro g7 dR w7 bR eu qb _;obtain⟨ϭ,pq,fP,è,wH⟩:=pK.out;have ade:∀x,(Value.slice aB nB cB).ownBlock=some x->x<wr.heap.size:=λx Z=>(aH fP Z).2.1
    have JN:=(eu.block A (lt_of_lt_of_le (aC AU.out.blk) HW5.out.size) λe=>AU.out.sH (by rw[pq,<-wH,<-e];simp)).trans ((bQ Ø _).block A (lt_of_lt_of_le (aC AU.out.blk) HJZ.out.aI.size));have JQ:=(eu.block jb (lt_of_lt_of_le IJ.out.2 (bQ Ø _).size) λe=>by have:=ade jb e.symm;have:=IJ.out.1;omega).trans ((bQ Ø _).block jb IJ.out.2);have Ũ:∀b i,w7.heap[b]? = wc.heap[b]? -> w7.cell? ⟨b,i,none⟩=wc.cell? ⟨b,i,none⟩:=λb i h=>by simp[World.cell?,h]
    have ĝ:=Jf.out wc (Below.refl _ _);have sJ:Hid ((λz:World=>z.cell? ⟨A,4,none⟩=some (.slice aB nB cB)/\z.cell? ⟨jb,0,none⟩=some (.int .i64 p)/\z.cell? ⟨jb,1,none⟩=some (.int .i64 q)/\z.cell? ⟨jb,2,none⟩=some (.slice O V R)/\z.cell? ⟨jb,3,none⟩=some (.slice Q W U)) w7):=⟨(Ũ _ _ JN).trans ĝ.1,(Ũ _ _ JQ).trans ĝ.2.1,(Ũ _ _ JQ).trans ĝ.2.2.1,(Ũ _ _ JQ).trans ĝ.2.2.2.1,(Ũ _ _ JQ).trans ĝ.2.2.2.2⟩;have z4:=sJ.out.1;have zf:=aA (JN.trans ((HJZ.out.aI.block _ (aC AU.out.blk)).trans AU.out.blk)) 4;have aQ:Hid (∃GD,fE w (w7.setCell ⟨A,4,none⟩ (.slice (some ⟨g7,0,none⟩) (nB+1) dR)) A hb db S d (Bs++(Y.take (k+1)).map λf=>(f,o,je o f L)) o keep (.slice (some ⟨g7,0,none⟩) (nB+1) dR) G F GD/\wG A w3 (w7.setCell ⟨A,4,none⟩ (.slice (some ⟨g7,0,none⟩) (nB+1) dR))/\Kept (fB A G F H) wa (w7.setCell ⟨A,4,none⟩ (.slice (some ⟨g7,0,none⟩) (nB+1) dR))/\(∀x,x∈GD->x∈H\/wa.heap.size<=x)/\∀f,f∈Y.take (k+1)->kG f o (je o f L)=0):=by
     obtain⟨r1,r2,r3,r4⟩:=sU.out;obtain⟨e1,e2,_,e4⟩:=HFM.out;rw[r1,r2,wH] at bR;rw[wH] at eu qb fP ade;obtain⟨GD,q1,q2,q3⟩:=AU.out.lay HW5.out ϭ pq è fP (f,o,M) (.slice O V R) (.slice Q W U) (aX r3 (bQ Ø _)) (aX r4 (bQ Ø _)) bR eu qb;have et:Y.take (k+1)=Y.take k ++ [f]:=by rw[take_succ_eq_append_getElem e4,e1]
     rw[wH];refine⟨GD,?_,Ls.out.kept q2 λx Z=>?_,AB.out.trans q2 λx Z=>?_,λx Z=>?_,λg hg=>?_⟩
     ·rw[et,map_append,<-append_assoc];show fE w _ A hb db S d (_ ++ [(f,o,je o f L)]) o keep _ G F GD;rw[<-e2];exact q1
     ·rcases mem_cons.1 Z with h|h
      ·exact .inl h
      ·obtain⟨_,_,cur,hc'⟩:=aH fP (show _=some x by simpa using h);exact .inr ⟨cur,_,hc'⟩
     ·rcases mem_cons.1 Z with h|h
      ·exact .inl (bY.2 (.inl h))
      ·rcases HH'.out x (by rw[pq];exact mem_append.2 (.inl h)) with h1|h1
       ·exact .inl (bY.2 (.inr (.inr (.inr h1))))
       ·exact .inr h1
     ·rcases q3 x Z with h|h
      ·exact HH'.out x h
      ·exact .inr (le_trans AB.out.size h)
     ·rw[et] at hg;rcases mem_append.1 hg with h|h
      ·exact HGD.out g h
      ·obtain rfl:=mem_singleton.1 h;rw[<-e2];exact HZ.out
    clear bR eu qb ϭ pq fP è wH ade JN JQ Ũ ĝ;refine I.out _ _ sJ.out ?_;clear I K;refine bJ 8 47 (.pointer (some ⟨A,0,none⟩)) sJ.out rfl rfl ?_ ?_
    ·intro w _;go_simp
    refine bJ 9 48 (.pointer (some ⟨A,4,none⟩)) sJ.out rfl rfl ?_ ?_
    ·intro w _;go_simp
    refine nX 10 rfl λK I=>?_
    go_simp
    refine I.out _ _ ?_;refine dA lG ?_ _;obtain⟨GD,q1,q2,q3,q4,q5⟩:=aQ.out;have HQ:=Å (And.intro q1 (And.intro q2 (And.intro q3 (And.intro q4 q5))));go_wp2;go_roundw;case rel=>exact⟨k+1,_,GD,fO,by go_num,by go_num,HQ.out.1,HQ.out.2.1,HQ.out.2.2.1,HQ.out.2.2.2.1,HQ.out.2.2.2.2⟩
    case measure=>simp[intOf]<;>omega
   ·obtain⟨tv,pv,rfl⟩:=lY JO J;have aQ:Hid (fE w wc A hb db S d (Bs++(Y.take k).map λf=>(f,o,je o f L)) o keep o9 G F H'/\Kept (fB A G F H) wa wc/\Below wr.heap.size wr wc):=⟨AU.out.below Ă.aI,AB.out.trans (Kept.of_below (S:=[]) Ă.aI) (λx Z=>by cases Z),Ă.aI⟩;have hg6:=(HE.out.a.h.below aQ.out.1.aI hB).c6;have HZ:=Å J;go_wp2_with fail;go_quiet (fail);go_wp2;go_ret2;obtain⟨e1,e2,_,e4⟩:=HFM.out;have ek:zS o L=Y.take k++f::Y.drop (k+1):=by
     rw[<-Lv.out,e1,getElem_cons_drop,take_append_drop]
    obtain⟨b1,b2⟩:=RO (gs:=Y.drop (k+1)) (show kG f o (je o f L)≠0 by rw[<-e2];exact HZ.out) HGD.out;have el:((tu o L (zS o L)).length:Int)=(k:Int):=by
     rw[ek,b1,length_map,length_take];omega
    refine⟨.iface 397 (.pointer (some (ea 6))),o9,H',by rw[el];rfl,?_,?_,aQ.out.2.1.trans (Kept.of_below (S:=[]) (below_draws (Below.refl _ _) _)) (λx Z=>by cases Z),HH'.out⟩
    ·rw[ek,b2];exact .inr ⟨rfl,rfl⟩
    ·rw[ek,b1];exact aQ.out.1.below (below_draws (Below.refl _ _) _)
  ·obtain rfl:k=n:=fO;have jr:Y.take k=Y:=by rw[HN.out];exact take_length
   rw[jr] at ϖ ķ;obtain⟨b1,b2⟩:=OD ķ;have aQ:=Å (And.intro ϖ (And.intro Ł hH'));have jJ:=Å (And.intro b1 b2);go_wp2;go_ret2;obtain⟨b1,b2⟩:=jJ.out;have el:((tu o L (zS o L)).length:Int)=(k:Int):=by
    rw[<-Lv.out,b1,length_map,HN.out]
   refine⟨.nilIface,o9,H',by rw[el];rfl,?_,?_,aQ.out.2.1,aQ.out.2.2⟩
   ·rw[<-Lv.out,b2];exact .inl ⟨rfl,rfl⟩
   ·rw[<-Lv.out,b1];exact aQ.out.1
def Ji(span now:Int)(S:List Sr):List Rw:=rJ (kJ span now-1) S
noncomputable def Fa(span now:Int)(S:List Sr):List Bk:=tu span (Ji span now S) (zS span (Ji span now S))
noncomputable def LG(span now:Int)(S:List Sr):Int:=xK span (Ji span now S) (zS span (Ji span now S))
noncomputable def wX(span now:Int)(S:List Sr)(Bs:List Bk):List Sr:=sO (xJ (Bs++Fa span now S)) S
noncomputable def AX(span now:Int)(S:List Sr)(Bs:List Bk)(keep:Nat):List Bk:=(Bs++Fa span now S).drop ((Bs++Fa span now S).length-keep)
noncomputable def GI(span now:Int)(S:List Sr)(Bs:List Bk):List E:=fF (rJ 1099511627776 (wX span now S Bs))
noncomputable def OO(span now:Int)(S:List Sr)(d:Dk)(Bs:List Bk):Dk:=OE (GI span now S Bs) d
noncomputable def yI(span now:Int)(S:List Sr)(d:Dk)(Bs:List Bk):Int:=if LG span now S≠0 then 7 else Jg (GI span now S Bs) d
noncomputable def Jj(span now:Int)(S:List Sr)(d:Dk)(Bs:List Bk):Int:=if LG span now S≠0 then -1 else RQ (GI span now S Bs) d
noncomputable def AY(span now:Int)(S:List Sr)(d:Dk)(Bs:List Bk):Int:=if yI span now S d Bs≠0 then 0 else ((Fa span now S).length:Int)
theorem XR(s:Int)(L:List Rw):∀o,xK s L o=0\/xK s L o=7
 | []=>.inl rfl
 | f::o=>by
  rw[xK];split
  ·exact XR s L o
  ·exact .inr rfl
theorem LH:∀(es:List E) (d:Dk),0<=(oK es d).2.1
 | [],_=>Int.le_refl _
 | e::es,d=>by
  rw[oK];split
  ·rename_i h;exact Int.le_of_lt h
  ·exact LH es _
theorem XT(es:List E)(d:Dk):0<=Jg es d:=by
 unfold Jg;split
 ·decide
 ·exact LH es _
theorem JR{s:Int}{L:List Rw}:∀ {o:List Int} {b:Bk},b∈tu s L o->∃f,f∈o/\b=(f,s,je s f L)/\kG f s (je s f L)=0
 | [],_,h=>by cases h
 | f::o,b,h=>by
  rw[tu] at h;split at h
  ·rename_i q;rcases mem_cons.1 h with rfl|h
   ·exact⟨f,mem_cons_self ..,rfl,q⟩
   ·obtain⟨g,z,r⟩:=JR h;exact⟨g,mem_cons_of_mem _ z,r⟩
  ·cases h
theorem RZ(s:Int)(L:List Rw):∀o,(tu s L o).length<=o.length
 | []=>le_refl _
 | f::o=>by
  rw[tu];split
  ·simp only[length_cons];have:=RZ s L o;omega
  ·exact zero_le _
theorem aja{w wr:World}{q:Nat}{S:List Sr}{G:List Nat}(h:oZ w wr q S G)(H:bV S<=1000){o now:Int}(O:1<=o/\o<=100000):∀b,b∈Fa o now S->0<=b.1/\b.1<=1099511627776/\b.2.1=o:=λb q=>by
 obtain⟨f,I,rfl,_⟩:=JR q;obtain⟨r,K,A⟩:=any_eq_true.1 (G6.1 I);obtain⟨p,J,D⟩:=any_eq_true.1 A;have F:=(aaz h H _ r K).1 p J;have z:=G5 (s:=o) (t:=p.1) fO F.1;rw[of_decide_eq_true D] at z;exact⟨z.1,by show f<=_;omega,rfl⟩
def aeO(ea:Nat->Addr)(w wa:World)(sb hb db:Nat)(S:List Sr)(d:Dk)(Bs:List Bk)(span:Int)(keep:Nat)(G F H:List Nat)(N C A:Int)(e:Ending)(w':World):Prop:=
 ∃v o9 G' F' H',e = .returned (.tuple #[.int .i64 N,v])/\aL ea w' v C A/\fE w w' sb hb db S d Bs span (keep:Int) o9 G' F' H'/\Kept (fB sb G F H) wa w'/\∀x,x∈fB sb G' F' H'->x∈fB sb G F H\/wa.heap.size<=x
theorem R3(t:Int)(S:List Sr):(sO t S).length=S.length:=by unfold sO;exact length_map _
theorem Et(t:Int):∀(S:List Sr),bV (sO t S)<=bV S
 | []=>le_refl _
 | l::S=>by
  have o:=Et t S;have q:=Yp t l.pts;unfold sO bV at *;simp only[map_cons,sum_cons];omega
theorem Ud{B:Nat}{ea:Nat->Addr}(w Q:World)(E0:MU B ea w)(hB:B<=w.heap.size)(q A J:Nat)(S:List Sr)(d:Dk)(Bs:List Bk)(o:Int)(keep:Nat)(vB:Value)(G F H:List Nat)(h:fE w Q q A J S d Bs o (keep:Int) vB G F H)(hs:1<=o/\o<=100000)(hk:1<=keep/\keep<=1000)(now:Int)(JL : -1099511627776<=now/\now<=1099511627776)(hn:S.length<=900)(hc:bV S<=900)(ŏ:(Bs++Fa o now S).length<=1000)(ϻ:∀b,b∈Bs -> -1099511627776<=b.1/\b.1<=1099511627776/\0<=b.2.1/\b.2.1<=1099511627776):
  Calls prog 42 #[.pointer (some ⟨q,0,none⟩),.int .i64 now] Q λe w'=>aeO ea w Q q A J (wX o now S Bs) (OO o now S d Bs) (AX o now S Bs keep) o keep G F H (AY o now S d Bs) (yI o now S d Bs) (Jj o now S d Bs) e w':=by
 have d1:decide (now < -1099511627776)=false:=decide_eq_false fO;have d2:decide (1099511627776<now)=false:=decide_eq_false fO;have aol:Bs.length<=1000:=by rw[length_append] at ŏ;omega
 have HLY:=Å (aaA w Q E0 hB q A J S d Bs o (keep:Int) vB G F H h hs now JL hn hc aol (Ji o now S) rfl);have hmi:=aja (now:=now) h.hd (show bV S<=1000 by omega) hs;obtain⟨I,R4⟩:=bE (Bs++Fa o now S);have W:∀b,b∈I -> -1099511627776<=b.1/\b.1<=1099511627776/\0<=b.2.1/\b.2.1<=1099511627776:=λb A=>by
  rw[R4] at A;rcases mem_append.1 A with h1|h1
  ·exact ϻ b h1
  ·have:=hmi b h1;omega
 obtain⟨n1,Ú⟩:=bE ((Fa o now S).length);have hlo:∀e w',aay ea w Q q A J S d Bs o (keep:Int) G F H (Ji o now S) e w'->∃v o9 H',e = .returned (.tuple #[.int .i64 (n1:Int),v])/\((v = .nilIface/\LG o now S=0)\/(v = .iface 397 (.pointer (some (ea 6)))/\LG o now S=7))/\fE w w' q A J S d I o (keep:Int) o9 G F H'/\Kept (fB q G F H) Q w'/\∀x,x∈H'->x∈H\/Q.heap.size<=x:=λe w' hl=>by
  rw[R4,Ú];exact hl
 have Vl:=Å hlo;have HE:=Å E0;have HI1:=Å W;have CF:=Å (And.intro R4 Ú);rw[<-R4] at ŏ;have BJ:=Å h;clear h E0 ϻ hmi R4 Ú W hlo;go_enter func42,ntmps42;go_wp2_with fail;refine Calls.mono HLY.out ?_;intro e w1 hlo1;obtain⟨v1,vB1,H1,rfl,ã,wD,ϓ,hH1⟩:=Vl.out e w1 hlo1;obtain⟨X,hX⟩:=bE (LG o now S);rw[<-hX] at ã;have y0:=ak wD.blk 0;simp at y0;have MV:=Å wD;have BF:=Å ã;have dK:=Å (And.intro ϓ hH1);have HX:=Å hX;have tJ:Hid (∀z,Below w1.heap.size w1 z->Calls prog 68 #[.pointer (some ⟨q,0,none⟩)] z λe Y=>e = .returned (.int .i64 (xJ I))/\Y.cell? ⟨q,0,none⟩=some (.pointer (some ⟨A,0,none⟩))/\Below w1.heap.size w1 Y):=λz hz=>by
  refine (Ow w z q A J S d I o (keep:Int) vB1 G F H1 (MV.out.below hz) ŏ HI1.out).mono ?_;rintro e Y ⟨rfl,hb'⟩;have h2:=hz.trans (hb'.mono hz.size);exact⟨rfl,ak (MV.out.below h2).blk 0,h2⟩
 have HCU:Hid (∀z,Below w1.heap.size w1 z->Calls prog 67 #[.pointer (some ⟨A,0,none⟩),.int .i64 (xJ I)] z λe Y=>∃r v,e = .returned (.tuple #[r,v])/\Y.cell? ⟨q,0,none⟩=some (.pointer (some ⟨A,0,none⟩))/\∃G',fE w Y q A J (sO (xJ I) S) d I o (keep:Int) vB1 G' F H1/\Kept G w1 Y/\∀x,x∈G'->x∈G\/w1.heap.size<=x):=λz hz=>by
  have Ϣ:=MV.out.below hz;refine (ah6 w z (HE.out.a.h.below Ϣ.aI hB) hB Ϣ.aI.size A S G Ϣ.hd fO fO (xJ I)).mono ?_;rintro e Y ⟨G',q1,q2,q3,q4⟩;have η:=Ϣ.head q1 q2 q3;have Ç:=(Kept.of_below (S:=G) hz).trans q2 λx D=>.inl D
  have ϫ:∀x,x∈G'->x∈G\/w1.heap.size<=x:=λx D=>(q3 x D).imp id λh=>le_trans hz.size h
  rcases q4 with⟨_,rfl⟩|⟨_,r,xs,rfl,_,_⟩
  ·exact⟨_,_,rfl,ak η.blk 0,G',η,Ç,ϫ⟩
  ·exact⟨_,_,rfl,ak η.blk 0,G',η,Ç,ϫ⟩
 have Ŧ:Below w1.heap.size w1 w1.drew:=dz (Below.refl _ _);go_wp2_with fail;go_region_held3 (λz=>z.cell? ⟨q,0,none⟩=some (.pointer (some ⟨A,0,none⟩))) (go_keep) ((first|(go_at_call 68;refine Calls.mono (tJ.out _ Ŧ) ?_;rintro e w2 ⟨rfl,y0,Ś⟩)|(go_at_call 67;refine Calls.mono (HCU.out _ Ś) ?_;rintro e w3 ⟨r3,v3,rfl,y0,U⟩)));obtain⟨G3,U,ę,hg3⟩:=U;have HS3:=Å U;have yw:=Å (And.intro ę hg3);have wO:=Å (RP w w3 q A J (sO (xJ I) S) d I o keep vB1 G3 F H1 U hk fO);go_wp2_with fail;refine Calls.mono wO.out ?_;rintro e w4 ⟨rfl,vB4,H4,O,ř,hH4⟩;have z0:=ak O.blk 0;have z1:=ak O.blk 1;simp at z0 z1;obtain⟨Z,R⟩:=bE (sO (xJ I) S);rw[<-R] at O;have hn4:Z.length<=1000:=by rw[R,R3];omega
 have Ń:bV Z<=1000:=by rw[R];have:=Et (xJ I) S;omega
 have HAN:=Å (XI w w4 HE.out.a hB q A J Z d (I.drop (I.length-keep)) o (keep:Int) vB4 G3 F H4 O hn4 Ń (rJ 1099511627776 Z) rfl);have HS4:=Å (And.intro R (And.intro O (And.intro ř hH4)));go_wp2_with fail;refine Calls.mono HAN.out ?_;rintro e w5 ⟨v5,F5,rfl,Vm,hs5,hk5,hF5⟩;have sW:Hid (∀v,aL ea w5 v (yI o now S d Bs) (Jj o now S d Bs)->aeO ea w Q q A J (wX o now S Bs) (OO o now S d Bs) (AX o now S Bs keep) o keep G F H (AY o now S d Bs) (yI o now S d Bs) (Jj o now S d Bs) (.returned (.tuple #[.int .i64 (AY o now S d Bs),v])) w5):=λv hv=>by
  obtain⟨e1,q1,q2,q3⟩:=HS4.out;obtain⟨b1,b2⟩:=CF.out;have ģ:fE w w5 q A J (wX o now S Bs) (OO o now S d Bs) (AX o now S Bs keep) o (keep:Int) vB4 G3 F5 H4:=by
   unfold OO GI AX wX;rw[<-b1,<-e1];exact hs5
  have m1:∀x,x∈H1->x∈fB q G F H\/Q.heap.size<=x:=λx D=>(dK.out.2 x D).imp (λh=>bY.2 (.inr (.inr (.inr h)))) id
  have m3:∀x,x∈G3->x∈fB q G F H\/Q.heap.size<=x:=λx D=>(yw.out.2 x D).imp (λh=>bY.2 (.inr (.inl h))) λh=>le_trans dK.out.1.size h
  have m4:∀x,x∈H4->x∈fB q G F H\/Q.heap.size<=x:=λx D=>by
   rcases q3 x D with h|h
   ·exact m1 x h
   ·exact .inr (le_trans (le_trans dK.out.1.size yw.out.1.size) h)
  refine⟨v,vB4,G3,F5,H4,rfl,hv,ģ,((dK.out.1.trans yw.out.1 λx D=>.inl (bY.2 (.inr (.inl D)))).trans q2 λx D=>.inl (bY.2 (.inl (mem_singleton.1 D)))).trans hk5 λx D=>.inl (bY.2 (.inr (.inr (.inl D)))),λx D=>?_⟩;rcases bY.1 D with rfl|h|h|h
  ·exact .inl (bY.2 (.inl rfl))
  ·exact m3 x h
  ·rcases hF5 x h with h2|h2
   ·exact .inl (bY.2 (.inr (.inr (.inl h2))))
   ·exact .inr (le_trans (le_trans (le_trans dK.out.1.size yw.out.1.size) q2.size) h2)
  ·exact m4 x h
 obtain⟨C5,hC5⟩:=bE (Jg (fF (rJ 1099511627776 Z)) d);obtain⟨A5,LJ⟩:=bE (RQ (fF (rJ 1099511627776 Z)) d);rw[<-hC5,<-LJ] at Vm;have HCA:Hid (GI o now S Bs=fF (rJ 1099511627776 Z)):=by
  show _=_;unfold GI wX;rw[HS4.out.1,CF.out.1]
 have hn5:0<=C5:=by rw[hC5];exact XT _ _
 have HC5:=Å (And.intro hC5 LJ);rcases BF.out with⟨ā,ī⟩|⟨ā,hX7⟩
 ·subst ā;have K:yI o now S d Bs=C5/\Jj o now S d Bs=A5:=by
   have h0:LG o now S=0:=by rw[<-HX.out];exact ī
   unfold yI Jj;rw[if_neg (by simp[h0]),if_neg (by simp[h0]),HCA.out,HC5.out.1,HC5.out.2];exact⟨rfl,rfl⟩
  by_cases ò:C5=0
  ·obtain rfl:=Vm.none ò;have V:Hid (AY o now S d Bs=(n1:Int)/\aL ea w5 .nilIface (yI o now S d Bs) (Jj o now S d Bs)):=by
    refine⟨?_,.inl ⟨rfl,by rw[K.1];exact ò⟩⟩;unfold AY;rw[if_neg (by rw[K.1];simp[ò]),CF.out.2]
   go_wp2;go_ret2;have:=sW.out _ V.out.2;rw[V.out.1] at this ⊢;exact this
  ·obtain⟨tv,pv,rfl⟩:=lY Vm ò;have V:Hid (AY o now S d Bs=0/\aL ea w5 (.iface tv (.pointer (some pv))) (yI o now S d Bs) (Jj o now S d Bs)):=by
    refine⟨?_,by rw[K.1,K.2];exact Vm⟩;unfold AY;rw[if_pos (by rw[K.1];exact ò)]
   go_wp2;go_ret2;have:=sW.out _ V.out.2;rw[V.out.1] at this ⊢;exact this
 ·subst ā;have V:Hid (AY o now S d Bs=0/\aL ea w5 (.iface 397 (.pointer (some (ea 6)))) (yI o now S d Bs) (Jj o now S d Bs)):=by
   have h0:LG o now S≠0:=by rw[<-HX.out,hX7];decide
   have h7:yI o now S d Bs=7:=by unfold yI;rw[if_pos h0]
   have h8:Jj o now S d Bs = -1:=by unfold Jj;rw[if_pos h0]
   refine⟨?_,by rw[h7,h8];exact .es 6 nQ nQ⟩;unfold AY;rw[if_pos (by rw[h7];decide)]
  go_wp2;go_ret2;have:=sW.out _ V.out.2;rw[V.out.1] at this ⊢;exact this
theorem Ue{ea:Nat->Addr}(w:World)(z:Nat)(A:w.cell? ⟨0,0,none⟩=some (.iface 397 (.pointer (some (ea 1)))))(now:Int)(h:now < -1099511627776\/1099511627776<now):
  Calls prog 42 #[.pointer (some ⟨z,0,none⟩),.int .i64 now] w λe w'=>e = .returned (.tuple #[.int .i64 0,.iface 397 (.pointer (some (ea 1)))])/\Below w.heap.size w w':=by
 by_cases o:now < -1099511627776
 ·have q:decide (now < -1099511627776)=true:=decide_eq_true o;go_enter func42,ntmps42;go_wp2_with fail;go_quiet (fail);go_wp2;go_ret2;exact⟨rfl,below_draws (Below.refl _ _) _⟩
 ·have q:decide (now < -1099511627776)=false:=decide_eq_false o;have D:=decide_eq_true fO;go_enter func42,ntmps42;go_wp2_with fail;go_quiet (fail);go_wp2;go_ret2;exact⟨rfl,below_draws (Below.refl _ _) _⟩
def AZ(x:List UInt8):List (List UInt8)->List (List UInt8)
 | []=>[x]
 | y::l=>if x<y then x::y::l else if x=y then y::l else y::AZ x l
theorem JU{x z:List UInt8}:∀ {l:List (List UInt8)},z∈AZ x l↔z=x\/z∈l
 | []=>by simp[AZ]
 | y::l=>by
  rw[AZ];by_cases h:x<y
  ·rw[if_pos h];simp
  ·rw[if_neg h];by_cases e:x=y
   ·rw[if_pos e];subst e;simp
   ·rw[if_neg e,mem_cons,JU,mem_cons];constructor
    ·rintro (h|h|h)
     ·exact .inr (.inl h)
     ·exact .inl h
     ·exact .inr (.inr h)
    ·rintro (h|h|h)
     ·exact .inr (.inl h)
     ·exact .inl h
     ·exact .inr (.inr h)
theorem Vn{x:List UInt8}:∀ {l:List (List UInt8)},l.Pairwise (· < ·)->(AZ x l).Pairwise (· < ·)
 | [],_=>by simp[AZ]
 | y::l,h=>by
  obtain⟨q,A⟩:=pairwise_cons.1 h;rw[AZ];by_cases g:x<y
  ·rw[if_pos g];refine pairwise_cons.2 ⟨λz o=>?_,h⟩;rcases mem_cons.1 o with rfl|o
   ·exact g
   ·exact List.lt_trans g (q z o)
  ·rw[if_neg g];by_cases e:x=y
   ·rw[if_pos e];exact h
   ·rw[if_neg e];refine pairwise_cons.2 ⟨λz o=>?_,Vn A⟩;rcases JU.1 o with rfl|o
    ·exact tri e g
    ·exact q z o
def tC(l:List (List UInt8)):List (List UInt8):=l.foldr AZ []
theorem JV{z:List UInt8}:∀ {l:List (List UInt8)},z∈tC l↔z∈l
 | []=>by simp[tC]
 | x::l=>by rw[tC,foldr_cons,JU,<-tC,JV,mem_cons]
theorem Vo:∀(l:List (List UInt8)),(tC l).Pairwise (· < ·)
 | []=>List.Pairwise.nil
 | x::l=>by rw[tC,foldr_cons];exact Vn (Vo l)
def oL(Bs:List Bk):List (List UInt8):=Bs.flatMap λb=>b.2.2.map Prod.fst
def Dj(S:List Sr)(Bs:List Bk):List (List UInt8):=tC (oL Bs++bZ S)
def qd(wr:World)(mb nb:Nat)(l:List (List UInt8)):Prop:=∃D,wr.ownsMap prog 9 fM mb nb D/\∀k,Maps.has D (.string k)=decide (k∈l)
theorem qd.lt{wr:World}{o z:Nat}{l:List (List UInt8)}(h:qd wr o z l):o<wr.heap.size:=by
 obtain⟨D,q,_⟩:=h;exact q.lt
theorem qd.same{wr w':World}{o q:Nat}{l:List (List UInt8)}(h:qd wr o q l)(F:w'.heap[o]? = wr.heap[o]?):qd w' o q l:=by
 obtain⟨D,z,A⟩:=h;exact⟨D,jm z F,A⟩
theorem qd.put{wr:World}{q z:Nat}{l:List (List UInt8)}(h:qd wr q z l)(s:ByteArray)(G:s.size<=1000)(Q:z<4000000):
  ∃o,(Instr.mapUpdate 261 (.map (some q)) (.string s) (.agg #[])).run prog wr = .ok () o/\qd o q (z+1) (l ++ [s.data.toList])/\Kept [q] wr o:=by
 obtain⟨D,F,H⟩:=h;obtain⟨o,K,J,O⟩:=F.update qE underlying261 (show z<maxLen by unfold maxLen;omega) (vT s G) (val:=.agg #[]) (d:=.held (.agg #[])) (ps:=[]) rfl;have I:=qE.key (vT s G);refine⟨o,K,⟨_,J,λk=>?_⟩,Kept.grown O λk A=>by injection A with A;rw[A];exact mem_singleton.2 rfl⟩;by_cases e:s.data.toList=k
 ·subst e;rw[has_put_same F.isMap I];simp
 ·rw[has_put_other (λh=>e (by injection h with h;exact h.symm)),H];refine decide_eq_decide.2 ⟨λh=>mem_append.2 (.inl h),λh=>?_⟩;rcases mem_append.1 h with h|h
  ·exact h
  ·exact absurd (mem_singleton.1 h).symm e
theorem qd.sorted{wr:World}{J K:Nat}{l:List (List UInt8)}{D:DataW Value}(o:wr.ownsMap prog 9 fM J K D)(q:∀k,Maps.has D (.string k)=decide (k∈l)){ss:List (List UInt8)}(I:ss.Perm (strKeys D)):ss.mergeSort (λx y=>decide (x<=y))=tC l/\ss.length=(tC l).length:=by
 have F:=Vo l;have Q:(tC l).Nodup:=F.imp fun {a b} A e=>absurd (e ▸ A) (List.lt_irrefl _)
 have H:Collected D (λ_=>false) (tC l):=⟨Q,λx=>by rw[q x,JV];simp⟩;have G:=I.trans (H.perm o qE underlying9 λ_=>rfl).symm;refine⟨?_,G.length_eq⟩;have O:∀a b c:List UInt8,leB a b=true->leB b c=true->leB a c=true:=λa b c o q=>by simp only[leB,decide_eq_true_eq] at *;exact List.le_trans o q
 have z:∀a b:List UInt8,(leB a b||leB b a)=true:=λa b=>by simp only[leB,Bool.or_eq_true,decide_eq_true_eq];exact List.le_total a b
 refine List.Perm.eq_of_pairwise (le:=λa b=>leB a b=true) (λa b _ _ o q=>?_) (pairwise_mergeSort O z ss) (F.imp fun {a b} A=>by simp only[leB,decide_eq_true_eq];exact List.le_of_lt A) ((mergeSort_perm ss leB).trans G);simp only[leB,decide_eq_true_eq] at o q;exact List.le_antisymm o q
theorem aaC(w o:World)(sb hb db:Nat)(S:List Sr)(d:Dk)(Bs:List Bk)(span keep:Int)(vB:Value)(G F H:List Nat)(h:fE w o sb hb db S d Bs span keep vB G F H)(hn:Bs.length<=1000)(hl:∀b,b∈Bs->b.2.2.length<=1000/\∀r,r∈b.2.2->r.1.length<=1000)(Zi:S.length<=1000):
  Calls prog 114 #[.pointer (some ⟨sb,0,none⟩)] o λe w'=>∃v,e = .returned v/\w'.ownsRow o.heap.size 9 1 v (Dj S Bs).length ((Dj S Bs).map encStr)/\Below o.heap.size o w':=by
 obtain⟨vs,ϭ,_,fP,è⟩:=h.vg.ex;obtain⟨aB,cB,hvB⟩:=bA fP;subst hvB;obtain⟨n,ϛ⟩:=bE Bs.length;obtain⟨W1,â⟩:=bE (o.alloc (.map #[] 0));have Ϗ:Below o.heap.size o W1:=by rw[â];exact (Below.refl _ _).alloc (le_refl _) _
 have hmm:=@run_makeMap prog;have x4:W1.cell? ⟨sb,4,none⟩=some (.slice aB n cB):=by rw[ϛ];exact ak ((Ϗ.block _ (aC h.blk)).trans h.blk) 4
 rw[<-ϛ] at fP hn;have Vi:=Å fP;have Qk:=Å è;have OH:=Å (And.intro ϛ ϭ);have CB:=Å hl;have BJ:=Å h;have HW1:=Å â;have bN:=Å Ϗ;have H0:Hid (qd W1 o.heap.size 0 (oL (Bs.take 0))):=by
  rw[â];exact⟨.map [],World.ownsMap_made o _ _ _,λ_=>rfl⟩
 have HSM:Hid (∀k,(oL (Bs.take k)).length<=k*1000):=λk=>by
  have z:∀l:List Bk,(∀b,b∈l->b.2.2.length<=1000)->(oL l).length<=l.length*1000:=λl=>by
   induction l with
   | nil=>intro _;exact zero_le _
   | cons a l ih=>
    intro h;have h2:=ih λr hr=>h r (mem_cons_of_mem _ hr)
    have h3:=h a (mem_cons_self ..);show (oL (a::l)).length<=_;unfold oL at *;rw[flatMap_cons,length_append,length_map,length_cons];omega
  refine le_trans (z _ λb hb=>(hl b (mem_of_mem_take hb)).1) ?_;exact Nat.mul_le_mul_right _ (length_take_le ..)
 clear h fP è ϛ ϭ hl â Ϗ;go_enter func114,ntmps114;go_upto_region 2 with fail;rw[<-HW1.out];go_wp2_with fail;go_loopw [16] (λi wr=>∃(k A:Nat),k<=n/\i = .int .i64 (k:Int)/\qd wr o.heap.size A (oL (Bs.take k))/\A=(oL (Bs.take k)).length/\Below o.heap.size o wr) (λi _=>n-(intOf i).toNat);case atStart=>exact⟨0,0,zero_le _,rfl,H0.out,rfl,bN.out⟩
 case round=>
  obtain⟨wk,hwk⟩:=bE wr;subst hwk;obtain⟨k,A,hk,rfl,ż,Ξ,Ϙ⟩:=hrel;have y8:=Å ż;have bq:=Å Ϙ;by_cases ϥ:k<n
  ·obtain⟨ϛ,ϭ⟩:=OH.out;have Ź:k<Bs.length:=fO;obtain⟨g,p1,t1,p2,t2,rfl,y0,y1,y2,y3,r1,r2⟩:=GA Vi.out ϛ ϭ Qk.out Ϙ k Ź;obtain⟨f,hf⟩:=bE (Bs[k].1);obtain⟨s,hs⟩:=bE (Bs[k].2.1);obtain⟨m,I⟩:=bE (Bs[k].2.2.length);obtain⟨J,ť⟩:=bE (Bs[k].2.2.map Prod.fst);rw[<-hf] at y0;rw[<-hs] at y1;rw[<-I] at y2 y3;rw[<-ť,<-I] at r1;have Ī:m=J.length:=by rw[ť,length_map,I]
   have aje:∀x,x∈J->x.length<=1000:=λx z=>by
    rw[ť] at z;obtain⟨r,hr,rfl⟩:=mem_map.1 z;exact (CB.out _ (getElem_mem Ź)).2 r hr
   have Ĝ:m<=1000:=by rw[I];exact (CB.out _ (getElem_mem Ź)).1
   obtain⟨W,hW⟩:=bE (wk.alloc (.cells #[.int .i64 f,.int .i64 s,.slice p1 m t1,.slice p2 m t2] 114));have Ϗ:Below wk.heap.size wk W:=by rw[hW];exact (Below.refl _ _).alloc (le_refl _) _
   have vC:W.heap[wk.heap.size]? = some (.cells #[.int .i64 f,.int .i64 s,.slice p1 m t1,.slice p2 m t2] 114 (0,0)):=by rw[hW];exact heap_alloc_new _ _
   have z2:=ak vC 2;simp at z2;have HW:Hid (∀wx,wx=wk.alloc (.cells #[.int .i64 f,.int .i64 s,.slice p1 m t1,.slice p2 m t2] 114)->wx=W):=λwx h=>h.trans hW.symm
   have aom:=Å Ϗ;have HR1:=Å (aX r1 Ϗ);have KR:Hid (qd W o.heap.size (A+0) (oL (Bs.take k)++J.take 0)):=by
    rw[take_zero,append_nil];exact ż.same (Ϗ.block _ ż.lt)
   have iH:=Å (And.intro ť (And.intro Ī (And.intro Ź aje)));have lS:=Å (Ϙ.trans (Ϗ.mono Ϙ.size));have ajf:=ż.lt;have k0:(0:Int)<=k:=fO;have k1:(k:Int)<n:=fO;clear ż Ϙ hf hs I ť Ī aje hW Ϗ vC r1 r2 ϛ ϭ;go_upto_region 5 with fail;rw[HW.out _ rfl];go_wp2_with fail;go_loopw [23] (λj wr=>∃q,q<=m/\j = .int .i64 (q:Int)/\qd wr o.heap.size (A+q) (oL (Bs.take k)++J.take q)/\Kept [o.heap.size] W wr) (λj _=>m-(intOf j).toNat);case atStart=>exact⟨0,zero_le _,rfl,KR.out,Kept.refl _ _⟩
   case round=>
    obtain⟨q,hq,rfl,Y,Ğ⟩:=hrel;by_cases Q:q<m
    ·have R5:q<J.length:=by rw[<-iH.out.2.1];exact Q
     obtain⟨V,Z,U⟩:=zJ HR1.out q R5 Q;subst Z;obtain⟨R,Ü⟩:=bE (⟨(J[q]).toArray⟩:ByteArray);rw[<-Ü] at U;have O:V≠o.heap.size:=λe=>by
      obtain⟨D,⟨es,clock,I,_⟩,_⟩:=y8.out;have z:=(aom.out.block _ ajf).trans I;rw[e] at U;simp[World.cell?,z] at U
     have Ŏ:=World.block_lt_of_cell? W ⟨V,_,none⟩ U;have y0:wr.cell? ⟨V,q,none⟩=some (.string R):=by
      have z:=Ğ.block V Ŏ (by simpa using O);rw[<-U];simp[World.cell?,z]
     have á:R.size<=1000:=by
      have e:R.size=J[q].length:=by rw[Ü];simp[ByteArray.size]
      rw[e];exact iH.out.2.2.2 _ (getElem_mem R5)
     have ac0:A+q<4000000:=by
      have:=HSM.out k;have:k*1000<=1000000:=fO;omega
     obtain⟨w6,ϩ,R6,OG⟩:=Y.put R á ac0;have K:Hid (qd w6 o.heap.size (A+(q+1)) (oL (Bs.take k)++J.take (q+1))/\Kept [o.heap.size] W w6):=by
      refine⟨?_,Ğ.trans OG λx hx=>.inl hx⟩;have Z:R.data.toList=J[q]:=by rw[Ü]
      rw[take_succ_eq_append_getElem R5,<-append_assoc,<-Z];exact R6
     have q0:(0:Int)<=q:=fO;have q1:(q:Int)<m:=fO;clear Y Ğ R6 OG Ü U O Ŏ á;go_wp2;go_roundw;case rel=>exact⟨q+1,fO,by go_num,K.out.1,K.out.2⟩
     case measure=>simp[intOf]<;>omega
    ·obtain rfl:q=m:=fO;have K:Hid (qd wr o.heap.size (A+q) (oL (Bs.take (k+1)))/\A+q=(oL (Bs.take (k+1))).length/\Below o.heap.size o wr):=by
      obtain⟨z,h2,h3,_⟩:=iH.out;have Z:oL (Bs.take (k+1))=oL (Bs.take k)++J:=by
       rw[take_succ_eq_append_getElem h3,z];unfold oL;rw[flatMap_append];simp
      have jr:J.take q=J:=by rw[h2];exact take_length
      rw[jr] at Y;rw[Z];refine⟨Y,by rw[length_append,<-Ξ,<-h2],lS.out.trans (Ğ.below lS.out.size λx hx=>by rw[mem_singleton.1 hx];exact le_refl _)⟩
     go_wp2;go_roundw;case rel=>exact⟨k+1,A+q,fO,by go_num,K.out.1,K.out.2.1,K.out.2.2⟩
     case measure=>simp[intOf]<;>omega
  ·obtain rfl:k=n:=fO;have jr:Bs.take k=Bs:=by rw[OH.out.1];exact take_length
   rw[jr] at ż Ξ;have ϖ:=BJ.out.same (BJ.out.aI.trans (Ϙ.mono BJ.out.aI.size)) λx hx=>Ϙ.block x (BJ.out.lt hx).2
   have z0:=ak ϖ.blk 0;simp at z0;have qJ:=Å (Gp w wk hb S G ϖ.hd Zi);have QZ:=Å (And.intro ż Ξ);have arS:A<=1000000:=by have:=HSM.out k;rw[jr] at this;omega
   go_wp2_with fail;refine Calls.mono qJ.out ?_;rintro e w3 ⟨v3,rfl,Ϛ,Ĵ⟩;obtain⟨a5,Oy,rfl⟩:=bA Ĵ;obtain⟨N,hN⟩:=bE (bZ S);obtain⟨m,I⟩:=bE N.length;rw[<-hN,<-I] at Ĵ;rw[<-hN,<-I];have Ĝ:m<=1000:=by
    rw[I,hN];exact le_trans (by unfold bZ;rw[length_map];exact length_filter_le _ _) Zi
   have hNs:∀x,x∈N->x.length<=1000:=λx z=>by
    rw[hN] at z;obtain⟨l,hl,Ù,_⟩:=ig.1 z;obtain⟨_,_,_,_,É⟩:=BJ.out.hd.ex;have h2:=É.len l hl;rw[Ù] at h2;exact h2
   have HR3:=Å Ĵ;have HB3:=Å Ϛ;have KR:Hid (qd w3 o.heap.size (A+0) (oL Bs++N.take 0)):=by
    rw[take_zero,append_nil];exact QZ.out.1.same (Ϛ.block _ QZ.out.1.lt)
   have iH:=Å (And.intro hN (And.intro I hNs));have ajf:=QZ.out.1.lt;clear Ϛ Ĵ hN I hNs qJ z0;go_wp2_with fail;go_loopw [39] (λj wr=>∃q,q<=m/\j = .int .i64 (q:Int)/\qd wr o.heap.size (A+q) (oL Bs++N.take q)/\Kept [o.heap.size] w3 wr) (λj _=>m-(intOf j).toNat);case atStart=>exact⟨0,zero_le _,rfl,KR.out,Kept.refl _ _⟩
   case round=>
    obtain⟨q,hq,rfl,Y,Ğ⟩:=hrel;by_cases Q:q<m
    ·have R5:q<N.length:=by rw[<-iH.out.2.1];exact Q
     obtain⟨V,Z,U⟩:=zJ HR3.out q R5 Q;subst Z;obtain⟨R,Ü⟩:=bE (⟨(N[q]).toArray⟩:ByteArray);rw[<-Ü] at U;have Ŏ:=World.block_lt_of_cell? w3 ⟨V,_,none⟩ U;have O:V≠o.heap.size:=λe=>by
      have z:=(aH HR3.out (show Value.ownBlock _=some V from rfl)).1;omega
     have y0:wr.cell? ⟨V,q,none⟩=some (.string R):=by
      have z:=Ğ.block V Ŏ (by simpa using O);rw[<-U];simp[World.cell?,z]
     have á:R.size<=1000:=by
      have e:R.size=N[q].length:=by rw[Ü];simp[ByteArray.size]
      rw[e];exact iH.out.2.2 _ (getElem_mem R5)
     obtain⟨w6,ϩ,R6,OG⟩:=Y.put R á fO;have K:Hid (qd w6 o.heap.size (A+(q+1)) (oL Bs++N.take (q+1))/\Kept [o.heap.size] w3 w6):=by
      refine⟨?_,Ğ.trans OG λx hx=>.inl hx⟩;have Z:R.data.toList=N[q]:=by rw[Ü]
      rw[take_succ_eq_append_getElem R5,<-append_assoc,<-Z];exact R6
     have q0:(0:Int)<=q:=fO;have q1:(q:Int)<m:=fO;clear Y Ğ R6 OG Ü U O Ŏ á;go_wp2;go_roundw;case rel=>exact⟨q+1,fO,by go_num,K.out.1,K.out.2⟩
     case measure=>simp[intOf]<;>omega
    ·obtain rfl:q=m:=fO;have jr:N.take q=N:=by rw[iH.out.2.1];exact take_length
     rw[jr,iH.out.1] at Y;obtain⟨D,Ē,hD2⟩:=Y;have Y:=Ē.size_le;have Û:Below o.heap.size o wr:=by
      have z:=bq.out.trans (HB3.out.mono bq.out.size);exact z.trans (Ğ.below z.size λx hx=>by rw[mem_singleton.1 hx];exact le_refl _)
     have LK:=Å (Po o.heap.size (A+q) D fM wr Ē (by unfold maxLen;omega) fO);have Lv:=Å (Ub (some o.heap.size) wr);have HD:=Å (And.intro Ē (And.intro hD2 Û));go_wp2_with fail;refine Calls.mono Lv.out ?_;rintro e w7 ⟨rfl,hw7⟩;subst hw7;go_wp2_with fail;refine Calls.mono LK.out ?_;rintro e w8 ⟨v8,ss,rfl,Ű,ho8,_,hb8⟩;obtain⟨hsrt,Ĕ⟩:=qd.sorted HD.out.1 HD.out.2.1 Ű;rw[hsrt,Ĕ] at ho8;have K:Hid (w8.ownsRow o.heap.size 9 1 v8 (Dj S Bs).length ((Dj S Bs).map encStr)/\Below o.heap.size o w8):=by
      have z:o.heap.size<=(wr.alloc (.cells #[.map (some o.heap.size)] 261)).heap.size:=by
       have:=HD.out.2.2.size;simp
       omega
      refine⟨iA ho8 z,(HD.out.2.2.trans ?_).trans (hb8.mono z)⟩;exact ((Below.refl _ _).alloc (le_refl _) _).mono HD.out.2.2.size
     go_wp2;go_ret;exact⟨v8,rfl,K.out.1,K.out.2⟩
end Go.Proofs.YtnjmhjdhfaboaaaGreatDoor
