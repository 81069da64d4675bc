import Derived.Test.YtnjmhjdhfaboaaaGreatDoorWQ
import Derived.Shelf.SlIterI.Nil
set_option maxRecDepth 1000000
set_option maxHeartbeats 4000000
open Nat (le_refl le_trans lt_of_lt_of_le zero_le)
open List
open Go.Proofs.Tryz
namespace Go.Proofs.YtnjmhjdhfaboaaaGreatDoor
open Go.RowKit Go.Maps Go.Sort Go.Shelf dF
theorem Ç{p:Prop}(h:p):Go.RowKit.Hid p:=h
theorem Ω{A:Type}(l:List A)(i:Nat)(a:A):l.toArray.setIfInBounds i a=(l.set i a).toArray:=setIfInBounds_toArray ..
theorem aeE{A:Type}{x:A}{l:List A}{i:Nat}{a:A}:(x::l).set (i+1) a=x::l.set i a:=set_cons_succ
theorem aeF{A:Type}{x:A}{l:List A}{a:A}:(x::l).set 0 a=a::l:=set_cons_zero
def OD:Go.Shelf.Ren:=⟨fun|7=>98|10=>143|n=>n,fun|23=>189|26=>3|3=>99|28=>193|0=>0|27=>192|33=>244|4=>4|n=>n,fun|n=>n⟩
theorem aeX:Go.Proofs.SlLaysZI.n7 prog OD:=by constructor<;>first|kernel_rfl|exact λ_=>by kernel_rfl|exact⟨_,lJ,rfl⟩
def Jj:Go.Shelf.Ren:=⟨fun|6=>97|8=>141|9=>142|11=>186|13=>188|12=>187|23=>236|24=>193|14=>227|15=>228|16=>229|17=>230|18=>231|19=>232|20=>233|21=>234|22=>235|25=>271|26=>272|27=>273|28=>274|29=>275|30=>276|31=>292|n=>n,fun|26=>3|28=>193|24=>35|0=>0|3=>3|37=>162|48=>224|50=>91|4=>4|40=>327|39=>326|45=>233|5=>5|9=>9|51=>361|55=>365|57=>388|58=>51|33=>244|n=>n,fun|n=>n⟩
theorem agf:Go.Proofs.SlLaysZI.n6 prog Jj:=by constructor<;>first|kernel_rfl|exact λ_=>by kernel_rfl|exact⟨_,lJ,rfl⟩
def OE:Go.Shelf.Ren:=⟨fun|7=>159|10=>201|n=>n,fun|23=>261|26=>9|3=>262|28=>228|0=>0|27=>227|33=>80|4=>4|n=>n,fun|n=>n⟩
theorem aeY:Go.Proofs.SlLaysZ.n7 prog OE:=by constructor<;>first|kernel_rfl|exact λ_=>by kernel_rfl|exact⟨_,lJ,rfl⟩
def Ux:Go.Shelf.Ren:=⟨fun|189=>142|125=>188|257=>187|128=>236|129=>193|294=>227|295=>228|296=>229|297=>230|298=>231|299=>232|216=>233|300=>234|301=>235|328=>271|329=>272|330=>273|331=>274|332=>275|215=>276|343=>292|n=>n,fun|28=>35|3=>3|46=>162|0=>0|51=>224|53=>91|4=>4|183=>327|182=>326|131=>233|5=>5|9=>9|218=>361|222=>365|228=>388|229=>51|n=>n,fun|n=>n⟩
theorem agh:Go.Proofs.Lays.n189 prog Ux:=by constructor<;>first|kernel_rfl|exact λ_=>by kernel_rfl|exact⟨_,lJ,rfl⟩
theorem RH(p:Option Addr)(j:Nat)(w:World):
  Calls prog 142 #[.slice p 0 j] w λe w'=>e = .returned (.tuple #[])/\w'=w:=by
 have z:Hid (∀w,Calls prog 227 #[.slice p 0 j,.int .i64 0,.int .i64 0] w λe w'=>e = .returned (.tuple #[])/\w'=w):=λw=>by
  go_enter func227,ntmps227;go_wp2;refine wp_loop_rounds 1 ?_;rw[rounds_succ];go_wp2;go_end0;exact⟨rfl,rfl⟩
 have D:Hid (∀w,Calls prog 187 #[.slice p 0 j,.int .i64 0,.int .i64 0,.int .i64 0] w λe w'=>e = .returned (.tuple #[])/\w'=w):=λw=>by
  go_enter func187,ntmps187;go_wp2;refine wp_loop_rounds 1 ?_;rw[rounds_succ];go_wp2_with fail;refine Calls.mono (z.out _) ?_;rintro e w1 ⟨rfl,q⟩;have o:=q;subst o;go_wp2;refine bodyPost_ret (results_none rfl _ _ _) rfl ?_;exact⟨rfl,rfl⟩
 have A:Hid (∀w,Calls prog 188 #[.int .u64 0] w λe w'=>e = .returned (.int .i64 0)/\w'=w):=λw=>Any.bits_Len MV 0 w fM fM
 go_enter func142,ntmps142;go_wp2_with fail;refine Calls.mono (A.out _) ?_;rintro e w1 ⟨rfl,q⟩;have o:=q;subst o;go_wp2_with fail;refine Calls.mono (D.out _) ?_;rintro e w1 ⟨rfl,q⟩;have o:=q;subst o;go_wp2;go_end0;exact⟨rfl,rfl⟩
theorem aiK(m:Nat):AnyZI.SortsIn prog Jj Fence.wide m:=
 ⟨λblk o j ss W q z A=>callsIn_wide.2 (Any.slices_Sort_int agh blk o j ss W q z A),λp j W=>callsIn_wide.2 (RH p j W)⟩
theorem Uy(j:Option Nat)(W:World):Calls prog 98 #[.map j] W λe w'=>e = .returned (.func (.func 143) #[] #[.pointer (some ⟨W.heap.size,0,none⟩)])/\w'=W.alloc (.cells #[.map j] 189):=
 callsIn_wide.1 (AnyZI.keys_in aeX Fence.wide 5 trivial rfl j W)
theorem Uz(j:Option Nat)(W:World):Calls prog 159 #[.map j] W λe w'=>e = .returned (.func (.func 201) #[] #[.pointer (some ⟨W.heap.size,0,none⟩)])/\w'=W.alloc (.cells #[.map j] 261):=
 callsIn_wide.1 (AnyZ.keys_in aeY Fence.wide 5 trivial rfl j W)
theorem UA{H:Type}(b z:Nat)(j:DataW H)(R:Value->Option (DataW H×List MemPlace))(w:World)(A:w.ownsMap prog 3 R b z j)(q:Maps.size j<=maxLen)(K:Maps.size j*8<=140737488355328):
  Calls prog 97 #[.func (.func 143) #[] #[.pointer (some ⟨w.heap.size,0,none⟩)]] (w.alloc (.cells #[.map (some b)] 189)) λe w'=>∃(v:Value) (ss:List Int),e = .returned v/\ss.Perm (intKeys j) /\
   w'.ownsRow (w.alloc (.cells #[.map (some b)] 189)).heap.size 3 1 v ss.length ((ss.mergeSort (λx y=>decide (x<=y))).map encZ)/\(v = .slice none 0 0↔ss = [])/\Below (w.alloc (.cells #[.map (some b)] 189)).heap.size (w.alloc (.cells #[.map (some b)] 189)) w':=by
 have J:=A.lt;have O:SeqGives Fence.wide 2 prog 143 #[.pointer (some ⟨w.heap.size,0,none⟩)] encZ (λss=>ss.Perm (intKeys j)) (Maps.size j) (w.alloc (.cells #[.map (some b)] 189)):=
  AnyZI.keys_gives (ρ:=OD) { aeX with } Fence.wide _ trivial rfl fM w.heap.size b z j _ rQ rQ (by
   obtain⟨es,o,G,D,I,F⟩:=A;exact⟨es,o,(Below.heap_alloc _ _ b J).trans G,D,I,F⟩)
 exact callsIn_wide.1 (AnyZI.sorted_in agf Fence.wide 5 trivial trivial trivial trivial rfl fM (aiK _) (enters_of func142 iX rfl) 143 #[.pointer (some ⟨w.heap.size,0,none⟩)] trivial (enters_of func143 iX rfl) _ _ q K _ O)
theorem Pt{H:Type}(b z:Nat)(j:DataW H)(R:Value->Option (DataW H×List MemPlace))(w:World)(A:w.ownsMap prog 9 R b z j)(q:Maps.size j<=maxLen)(K:Maps.size j*16<=140737488355328):
  Calls prog 155 #[.func (.func 201) #[] #[.pointer (some ⟨w.heap.size,0,none⟩)]] (w.alloc (.cells #[.map (some b)] 261)) λe w'=>∃(v:Value) (ss:List (List UInt8)),e = .returned v/\ss.Perm (strKeys j) /\
   w'.ownsRow (w.alloc (.cells #[.map (some b)] 261)).heap.size 9 1 v ss.length ((ss.mergeSort (λx y=>decide (x<=y))).map encStr)/\(v = .slice none 0 0↔ss = [])/\Below (w.alloc (.cells #[.map (some b)] 261)).heap.size (w.alloc (.cells #[.map (some b)] 261)) w':=by
 have J:=A.lt;have O:SeqGives Fence.wide 2 prog 201 #[.pointer (some ⟨w.heap.size,0,none⟩)] encStr (λss=>ss.Perm (strKeys j)) (Maps.size j) (w.alloc (.cells #[.map (some b)] 261)):=
  AnyZ.keys_gives (ρ:=OE) { aeY with } Fence.wide _ trivial rfl fM w.heap.size b z j _ rQ rQ (by
   obtain⟨es,o,G,D,I,F⟩:=A;exact⟨es,o,(Below.heap_alloc _ _ b J).trans G,D,I,F⟩)
 exact callsIn_wide.1 (AnyZ.sorted_in Vz Fence.wide 5 trivial trivial trivial trivial rfl fM (aar _) (enters_of func147 iX rfl) 201 #[.pointer (some ⟨w.heap.size,0,none⟩)] trivial (enters_of func201 iX rfl) _ _ q K _ O)
theorem adb{w:World}{K Q:Nat}{D:DataW Value}(R:w.ownsMap prog 3 fO K Q D){o:Int->Bool}(H:∀k,Maps.has D (.int .i64 k)=o k){F:List Int}(j:F.Pairwise (· < ·))(I:∀x,x∈F↔o x=true){ss:List Int}(J:ss.Perm (intKeys D)):ss.mergeSort (λx y=>decide (x<=y))=F/\ss.length=F.length:=by
 have O:F.Nodup:=j.imp λh e=>fM;have G:CollectedI D (λ_=>false) F:=⟨O,λx=>by rw[I,H];simp⟩;have q:=J.trans (G.perm R MG underlying3 λ_=>rfl).symm;refine⟨?_,q.length_eq⟩;refine List.Perm.eq_of_pairwise (le:=λa b:Int=>a<=b) (λa b _ _ z A=>fM) ?_ (j.imp λh=>fM) ((mergeSort_perm ss _).trans q);exact (pairwise_mergeSort (le:=λx y:Int=>decide (x<=y)) (λa b c z A=>by simp only[decide_eq_true_eq] at *;omega) (λa b=>by simp only[Bool.or_eq_true,decide_eq_true_eq];omega) ss).imp λh=>by simpa using h
open aV aD aU bH aR
def aa7(ea:Nat->Addr)(w wa:World)(sb hb db:Nat)(S:List Sr)(d:Dk)(Bs:List Bk)(span keep:Int)(G F H:List Nat)(L:List Rw)(e:Ending)(w':World):Prop:=
 ∃v pG H',e = .returned (.tuple #[.int .i64 ((tJ span L (zS span L)).length:Int),v])/\((v = .nilIface/\xJ span L (zS span L)=0)\/(v = .iface 397 (.pointer (some (ea 6)))/\xJ span L (zS span L)=7))/\fE w w' sb hb db S d (Bs++tJ span L (zS span L)) span keep pG G F H'/\Kept (fB sb G F H) wa w'/\∀x,x∈H'->x∈H\/wa.heap.size<=x
theorem aa8{w wr:World}{A:Nat}{S:List Sr}{G:List Nat}(h:pE w wr A S G)(D:bV S<=1000)(last:Int):∀r,r∈rM last S->(∀p,p∈r.2->0<=p.1/\p.1<=1099511627776/\p.2<18446744073709551616)/\r.1.length<=1000/\r.2.length<=1000:=λr J=>by
 obtain⟨k,F,rfl⟩:=mem_map.1 J;obtain⟨l,H,rfl,_⟩:=ig.1 F;obtain⟨_,_,_,_,O⟩:=h.ex;refine⟨λp I=>?_,O.len l H,le_trans (length_filter_le _ _) (le_trans (vg S _) D)⟩;obtain⟨z,q⟩:=mem_filter.1 I;simp at q;obtain⟨K,j,o⟩:=Gx z;have:=h.well.Kj K j p o;exact⟨q.1,this.2.1,this.2.2⟩
theorem ajz{L:List Rw}{s f:Int}(hL:∀r,r∈L->(∀p,p∈r.2->0<=p.1/\p.1<=1099511627776/\p.2<18446744073709551616)/\r.1.length<=1000/\r.2.length<=1000):∀r,r∈jk s f L->nI r.2/\r.1.length<=1000/\r.2.length<=1000:=λr F=>by
 obtain⟨q,D,rfl,_⟩:=Mj F;obtain⟨j,o,z⟩:=hL q D;exact⟨λp A=>by
  have:=j p (mem_filter.1 A).1;omega,o,le_trans (UU ..) z⟩
theorem adJ(s f:Int)(L:List Rw):full (jk s f L)=jk s f L:=yA λr j=>by
 obtain⟨q,_,_,h⟩:=Mj j;exact h
theorem aa9{B:Nat}{ea:Nat->Addr}(w wa:World)(E:M6 B ea w)(hB:B<=w.heap.size)(o hb db:Nat)(S:List Sr)(d:Dk)(Bs:List Bk)(j keep:Int)(vB:Value)(G F H:List Nat)(h:fE w wa o hb db S d Bs j keep vB G F H)(hs:1<=j/\j<=100000)(now:Int)(JZ : -1099511627776<=now/\now<=1099511627776)(hn:S.length<=900)(hc:bV S<=900)(ŀ:Bs.length<=1000)(L:List Rw)(hL:L=rM (kL j now-1) S):
  Calls prog 66 #[.pointer (some ⟨o,0,none⟩),.int .i64 now] wa λe w'=>aa7 ea w wa o hb db S d Bs j keep G F H L e w':=by
 have Bp:=Ç (R5 w wa o hb S G j now (ak h.blk 0) (ak h.blk 2) h.hd hs JZ fM fM);rw[<-hL] at Bp;have Yo:=aa8 h.hd (show bV S<=1000 by omega) (kL j now-1);rw[<-hL] at Yo;have hLn:L.length<=900:=by
  rw[hL];unfold rM bZ;rw[length_map,length_map];exact le_trans (length_filter_le _ _) hn
 have qm:=aC h.blk;have HST:=Ç h;have HE:=Ç E;have VN:=Ç Yo;obtain⟨iB,hIB,hB0,Β,Ż⟩:=info_parts Tryz.infoBk;have Gi:=Ç hIB;have Α:(zS j L).length<=1000000:=by
  have h1:∀l:List Int,(l.foldr qR []).length<=l.length:=λl=>by
   induction l with
   | nil=>exact le_refl _
   | cons a l ih=>
    have h2:∀(x:Int) (m:List Int),(qR x m).length<=m.length+1:=λx m=>by
     induction m with
     | nil=>simp[qR]
     | cons y m ih2=>
      rw[qR];split
      ·simp
      ·split
       ·simp
       ·simp;exact ih2
    exact le_trans (h2 _ _) (by simp;exact ih)
  refine le_trans (h1 _) ?_;have h3:∀l:List Rw,(∀r,r∈l->r.2.length<=1000)->(l.flatMap λr=>r.2.map λp=>kL j p.1).length<=l.length*1000:=λl=>by
   induction l with
   | nil=>intro _;exact zero_le _
   | cons a l ih=>
    intro h;have h2:=ih λr hr=>h r (mem_cons_of_mem _ hr)
    have h3:=h a (mem_cons_self ..);rw[flatMap_cons,length_append,length_map,length_cons];omega
  have:=h3 L λr hr=>(Yo r hr).2.2
  omega
 clear h E Yo hL hIB;go_enter func66,ntmps66;go_wp2_with fail;refine Calls.mono Bp.out ?_;rintro e w1 ⟨mb,nb,X,sv,rfl,adK,ώ,ŕ,Τ⟩;obtain⟨D,ĕ,hD2,hD3⟩:=adK.im.map;have Ϡ:=ĕ.size_le;have HSI:=Ç (UA mb nb D fO w1 ĕ (by unfold maxLen;omega) fM);have Bw:=Ç (Uy (some mb) w1);have HD:=Ç (And.intro ĕ hD2);have qy:=Ç adK;have HB1:=Ç ώ;clear adK ώ ĕ hD2 hD3 Bp;dsimp only
 go_wp2_with fail;refine Calls.mono Bw.out ?_;rintro e w2 ⟨rfl,Ë⟩;subst Ë;dsimp only
 go_wp2_with fail;refine Calls.mono HSI.out ?_;rintro e w3 ⟨v3,ss,rfl,ų,Ŀ,_,Ϛ⟩;obtain⟨hsrt,ę⟩:=adb HD.out.1 HD.out.2 (agT j L) (λx=>Hg) ų;rw[hsrt,ę] at Ŀ;have Ef:=((Below.refl _ _).alloc (le_refl _) _).trans (Ϛ.mono rQ);have HP3:=Ç (qy.out.below Ef ŕ);have HB3:=Ç (HB1.out.trans (Ef.mono HB1.out.size));obtain⟨a3,c3,rfl⟩:=bB Ŀ;obtain⟨W,Si⟩:=bF (zS j L);obtain⟨n,Ϝ⟩:=bF W.length;have Lr:=Ç Si;have HN:=Ç Ϝ;rw[<-Si,<-Ϝ] at Ŀ;rw[<-Si,<-Ϝ];rw[<-Si,<-Ϝ] at Α;have Ô:wa.heap.size<=(w1.alloc (.cells #[.map (some mb)] 189)).heap.size:=by
  have:=HB1.out.size;simp
  omega
 have K9:=Ç (iC Ŀ Ô);have H0:Hid (fE w w3 o hb db S d (Bs++(W.take 0).map λf=>(f,j,jk j f L)) j keep vB G F H):=by
  have:=HST.out.same (HST.out.aI.trans (HB3.out.mono HST.out.aI.size)) (λx Y=>HB3.out.block x (HST.out.lt Y).2);show fE _ _ _ _ _ _ _ _ _ _ _ _ _ _;simpa using this
 clear ų Ŀ Ϛ hsrt ę Ef Si Ϝ qy HB1 HD HSI Bw Ô;dsimp only
 go_wp2_with fail;go_loopw [6,19] (λmd ii wr=>∃(k:Nat) (pG:Value) (H':List Nat),k<=n/\md = .int .i64 (k:Int)/\ii = .int .i64 (k:Int)/\fE w wr o hb db S d (Bs++(W.take k).map λf=>(f,j,jk j f L)) j keep pG G F H'/\wD o w3 wr/\Kept (fB o G F H) wa wr/\(∀x,x∈H'->x∈H\/wa.heap.size<=x)/\∀f,f∈W.take k->kJ f j (jk j f L)=0) (λ_ ii _=>n-(intOf ii).toNat);case atStart=>exact⟨0,vB,H,zero_le _,rfl,rfl,H0.out,wD.refl _ _,Kept.of_below HB3.out,λx Y=>.inl Y,λf hf=>by simp at hf⟩
 case round=>
  obtain⟨k,pG,H',hk,rfl,rfl,ϖ,Ĥ,Ŏ,hH',Ń⟩:=hrel;clear H0;have AU:=Ç ϖ;have LG:=Ç Ĥ;have AL:=Ç Ŏ;have HH':=Ç hH';have HGD:=Ç Ń;by_cases ϣ:k<n
  ·have BN:k<W.length:=by rw[<-HN.out];exact ϣ
   obtain⟨f,hf⟩:=bF (W[k]);have υ:=HP3.out.alh Ĥ qm ŕ;have hko:wr.ownsRow wa.heap.size 3 1 (.slice a3 n c3) n (W.map encZ):=Ĥ.own K9.out lJ qm;obtain⟨g3,e3,ĵ⟩:∃g3,a3=some ⟨g3,0,none⟩/\wr.cell? ⟨g3,k,none⟩=some (.int .i64 f):=by
    rcases hko.2 with⟨_,I⟩|⟨g,cap,cur,hv,_,hh,_,_,hs,hc⟩
    ·omega
    ·injection hv with hv;refine⟨g,hv,?_⟩;have e1:wr.cell? ⟨g,k,none⟩=cur[k]?:=by simp[World.cell?,hh]
     have e2:cur[k]? = (cur.toList.take (n*1))[k]?:=by rw[List.getElem?_take_of_lt fM];simp
     rw[e1,e2,hc,hf];simp[BN,encZ]
   subst e3;have Í:uH j L f=true:=by rw[hf];exact Hg.1 (Lr.out ▸ getElem_mem BN)
   obtain⟨M,hM⟩:=bF (jk j f L);have ϟ:=υ.im.row f Í;have ş:=υ.rows f Í;rw[<-hM] at ş;obtain⟨a6,c6,ũ,hrp⟩:=xD (show wr.ownsRow wa.heap.size 104 2 (sv f) M.length (X f) by rw[hM];exact ϟ) ş;obtain⟨r,hr,ajC⟩:=any_eq_true.1 Í;obtain⟨p0,ō,ĺ⟩:=any_eq_true.1 ajC;have Vo:0<=f/\f<=1099511627776:=by
    have h1:=(VN.out r hr).1 p0 ō;have h2:=Hf (s:=j) (t:=p0.1) fM h1.1;rw[of_decide_eq_true ĺ] at h2;omega
   have HMi:Hid (∀r,r∈M->nI r.2/\r.1.length<=1000/\r.2.length<=1000):=by
    rw[hM];exact ajz VN.out
   have Ł:full M=M:=by rw[hM];exact adJ ..
   have hMn:M.length<=1000:=by rw[hM];exact le_trans (UW ..) fM
   have gZ:Hid (∀z,Below wr.heap.size wr z->z.cell? ⟨o,2,none⟩=some (.int .i64 j)/\(Instr.lookup 189 (.map (some mb)) (.int .i64 f) false).run prog z = .ok (.slice a6 M.length c6) z):=λz I=>by
    refine⟨ak ((I.block _ (aC ϖ.blk)).trans ϖ.blk) 2,?_⟩;have:=υ.im.look underlying189 R3 f fM z (I.block _ υ.im.lt);rw[wO,if_pos Í,ũ] at this;exact this
   have Df:Hid (∀z,Below wr.heap.size wr z->Calls prog 99 #[.int .i64 f,.int .i64 j,.slice a6 M.length c6] z λe z'=>∃p q J O U V Q R v3,e = .returned (.tuple #[.agg #[.int .i64 p,.int .i64 q,.slice J U Q,.slice O V R],v3])/\Below wr.heap.size wr z'/\Below z.heap.size z z'/\Ls ea wr z' f j M p q (.slice J U Q) (.slice O V R) v3):=λz I=>by
    have Gw:=ϖ.aI.trans (I.mono ϖ.aI.size);refine (Ld z (HE.out.k.below Gw hB) (le_trans hB Gw.size) f j a6 c6 _ (hrp.below I) HMi.out hMn).mono ?_;intro e z' hmo;obtain⟨v3,wM,vH,⟨h0,u1,u2,rfl,o1,o2⟩|⟨h0,rfl⟩⟩:=hmo
    ·have h2:=I.trans (wM.mono I.size);rw[Ł] at o1 o2;have o1':=gD o1 I.size;have o2':=gD o2 I.size;obtain⟨ua,uc,rfl⟩:=bB o1;obtain⟨ub,ud,rfl⟩:=bB o2;exact⟨_,_,_,_,_,_,_,_,_,rfl,h2,wM,h2,vH,.inl ⟨h0,rfl,rfl,o1',o2'⟩⟩
    ·have h2:=I.trans (wM.mono I.size);exact⟨_,_,_,_,_,_,_,_,_,rfl,h2,wM,h2,vH,.inr ⟨h0,rfl,rfl,rfl,rfl⟩⟩
   obtain⟨lm,hlm⟩:=bF M.length;rw[<-hlm] at gZ Df;have RJ:=Ç (And.intro hf (And.intro hM (And.intro hlm BN)));have HB0:Hid (Below wr.heap.size wr wr.drew):=dA (Below.refl _ _);have k0:(0:Int)<=k:=fM;have k1:(k:Int)<n:=fM;clear ϖ Ĥ Ŏ hH' Ń hf υ hko Í hM ϟ ş ũ hrp hr ajC ō ĺ Ł hlm;go_upto_region 6 with fail;clear ĵ;go_cut [10,11] from 23 to 34 (λv10 v11 wz=>Ep ea wr wz f j M v11 v10);case first=>
    refine eX (S:=λz=>z.cell? ⟨o,2,none⟩=some (.int .i64 j)/\(Instr.lookup 189 (.map (some mb)) (.int .i64 f) false).run prog z = .ok (.slice a6 lm c6) z) iX 13 (gZ.out _ HB0.out) (λϊ=>?_);refine bK 0 24 (.int .i64 f) ϊ rfl rfl ?_ ?_
    ·intro w _;go_simp
    try simp only[Act.put,Ω,aeE,aeF]
    refine bK 1 25 (.pointer (some ⟨o,0,none⟩)) ϊ rfl rfl ?_ ?_
    ·intro w _;go_simp
    try simp only[Act.put,Ω,aeE,aeF]
    refine bK 2 26 (.pointer (some ⟨o,0,none⟩)) ϊ rfl rfl ?_ ?_
    ·intro w _;go_simp
    try simp only[Act.put,Ω,aeE,aeF]
    refine bK 3 27 (.pointer (some ⟨o,2,none⟩)) ϊ rfl rfl ?_ ?_
    ·intro w _;go_simp
    try simp only[Act.put,Ω,aeE,aeF]
    refine iG 4 28 (.int .i64 j) ϊ rfl rfl ?_ ?_
    ·intro w Ϥ;obtain⟨jc,jd⟩:=Ϥ;go_simp
    try simp only[Act.put,Ω,aeE,aeF]
    refine bK 5 29 (.map (some mb)) ϊ rfl rfl ?_ ?_
    ·intro w _;go_simp
    try simp only[Act.put,Ω,aeE,aeF]
    refine bK 6 30 (.int .i64 f) ϊ rfl rfl ?_ ?_
    ·intro w _;go_simp
    refine iG 7 31 (.slice a6 lm c6) ϊ rfl rfl ?_ ?_
    ·intro w Ϥ;obtain⟨jc,jd⟩:=Ϥ;go_simp
    refine bU (rs:=[8,12]) iX rQ ?_;refine aQ.cons rfl (λK A=>?_) (aQ.cons rfl (λK A=>?_) aQ.nil)
    ·go_simp
     refine Calls.mono (Df.out _ HB0.out) ?_;rintro e w5 ⟨p,q,J,O,U,V,Q,R,v3,rfl,ç,hs5,Ć⟩;refine A.out _ _ (gZ.out _ ç) ?_;refine bK 9 23 (.tuple #[.agg #[.int .i64 p,.int .i64 q,.slice J U Q,.slice O V R],v3]) (gZ.out _ ç) rfl rfl ?_ ?_
     ·intro w _;go_simp
     refine bK 10 33 (.agg #[.int .i64 p,.int .i64 q,.slice J U Q,.slice O V R]) (gZ.out _ ç) rfl rfl ?_ ?_
     ·intro w _;go_simp
     refine bK 11 34 v3 (gZ.out _ ç) rfl rfl ?_ ?_
     ·intro w _;go_simp
     refine lZ 12 rfl λK A=>?_
     go_simp
     refine A.out _ _ (gZ.out _ (bP ç (.cells #[.int .i64 0,.int .i64 0,.slice none 0 0,.slice none 0 0] 114))) ?_;have Ĝ:(w5.alloc (.cells #[.int .i64 0,.int .i64 0,.slice none 0 0,.slice none 0 0] 114)).heap[w5.heap.size]? = some (.cells #[.int .i64 0,.int .i64 0,.slice none 0 0,.slice none 0 0] 114 (0,0)):=heap_alloc_new _ _;have qO:wr.heap.size<=w5.heap.size:=ç.size;have j0:=ak Ĝ 0;have j1:=ak Ĝ 1;have j2:=ak Ĝ 2;have j3:=ak Ĝ 3;simp at j0 j1 j2 j3;have jf:∀k,World.frozen? (w5.alloc (.cells #[.int .i64 0,.int .i64 0,.slice none 0 0,.slice none 0 0] 114)) ⟨w5.heap.size,k,none⟩=false:=λk=>aA Ĝ k
     refine oz 13 rfl λK A=>?_
     have Dh:=Ç (show Ep ea wr _ f j M v3 _ from ⟨_,p,q,J,O,U,V,Q,R,rfl,heap_alloc_new _ _,qO,Ć.below (bP (Below.refl _ _) _)⟩);go_simp
     refine A.out _ _ ?_;refine oz 14 rfl λK A=>?_
     go_simp
     refine A.out _ _ ?_;refine dz iX ?_ _;go_wp2_with fail;go_meet;case rel=>exact Dh.out
    ·go_simp
     refine A.out _ _ (gZ.out _ (bP HB0.out (.cells #[.int .i64 0,.int .i64 0,.slice none 0 0,.slice none 0 0] 114))) ?_;have Ĝ:(wr.drew.alloc (.cells #[.int .i64 0,.int .i64 0,.slice none 0 0,.slice none 0 0] 114)).heap[wr.heap.size]? = some (.cells #[.int .i64 0,.int .i64 0,.slice none 0 0,.slice none 0 0] 114 (0,0)):=heap_alloc_new _ _;have qO:wr.heap.size<=wr.heap.size:=le_refl _;refine lZ 8 rfl λK A=>?_
     go_simp
     refine Calls.mono (Df.out _ (bP HB0.out (.cells #[.int .i64 0,.int .i64 0,.slice none 0 0,.slice none 0 0] 114))) ?_;rintro e w5 ⟨p,q,J,O,U,V,Q,R,v3,rfl,ç,hs5,Ć⟩;refine A.out _ _ (gZ.out _ ç) ?_;have AV:=(hs5.block _ (aC Ĝ)).trans Ĝ;refine bK 9 23 (.tuple #[.agg #[.int .i64 p,.int .i64 q,.slice J U Q,.slice O V R],v3]) (gZ.out _ ç) rfl rfl ?_ ?_
     ·intro w _;go_simp
     refine bK 10 33 (.agg #[.int .i64 p,.int .i64 q,.slice J U Q,.slice O V R]) (gZ.out _ ç) rfl rfl ?_ ?_
     ·intro w _;go_simp
     refine bK 11 34 v3 (gZ.out _ ç) rfl rfl ?_ ?_
     ·intro w _;go_simp
     have j0:=ak AV 0;have j1:=ak AV 1;have j2:=ak AV 2;have j3:=ak AV 3;simp at j0 j1 j2 j3;have jf:∀k,World.frozen? w5 ⟨wr.heap.size,k,none⟩=false:=λk=>aA AV k
     refine oz 13 rfl λK A=>?_
     have Dh:=Ç (show Ep ea wr _ f j M v3 _ from ⟨_,p,q,J,O,U,V,Q,R,rfl,_root_.Go.Proofs.YtnjmhjdhfaboaaaGreatDoor.uN AV _ _ _ _,qO,Ć.uN AV qO _ _ _ _⟩);go_simp
     refine A.out _ _ ?_;clear A K;try simp only[Act.put,Ω,aeE,aeF]
     refine oz 14 rfl λK A=>?_
     go_simp
     refine A.out _ _ ?_;clear A K;try simp only[Act.put,Ω,aeE,aeF]
     refine dz iX ?_ _;clear j0 j1 j2 j3 jf;go_wp2_with fail;go_meet;case rel=>exact Dh.out
   obtain⟨Z,p,q,J,O,U,V,Q,R,rfl,hj,qO,Ć⟩:=hcut;have J4:=Ć.OC;by_cases I:kJ f j M=0
   ·obtain rfl:=J4.none I;obtain⟨vs,Ϯ,pI,fT,ë⟩:=AU.out.uZ.ex;have ϖ:=AU.out;obtain⟨aB,cB,rfl⟩:=bB fT;obtain⟨nB,wF⟩:=bF ((Bs++(W.take k).map λf=>(f,j,jk j f L)).length);have ar9:nB<=2000000:=by
     rw[wF,length_append,length_map,length_take];omega
    rw[<-wF] at fT;have HJZ:=Ç Ć;have Ji:Hid (∀z,Below wc.heap.size wc z->z.cell? ⟨o,4,none⟩=some (.slice aB nB cB)/\z.cell? ⟨Z,0,none⟩=some (.int .i64 p)/\z.cell? ⟨Z,1,none⟩=some (.int .i64 q)/\z.cell? ⟨Z,2,none⟩=some (.slice J U Q)/\z.cell? ⟨Z,3,none⟩=some (.slice O V R)):=λz I=>by
     have e0:=(I.block _ (by have:=aC ϖ.blk;have:=Ć.aI.size;omega)).trans ((Ć.aI.block _ (aC ϖ.blk)).trans ϖ.blk);rw[<-wF] at e0;have e1:=(I.block _ (aC hj)).trans hj;exact⟨ak e0 4,ak e1 0,ak e1 1,ak e1 2,ak e1 3⟩
    have Ï:Below wc.heap.size wc wc.drew:=dA (Below.refl _ _);have HW5:Hid (Below wr.heap.size wr (wc.drew.alloc (.cells #[.int .i64 p,.int .i64 q,.slice J U Q,.slice O V R] 114))):=Ć.aI.trans ((bP Ï _).mono Ć.aI.size);have lC:Hid ((wc.drew.alloc (.cells #[.int .i64 p,.int .i64 q,.slice J U Q,.slice O V R] 114)).ownsRow w.heap.size 114 4 (.slice aB nB cB) nB (bM (Bs++(W.take k).map λf=>(f,j,jk j f L)) vs)):=aX fT HW5.out;have gY:Hid (∀i z,([.int .i64 p,.int .i64 q,.slice J U Q,.slice O V R]:List Value)[i]? = some z->(wc.drew.alloc (.cells #[.int .i64 p,.int .i64 q,.slice J U Q,.slice O V R] 114)).cell? ((⟨wc.heap.size,0,none⟩:Addr).add i)=some z):=World.news_of_block (heap_alloc_new wc.drew _);have ko:Hid (∀z∈([.int .i64 p,.int .i64 q,.slice J U Q,.slice O V R]:List Value),z.oneCell'=true):=by
     intro z I;simp at I;rcases I with rfl|rfl|rfl|rfl<;>rfl
    have ZN:Hid (w.heap.size<=(wc.drew.alloc (.cells #[.int .i64 p,.int .i64 q,.slice J U Q,.slice O V R] 114)).heap.size):=le_trans ϖ.aI.size HW5.out.size;have tq:Hid (p=f/\q=j/\wc.ownsRow wr.heap.size 9 1 (.slice J U Q) M.length ((M.map Prod.fst).map encStr)/\wc.ownsRow wr.heap.size 9 1 (.slice O V R) M.length ((M.map λr=>dZ r.2).map encStr)):=by
     rcases Ć.res with h|h
     ·exact h.2
     ·exact absurd I h.1
    have mF:=Ç (And.intro Ϯ (And.intro pI (And.intro fT (And.intro ë wF))));have IX:=Ç (And.intro qO (aC hj));have HZ:=Ç I;clear Ϯ pI fT ë ϖ wF hj qO Ć J4 I;go_upto_region 9 with fail;refine eX (S:=λz=>z.cell? ⟨o,4,none⟩=some (.slice aB nB cB)/\z.cell? ⟨Z,0,none⟩=some (.int .i64 p)/\z.cell? ⟨Z,1,none⟩=some (.int .i64 q)/\z.cell? ⟨Z,2,none⟩=some (.slice J U Q)/\z.cell? ⟨Z,3,none⟩=some (.slice O V R)) iX 10 (Ji.out _ Ï) (λϊ=>?_);refine bK 0 39 (.pointer (some ⟨o,0,none⟩)) ϊ rfl rfl ?_ ?_
    ·intro w _;go_simp
    try simp only[Act.put,Ω,aeE,aeF]
    refine bK 1 40 (.pointer (some ⟨o,0,none⟩)) ϊ rfl rfl ?_ ?_
    ·intro w _;go_simp
    try simp only[Act.put,Ω,aeE,aeF]
    refine bK 2 41 (.pointer (some ⟨o,0,none⟩)) ϊ rfl rfl ?_ ?_
    ·intro w _;go_simp
    try simp only[Act.put,Ω,aeE,aeF]
    refine bK 3 42 (.pointer (some ⟨o,4,none⟩)) ϊ rfl rfl ?_ ?_
    ·intro w _;go_simp
    try simp only[Act.put,Ω,aeE,aeF]
    refine iG 4 43 (.slice aB nB cB) ϊ rfl rfl ?_ ?_
    ·intro w Ϥ;obtain⟨jc,jd,kr,lu,oH⟩:=Ϥ;go_simp
    try simp only[Act.put,Ω,aeE,aeF]
    refine iG 5 44 (.agg #[.int .i64 p,.int .i64 q,.slice J U Q,.slice O V R]) ϊ rfl rfl ?_ ?_
    ·intro w Ϥ;obtain⟨jc,jd,kr,lu,oH⟩:=Ϥ;go_simp
    try simp only[Act.put,Ω,aeE,aeF]
    refine lZ 6 rfl λK A=>?_
    go_simp
    refine A.out _ _ (Ji.out _ (bP Ï _)) ?_;clear A K;try simp only[Act.put,Ω,aeE,aeF]
    refine lZ 7 rfl λK A=>?_
    refine step_append_lies _ (by rfl) _ _ 111 (by rfl) w.heap.size 114 iB (.agg #[.int .i64 0,.int .i64 0,.slice none 0 0,.slice none 0 0]) 4 64 underlying111 Gi.out hB0 Β Ż rfl lJ _ _ _ (by rfl) lC.out ⟨wc.heap.size,0,none⟩ 1 1 [.int .i64 p,.int .i64 q,.slice J U Q,.slice O V R] (by rfl) rfl gY.out ko.out fM (by unfold maxLen;omega) fM ZN.out _ rfl ?_;intro g7 dQ w7 bR dY qh _;obtain⟨Ϯ,pI,fT,ë,wF⟩:=mF.out;have adL:∀x,(Value.slice aB nB cB).ownBlock=some x->x<wr.heap.size:=λx Y=>(aH fT Y).2.1
    have J3:=(dY.block o (lt_of_lt_of_le (aC AU.out.blk) HW5.out.size) λe=>AU.out.sH (by rw[pI,<-wF,<-e];simp)).trans ((bP Ï _).block o (lt_of_lt_of_le (aC AU.out.blk) HJZ.out.aI.size));have J5:=(dY.block Z (lt_of_lt_of_le IX.out.2 (bP Ï _).size) λe=>by have:=adL Z e.symm;have:=IX.out.1;omega).trans ((bP Ï _).block Z IX.out.2);have ž:∀b i,w7.heap[b]? = wc.heap[b]? -> w7.cell? ⟨b,i,none⟩=wc.cell? ⟨b,i,none⟩:=λb i h=>by simp[World.cell?,h]
    have ĭ:=Ji.out wc (Below.refl _ _);have sP:Hid ((λz:World=>z.cell? ⟨o,4,none⟩=some (.slice aB nB cB)/\z.cell? ⟨Z,0,none⟩=some (.int .i64 p)/\z.cell? ⟨Z,1,none⟩=some (.int .i64 q)/\z.cell? ⟨Z,2,none⟩=some (.slice J U Q)/\z.cell? ⟨Z,3,none⟩=some (.slice O V R)) w7):=⟨(ž _ _ J3).trans ĭ.1,(ž _ _ J5).trans ĭ.2.1,(ž _ _ J5).trans ĭ.2.2.1,(ž _ _ J5).trans ĭ.2.2.2.1,(ž _ _ J5).trans ĭ.2.2.2.2⟩;have z4:=sP.out.1;have zf:=aA (J3.trans ((HJZ.out.aI.block _ (aC AU.out.blk)).trans AU.out.blk)) 4;have aL:Hid (∃GI,fE w (w7.setCell ⟨o,4,none⟩ (.slice (some ⟨g7,0,none⟩) (nB+1) dQ)) o hb db S d (Bs++(W.take (k+1)).map λf=>(f,j,jk j f L)) j keep (.slice (some ⟨g7,0,none⟩) (nB+1) dQ) G F GI/\wD o w3 (w7.setCell ⟨o,4,none⟩ (.slice (some ⟨g7,0,none⟩) (nB+1) dQ))/\Kept (fB o G F H) wa (w7.setCell ⟨o,4,none⟩ (.slice (some ⟨g7,0,none⟩) (nB+1) dQ))/\(∀x,x∈GI->x∈H\/wa.heap.size<=x)/\∀f,f∈W.take (k+1)->kJ f j (jk j f L)=0):=by
     obtain⟨r1,r2,r3,r4⟩:=tq.out;obtain⟨e1,e2,_,e4⟩:=RJ.out;rw[r1,r2,wF] at bR;rw[wF] at dY qh fT adL;obtain⟨GI,q1,q2,q3⟩:=AU.out.lay HW5.out Ϯ pI ë fT (f,j,M) (.slice J U Q) (.slice O V R) (aX r3 (bP Ï _)) (aX r4 (bP Ï _)) bR dY qh;have et:W.take (k+1)=W.take k ++ [f]:=by rw[take_succ_eq_append_getElem e4,e1]
     rw[wF];refine⟨GI,?_,LG.out.kept q2 λx Y=>?_,AL.out.trans q2 λx Y=>?_,λx Y=>?_,λg hg=>?_⟩
     ·rw[et,map_append,<-append_assoc];show fE w _ o hb db S d (_ ++ [(f,j,jk j f L)]) j keep _ G F GI;rw[<-e2];exact q1
     ·rcases mem_cons.1 Y with h|h
      ·exact .inl h
      ·obtain⟨_,_,cur,hc'⟩:=aH fT (show _=some x by simpa using h);exact .inr ⟨cur,_,hc'⟩
     ·rcases mem_cons.1 Y with h|h
      ·exact .inl (bY.2 (.inl h))
      ·rcases HH'.out x (by rw[pI];exact mem_append.2 (.inl h)) with h1|h1
       ·exact .inl (bY.2 (.inr (.inr (.inr h1))))
       ·exact .inr h1
     ·rcases q3 x Y with h|h
      ·exact HH'.out x h
      ·exact .inr (le_trans AL.out.size h)
     ·rw[et] at hg;rcases mem_append.1 hg with h|h
      ·exact HGD.out g h
      ·obtain rfl:=mem_singleton.1 h;rw[<-e2];exact HZ.out
    clear bR dY qh Ϯ pI fT ë wF adL J3 J5 ž ĭ;refine A.out _ _ sP.out ?_;clear A K;refine bK 8 47 (.pointer (some ⟨o,0,none⟩)) sP.out rfl rfl ?_ ?_
    ·intro w _;go_simp
    refine bK 9 48 (.pointer (some ⟨o,4,none⟩)) sP.out rfl rfl ?_ ?_
    ·intro w _;go_simp
    refine oz 10 rfl λK A=>?_
    go_simp
    refine A.out _ _ ?_;refine dz iX ?_ _;obtain⟨GI,q1,q2,q3,q4,q5⟩:=aL.out;have HQ:=Ç (And.intro q1 (And.intro q2 (And.intro q3 (And.intro q4 q5))));go_wp2;go_roundw;case rel=>exact⟨k+1,_,GI,fM,rU,rU,HQ.out.1,HQ.out.2.1,HQ.out.2.2.1,HQ.out.2.2.2.1,HQ.out.2.2.2.2⟩
    case measure=>simp[intOf]<;>omega
   ·obtain⟨tv,pv,rfl⟩:=mq J4 I;have aL:Hid (fE w wc o hb db S d (Bs++(W.take k).map λf=>(f,j,jk j f L)) j keep pG G F H'/\Kept (fB o G F H) wa wc/\Below wr.heap.size wr wc):=⟨AU.out.below Ć.aI,AL.out.trans (Kept.of_below (S:=[]) Ć.aI) (λx Y=>by cases Y),Ć.aI⟩;have hg6:=(HE.out.a.h.below aL.out.1.aI hB).c6;have HZ:=Ç I;go_wp2_with fail;go_quiet (fail);go_wp2;go_ret2;obtain⟨e1,e2,_,e4⟩:=RJ.out;have ek:zS j L=W.take k++f::W.drop (k+1):=by
     rw[<-Lr.out,e1,getElem_cons_drop,take_append_drop]
    obtain⟨b1,b2⟩:=R8 (gs:=W.drop (k+1)) (show kJ f j (jk j f L)≠0 by rw[<-e2];exact HZ.out) HGD.out;have el:((tJ j L (zS j L)).length:Int)=(k:Int):=by
     rw[ek,b1,length_map,length_take];omega
    refine⟨.iface 397 (.pointer (some (ea 6))),pG,H',by rw[el];rfl,?_,?_,aL.out.2.1.trans (Kept.of_below (S:=[]) (below_draws (Below.refl _ _) _)) (λx Y=>by cases Y),HH'.out⟩
    ·rw[ek,b2];exact .inr ⟨rfl,rfl⟩
    ·rw[ek,b1];exact aL.out.1.below (below_draws (Below.refl _ _) _)
  ·obtain rfl:k=n:=fM;have jB:W.take k=W:=by rw[HN.out];exact take_length
   rw[jB] at ϖ Ń;obtain⟨b1,b2⟩:=OU Ń;have aL:=Ç (And.intro ϖ (And.intro Ŏ hH'));have jM:=Ç (And.intro b1 b2);go_wp2;go_ret2;obtain⟨b1,b2⟩:=jM.out;have el:((tJ j L (zS j L)).length:Int)=(k:Int):=by
    rw[<-Lr.out,b1,length_map,HN.out]
   refine⟨.nilIface,pG,H',by rw[el];rfl,?_,?_,aL.out.2.1,aL.out.2.2⟩
   ·rw[<-Lr.out,b2];exact .inl ⟨rfl,rfl⟩
   ·rw[<-Lr.out,b1];exact aL.out.1
def Jq(span now:Int)(S:List Sr):List Rw:=rM (kL span now-1) S
noncomputable def Fe(span now:Int)(S:List Sr):List Bk:=tJ span (Jq span now S) (zS span (Jq span now S))
noncomputable def LU(span now:Int)(S:List Sr):Int:=xJ span (Jq span now S) (zS span (Jq span now S))
noncomputable def wU(span now:Int)(S:List Sr)(Bs:List Bk):List Sr:=sU (xI (Bs++Fe span now S)) S
noncomputable def AX(span now:Int)(S:List Sr)(Bs:List Bk)(keep:Nat):List Bk:=(Bs++Fe span now S).drop ((Bs++Fe span now S).length-keep)
noncomputable def GJ(span now:Int)(S:List Sr)(Bs:List Bk):List E:=fF (rM 1099511627776 (wU span now S Bs))
noncomputable def O0(span now:Int)(S:List Sr)(d:Dk)(Bs:List Bk):Dk:=OV (GJ span now S Bs) d
noncomputable def yJ(span now:Int)(S:List Sr)(d:Dk)(Bs:List Bk):Int:=if LU span now S≠0 then 7 else Jp (GJ span now S Bs) d
noncomputable def Jr(span now:Int)(S:List Sr)(d:Dk)(Bs:List Bk):Int:=if LU span now S≠0 then -1 else Sb (GJ span now S Bs) d
noncomputable def AY(span now:Int)(S:List Sr)(d:Dk)(Bs:List Bk):Int:=if yJ span now S d Bs≠0 then 0 else ((Fe span now S).length:Int)
theorem Yp(s:Int)(L:List Rw):∀j,xJ s L j=0\/xJ s L j=7
 | []=>.inl rfl
 | f::j=>by
  rw[xJ];split
  ·exact Yp s L j
  ·exact .inr rfl
theorem LV:∀(es:List E) (d:Dk),0<=(oV es d).2.1
 | [],_=>Int.le_refl _
 | e::es,d=>by
  rw[oV];split
  ·rename_i h;exact Int.le_of_lt h
  ·exact LV es _
theorem Yq(es:List E)(d:Dk):0<=Jp es d:=by
 unfold Jp;split
 ·decide
 ·exact LV es _
theorem J6{s:Int}{L:List Rw}:∀ {j:List Int} {b:Bk},b∈tJ s L j->∃f,f∈j/\b=(f,s,jk s f L)/\kJ f s (jk s f L)=0
 | [],_,h=>by cases h
 | f::j,b,h=>by
  rw[tJ] at h;split at h
  ·rename_i o;rcases mem_cons.1 h with rfl|h
   ·exact⟨f,mem_cons_self ..,rfl,o⟩
   ·obtain⟨g,q,r⟩:=J6 h;exact⟨g,mem_cons_of_mem _ q,r⟩
  ·cases h
theorem Sj(s:Int)(L:List Rw):∀j,(tJ s L j).length<=j.length
 | []=>le_refl _
 | f::j=>by
  rw[tJ];split
  ·simp only[length_cons];have:=Sj s L j;omega
  ·exact zero_le _
theorem ajD{w wr:World}{o:Nat}{S:List Sr}{G:List Nat}(h:pE w wr o S G)(F:bV S<=1000){j now:Int}(K:1<=j/\j<=100000):∀b,b∈Fe j now S->0<=b.1/\b.1<=1099511627776/\b.2.1=j:=λb o=>by
 obtain⟨f,H,rfl,_⟩:=J6 o;obtain⟨r,J,z⟩:=any_eq_true.1 (Hg.1 H);obtain⟨p,I,A⟩:=any_eq_true.1 z;have D:=(aa8 h F _ r J).1 p I;have q:=Hf (s:=j) (t:=p.1) fM D.1;rw[of_decide_eq_true A] at q;exact⟨q.1,by show f<=_;omega,rfl⟩
def aff(ea:Nat->Addr)(w wa:World)(sb hb db:Nat)(S:List Sr)(d:Dk)(Bs:List Bk)(span:Int)(keep:Nat)(G F H:List Nat)(N C A:Int)(e:Ending)(w':World):Prop:=
 ∃v pG G' F' H',e = .returned (.tuple #[.int .i64 N,v])/\aM ea w' v C A/\fE w w' sb hb db S d Bs span (keep:Int) pG G' F' H'/\Kept (fB sb G F H) wa w'/\∀x,x∈fB sb G' F' H'->x∈fB sb G F H\/wa.heap.size<=x
theorem Sk(t:Int)(S:List Sr):(sU t S).length=S.length:=by unfold sU;exact length_map _
theorem Ev(t:Int):∀(S:List Sr),bV (sU t S)<=bV S
 | []=>le_refl _
 | l::S=>by
  have j:=Ev t S;have o:=YU t l.pts;unfold sU bV at *;simp only[map_cons,sum_cons];omega
theorem UF{B:Nat}{ea:Nat->Addr}(w O:World)(E0:M6 B ea w)(hB:B<=w.heap.size)(o q I:Nat)(S:List Sr)(d:Dk)(Bs:List Bk)(j:Int)(keep:Nat)(vB:Value)(G F H:List Nat)(h:fE w O o q I S d Bs j (keep:Int) vB G F H)(hs:1<=j/\j<=100000)(hk:1<=keep/\keep<=1000)(now:Int)(JZ : -1099511627776<=now/\now<=1099511627776)(hn:S.length<=900)(hc:bV S<=900)(ŀ:(Bs++Fe j now S).length<=1000)(Ϸ:∀b,b∈Bs -> -1099511627776<=b.1/\b.1<=1099511627776/\0<=b.2.1/\b.2.1<=1099511627776):
  Calls prog 42 #[.pointer (some ⟨o,0,none⟩),.int .i64 now] O λe w'=>aff ea w O o q I (wU j now S Bs) (O0 j now S d Bs) (AX j now S Bs keep) j keep G F H (AY j now S d Bs) (yJ j now S d Bs) (Jr j now S d Bs) e w':=by
 have d1:decide (now < -1099511627776)=false:=decide_eq_false fM;have d2:decide (1099511627776<now)=false:=decide_eq_false fM;have aoJ:Bs.length<=1000:=by rw[length_append] at ŀ;omega
 have HLY:=Ç (aa9 w O E0 hB o q I S d Bs j (keep:Int) vB G F H h hs now JZ hn hc aoJ (Jq j now S) rfl);have hmi:=ajD (now:=now) h.hd (show bV S<=1000 by omega) hs;obtain⟨D,Sl⟩:=bF (Bs++Fe j now S);have V:∀b,b∈D -> -1099511627776<=b.1/\b.1<=1099511627776/\0<=b.2.1/\b.2.1<=1099511627776:=λb q=>by
  rw[Sl] at q;rcases mem_append.1 q with h1|h1
  ·exact Ϸ b h1
  ·have:=hmi b h1;omega
 obtain⟨n1,Ù⟩:=bF ((Fe j now S).length);have hlo:∀e w',aa7 ea w O o q I S d Bs j (keep:Int) G F H (Jq j now S) e w'->∃v pG H',e = .returned (.tuple #[.int .i64 (n1:Int),v])/\((v = .nilIface/\LU j now S=0)\/(v = .iface 397 (.pointer (some (ea 6)))/\LU j now S=7))/\fE w w' o q I S d D j (keep:Int) pG G F H'/\Kept (fB o G F H) O w'/\∀x,x∈H'->x∈H\/O.heap.size<=x:=λe w' hl=>by
  rw[Sl,Ù];exact hl
 have VO:=Ç hlo;have HE:=Ç E0;have HI1:=Ç V;have CK:=Ç (And.intro Sl Ù);rw[<-Sl] at ŀ;have BI:=Ç h;clear h E0 Ϸ hmi Sl Ù V hlo;go_enter func42,ntmps42;go_wp2_with fail;refine Calls.mono HLY.out ?_;intro e w1 hlo1;obtain⟨v1,vB1,H1,rfl,è,wB,ϓ,hH1⟩:=VO.out e w1 hlo1;obtain⟨X,hX⟩:=bF (LU j now S);rw[<-hX] at è;have y0:=ak wB.blk 0;simp at y0;have M7:=Ç wB;have BA:=Ç è;have dK:=Ç (And.intro ϓ hH1);have HX:=Ç hX;have tN:Hid (∀z,Below w1.heap.size w1 z->Calls prog 68 #[.pointer (some ⟨o,0,none⟩)] z λe W=>e = .returned (.int .i64 (xI D))/\W.cell? ⟨o,0,none⟩=some (.pointer (some ⟨q,0,none⟩))/\Below w1.heap.size w1 W):=λz hz=>by
  refine (OP w z o q I S d D j (keep:Int) vB1 G F H1 (M7.out.below hz) ŀ HI1.out).mono ?_;rintro e W ⟨rfl,hb'⟩;have h2:=hz.trans (hb'.mono hz.size);exact⟨rfl,ak (M7.out.below h2).blk 0,h2⟩
 have HCU:Hid (∀z,Below w1.heap.size w1 z->Calls prog 67 #[.pointer (some ⟨q,0,none⟩),.int .i64 (xI D)] z λe W=>∃r v,e = .returned (.tuple #[r,v])/\W.cell? ⟨o,0,none⟩=some (.pointer (some ⟨q,0,none⟩))/\∃G',fE w W o q I (sU (xI D) S) d D j (keep:Int) vB1 G' F H1/\Kept G w1 W/\∀x,x∈G'->x∈G\/w1.heap.size<=x):=λz hz=>by
  have Ϡ:=M7.out.below hz;refine (aiA w z (HE.out.a.h.below Ϡ.aI hB) hB Ϡ.aI.size q S G Ϡ.hd fM fM (xI D)).mono ?_;rintro e W ⟨G',q1,q2,q3,q4⟩;have μ:=Ϡ.head q1 q2 q3;have È:=(Kept.of_below (S:=G) hz).trans q2 λx A=>.inl A
  have ϭ:∀x,x∈G'->x∈G\/w1.heap.size<=x:=λx A=>(q3 x A).imp id λh=>le_trans hz.size h
  rcases q4 with⟨_,rfl⟩|⟨_,r,xs,rfl,_,_⟩
  ·exact⟨_,_,rfl,ak μ.blk 0,G',μ,È,ϭ⟩
  ·exact⟨_,_,rfl,ak μ.blk 0,G',μ,È,ϭ⟩
 have ū:Below w1.heap.size w1 w1.drew:=dA (Below.refl _ _);go_wp2_with fail;go_region_held3 (λz=>z.cell? ⟨o,0,none⟩=some (.pointer (some ⟨q,0,none⟩))) (go_keep) ((first|(go_at_call 68;refine Calls.mono (tN.out _ ū) ?_;rintro e w2 ⟨rfl,y0,ś⟩)|(go_at_call 67;refine Calls.mono (HCU.out _ ś) ?_;rintro e w3 ⟨r3,v3,rfl,y0,R⟩)));obtain⟨G3,R,Ġ,hg3⟩:=R;have HS3:=Ç R;have yw:=Ç (And.intro Ġ hg3);have Ag:=Ç (R9 w w3 o q I (sU (xI D) S) d D j keep vB1 G3 F H1 R hk fM);go_wp2_with fail;refine Calls.mono Ag.out ?_;rintro e w4 ⟨rfl,vB4,H4,K,ţ,hH4⟩;have z0:=ak K.blk 0;have z1:=ak K.blk 1;simp at z0 z1;obtain⟨Y,Q⟩:=bF (sU (xI D) S);rw[<-Q] at K;have hn4:Y.length<=1000:=by rw[Q,Sk];omega
 have Ő:bV Y<=1000:=by rw[Q];have:=Ev (xI D) S;omega
 have HAN:=Ç (Yh w w4 HE.out.a hB o q I Y d (D.drop (D.length-keep)) j (keep:Int) vB4 G3 F H4 K hn4 Ő (rM 1099511627776 Y) rfl);have HS4:=Ç (And.intro Q (And.intro K (And.intro ţ hH4)));go_wp2_with fail;refine Calls.mono HAN.out ?_;rintro e w5 ⟨v5,F5,rfl,VP,hs5,hk5,hF5⟩;have tC:Hid (∀v,aM ea w5 v (yJ j now S d Bs) (Jr j now S d Bs)->aff ea w O o q I (wU j now S Bs) (O0 j now S d Bs) (AX j now S Bs keep) j keep G F H (AY j now S d Bs) (yJ j now S d Bs) (Jr j now S d Bs) (.returned (.tuple #[.int .i64 (AY j now S d Bs),v])) w5):=λv hv=>by
  obtain⟨e1,q1,q2,q3⟩:=HS4.out;obtain⟨b1,b2⟩:=CK.out;have ĩ:fE w w5 o q I (wU j now S Bs) (O0 j now S d Bs) (AX j now S Bs keep) j (keep:Int) vB4 G3 F5 H4:=by
   unfold O0 GJ AX wU;rw[<-b1,<-e1];exact hs5
  have m1:∀x,x∈H1->x∈fB o G F H\/O.heap.size<=x:=λx A=>(dK.out.2 x A).imp (λh=>bY.2 (.inr (.inr (.inr h)))) id
  have m3:∀x,x∈G3->x∈fB o G F H\/O.heap.size<=x:=λx A=>(yw.out.2 x A).imp (λh=>bY.2 (.inr (.inl h))) λh=>le_trans dK.out.1.size h
  have m4:∀x,x∈H4->x∈fB o G F H\/O.heap.size<=x:=λx A=>by
   rcases q3 x A with h|h
   ·exact m1 x h
   ·exact .inr (le_trans (le_trans dK.out.1.size yw.out.1.size) h)
  refine⟨v,vB4,G3,F5,H4,rfl,hv,ĩ,((dK.out.1.trans yw.out.1 λx A=>.inl (bY.2 (.inr (.inl A)))).trans q2 λx A=>.inl (bY.2 (.inl (mem_singleton.1 A)))).trans hk5 λx A=>.inl (bY.2 (.inr (.inr (.inl A)))),λx A=>?_⟩;rcases bY.1 A with rfl|h|h|h
  ·exact .inl (bY.2 (.inl rfl))
  ·exact m3 x h
  ·rcases hF5 x h with h2|h2
   ·exact .inl (bY.2 (.inr (.inr (.inl h2))))
   ·exact .inr (le_trans (le_trans (le_trans dK.out.1.size yw.out.1.size) q2.size) h2)
  ·exact m4 x h
 obtain⟨C5,Z⟩:=bF (Jp (fF (rM 1099511627776 Y)) d);obtain⟨A5,LW⟩:=bF (Sb (fF (rM 1099511627776 Y)) d);rw[<-Z,<-LW] at VP;have HCA:Hid (GJ j now S Bs=fF (rM 1099511627776 Y)):=by
  show _=_;unfold GJ wU;rw[HS4.out.1,CK.out.1]
 have hn5:0<=C5:=by rw[Z];exact Yq _ _
 have HC5:=Ç (And.intro Z LW);rcases BA.out with⟨ÿ,ĳ⟩|⟨ÿ,hX7⟩
 ·subst ÿ;have J:yJ j now S d Bs=C5/\Jr j now S d Bs=A5:=by
   have h0:LU j now S=0:=by rw[<-HX.out];exact ĳ
   unfold yJ Jr;rw[if_neg (by simp[h0]),if_neg (by simp[h0]),HCA.out,HC5.out.1,HC5.out.2];exact⟨rfl,rfl⟩
  by_cases þ:C5=0
  ·obtain rfl:=VP.none þ;have U:Hid (AY j now S d Bs=(n1:Int)/\aM ea w5 .nilIface (yJ j now S d Bs) (Jr j now S d Bs)):=by
    refine⟨?_,.inl ⟨rfl,by rw[J.1];exact þ⟩⟩;unfold AY;rw[if_neg (by rw[J.1];simp[þ]),CK.out.2]
   go_wp2;go_ret2;have:=tC.out _ U.out.2;rw[U.out.1] at this ⊢;exact this
  ·obtain⟨tv,pv,rfl⟩:=mq VP þ;have U:Hid (AY j now S d Bs=0/\aM ea w5 (.iface tv (.pointer (some pv))) (yJ j now S d Bs) (Jr j now S d Bs)):=by
    refine⟨?_,by rw[J.1,J.2];exact VP⟩;unfold AY;rw[if_pos (by rw[J.1];exact þ)]
   go_wp2;go_ret2;have:=tC.out _ U.out.2;rw[U.out.1] at this ⊢;exact this
 ·subst ÿ;have U:Hid (AY j now S d Bs=0/\aM ea w5 (.iface 397 (.pointer (some (ea 6)))) (yJ j now S d Bs) (Jr j now S d Bs)):=by
   have h0:LU j now S≠0:=by rw[<-HX.out,hX7];decide
   have h7:yJ j now S d Bs=7:=by unfold yJ;rw[if_pos h0]
   have h8:Jr j now S d Bs = -1:=by unfold Jr;rw[if_pos h0]
   refine⟨?_,by rw[h7,h8];exact .es 6 lJ lJ⟩;unfold AY;rw[if_pos (by rw[h7];decide)]
  go_wp2;go_ret2;have:=tC.out _ U.out.2;rw[U.out.1] at this ⊢;exact this
theorem UG{ea:Nat->Addr}(w:World)(q:Nat)(z:w.cell? ⟨0,0,none⟩=some (.iface 397 (.pointer (some (ea 1)))))(now:Int)(h:now < -1099511627776\/1099511627776<now):
  Calls prog 42 #[.pointer (some ⟨q,0,none⟩),.int .i64 now] w λe w'=>e = .returned (.tuple #[.int .i64 0,.iface 397 (.pointer (some (ea 1)))])/\Below w.heap.size w w':=by
 by_cases j:now < -1099511627776
 ·have o:decide (now < -1099511627776)=true:=decide_eq_true j;go_enter func42,ntmps42;go_wp2_with fail;go_quiet (fail);go_wp2;go_ret2;exact⟨rfl,below_draws (Below.refl _ _) _⟩
 ·have o:decide (now < -1099511627776)=false:=decide_eq_false j;have A:=decide_eq_true fM;go_enter func42,ntmps42;go_wp2_with fail;go_quiet (fail);go_wp2;go_ret2;exact⟨rfl,below_draws (Below.refl _ _) _⟩
def AZ(x:List UInt8):List (List UInt8)->List (List UInt8)
 | []=>[x]
 | y::l=>if x<y then x::y::l else if x=y then y::l else y::AZ x l
theorem J7{x z:List UInt8}:∀ {l:List (List UInt8)},z∈AZ x l↔z=x\/z∈l
 | []=>by simp[AZ]
 | y::l=>by
  rw[AZ];by_cases h:x<y
  ·rw[if_pos h];simp
  ·rw[if_neg h];by_cases e:x=y
   ·rw[if_pos e];subst e;simp
   ·rw[if_neg e,mem_cons,J7,mem_cons];constructor
    ·rintro (h|h|h)
     ·exact .inr (.inl h)
     ·exact .inl h
     ·exact .inr (.inr h)
    ·rintro (h|h|h)
     ·exact .inr (.inl h)
     ·exact .inl h
     ·exact .inr (.inr h)
theorem VQ{x:List UInt8}:∀ {l:List (List UInt8)},l.Pairwise (· < ·)->(AZ x l).Pairwise (· < ·)
 | [],_=>by simp[AZ]
 | y::l,h=>by
  obtain⟨o,q⟩:=pairwise_cons.1 h;rw[AZ];by_cases g:x<y
  ·rw[if_pos g];refine pairwise_cons.2 ⟨λz j=>?_,h⟩;rcases mem_cons.1 j with rfl|j
   ·exact g
   ·exact List.lt_trans g (o z j)
  ·rw[if_neg g];by_cases e:x=y
   ·rw[if_pos e];exact h
   ·rw[if_neg e];refine pairwise_cons.2 ⟨λz j=>?_,VQ q⟩;rcases J7.1 j with rfl|j
    ·exact tri e g
    ·exact o z j
def tK(l:List (List UInt8)):List (List UInt8):=l.foldr AZ []
theorem J8{z:List UInt8}:∀ {l:List (List UInt8)},z∈tK l↔z∈l
 | []=>by simp[tK]
 | x::l=>by rw[tK,foldr_cons,J7,<-tK,J8,mem_cons]
theorem VR:∀(l:List (List UInt8)),(tK l).Pairwise (· < ·)
 | []=>List.Pairwise.nil
 | x::l=>by rw[tK,foldr_cons];exact VQ (VR l)
def oW(Bs:List Bk):List (List UInt8):=Bs.flatMap λb=>b.2.2.map Prod.fst
def Dl(S:List Sr)(Bs:List Bk):List (List UInt8):=tK (oW Bs++bZ S)
def qo(wr:World)(mb nb:Nat)(l:List (List UInt8)):Prop:=∃D,wr.ownsMap prog 9 fO mb nb D/\∀k,Maps.has D (.string k)=decide (k∈l)
theorem qo.lt{wr:World}{j q:Nat}{l:List (List UInt8)}(h:qo wr j q l):j<wr.heap.size:=by
 obtain⟨D,o,_⟩:=h;exact o.lt
theorem qo.same{wr w':World}{j o:Nat}{l:List (List UInt8)}(h:qo wr j o l)(A:w'.heap[j]? = wr.heap[j]?):qo w' j o l:=by
 obtain⟨D,q,z⟩:=h;exact⟨D,jv q A,z⟩
theorem qo.put{wr:World}{o q:Nat}{l:List (List UInt8)}(h:qo wr o q l)(s:ByteArray)(F:s.size<=1000)(O:q<4000000):
  ∃j,(Instr.mapUpdate 261 (.map (some o)) (.string s) (.agg #[])).run prog wr = .ok () j/\qo j o (q+1) (l ++ [s.data.toList])/\Kept [o] wr j:=by
 obtain⟨D,A,G⟩:=h;obtain⟨j,J,H,K⟩:=A.update qI underlying261 (show q<maxLen by unfold maxLen;omega) (vR s F) (val:=.agg #[]) (d:=.held (.agg #[])) (ps:=[]) rfl;have I:=qI.key (vR s F);refine⟨j,J,⟨_,H,λk=>?_⟩,Kept.grown K λk z=>by injection z with z;rw[z];exact mem_singleton.2 rfl⟩;by_cases e:s.data.toList=k
 ·subst e;rw[has_put_same A.isMap I];simp
 ·rw[has_put_other (λh=>e (by injection h with h;exact h.symm)),G];refine decide_eq_decide.2 ⟨λh=>mem_append.2 (.inl h),λh=>?_⟩;rcases mem_append.1 h with h|h
  ·exact h
  ·exact absurd (mem_singleton.1 h).symm e
theorem qo.sorted{wr:World}{I J:Nat}{l:List (List UInt8)}{D:DataW Value}(j:wr.ownsMap prog 9 fO I J D)(o:∀k,Maps.has D (.string k)=decide (k∈l)){ss:List (List UInt8)}(H:ss.Perm (strKeys D)):ss.mergeSort (λx y=>decide (x<=y))=tK l/\ss.length=(tK l).length:=by
 have A:=VR l;have O:(tK l).Nodup:=A.imp fun {a b} z e=>absurd (e ▸ z) (List.lt_irrefl _)
 have G:Collected D (λ_=>false) (tK l):=⟨O,λx=>by rw[o x,J8];simp⟩;have F:=H.trans (G.perm j qI underlying9 λ_=>rfl).symm;refine⟨?_,F.length_eq⟩;have K:∀a b c:List UInt8,leB a b=true->leB b c=true->leB a c=true:=λa b c j o=>by simp only[leB,decide_eq_true_eq] at *;exact List.le_trans j o
 have q:∀a b:List UInt8,(leB a b||leB b a)=true:=λa b=>by simp only[leB,Bool.or_eq_true,decide_eq_true_eq];exact List.le_total a b
 refine List.Perm.eq_of_pairwise (le:=λa b=>leB a b=true) (λa b _ _ j o=>?_) (pairwise_mergeSort K q ss) (A.imp fun {a b} z=>by simp only[leB,decide_eq_true_eq];exact List.le_of_lt z) ((mergeSort_perm ss leB).trans F);simp only[leB,decide_eq_true_eq] at j o;exact List.le_antisymm j o
theorem abd(w o:World)(sb hb db:Nat)(S:List Sr)(d:Dk)(Bs:List Bk)(span keep:Int)(vB:Value)(G F H:List Nat)(h:fE w o sb hb db S d Bs span keep vB G F H)(hn:Bs.length<=1000)(hl:∀b,b∈Bs->b.2.2.length<=1000/\∀r,r∈b.2.2->r.1.length<=1000)(ZP:S.length<=1000):
  Calls prog 114 #[.pointer (some ⟨sb,0,none⟩)] o λe w'=>∃v,e = .returned v/\w'.ownsRow o.heap.size 9 1 v (Dl S Bs).length ((Dl S Bs).map encStr)/\Below o.heap.size o w':=by
 obtain⟨vs,Ϯ,_,fT,ë⟩:=h.uZ.ex;obtain⟨aB,cB,hvB⟩:=bB fT;subst hvB;obtain⟨n,Ϝ⟩:=bF Bs.length;obtain⟨W1,ä⟩:=bF (o.alloc (.map #[] 0));have Ϗ:Below o.heap.size o W1:=by rw[ä];exact (Below.refl _ _).alloc (le_refl _) _
 have hmm:=@run_makeMap prog;have x4:W1.cell? ⟨sb,4,none⟩=some (.slice aB n cB):=by rw[Ϝ];exact ak ((Ϗ.block _ (aC h.blk)).trans h.blk) 4
 rw[<-Ϝ] at fT hn;have VK:=Ç fT;have Qx:=Ç ë;have OX:=Ç (And.intro Ϝ Ϯ);have CJ:=Ç hl;have BI:=Ç h;have HW1:=Ç ä;have bQ:=Ç Ϗ;have H0:Hid (qo W1 o.heap.size 0 (oW (Bs.take 0))):=by
  rw[ä];exact⟨.map [],World.ownsMap_made o _ _ _,λ_=>rfl⟩
 have HSM:Hid (∀k,(oW (Bs.take k)).length<=k*1000):=λk=>by
  have z:∀l:List Bk,(∀b,b∈l->b.2.2.length<=1000)->(oW l).length<=l.length*1000:=λl=>by
   induction l with
   | nil=>intro _;exact zero_le _
   | cons a l ih=>
    intro h;have h2:=ih λr hr=>h r (mem_cons_of_mem _ hr)
    have h3:=h a (mem_cons_self ..);show (oW (a::l)).length<=_;unfold oW at *;rw[flatMap_cons,length_append,length_map,length_cons];omega
  refine le_trans (z _ λb hb=>(hl b (mem_of_mem_take hb)).1) ?_;exact Nat.mul_le_mul_right _ (length_take_le ..)
 clear h fT ë Ϝ Ϯ hl ä Ϗ;go_enter func114,ntmps114;go_upto_region 2 with fail;rw[<-HW1.out];go_wp2_with fail;go_loopw [16] (λi wr=>∃(k A:Nat),k<=n/\i = .int .i64 (k:Int)/\qo wr o.heap.size A (oW (Bs.take k))/\A=(oW (Bs.take k)).length/\Below o.heap.size o wr) (λi _=>n-(intOf i).toNat);case atStart=>exact⟨0,0,zero_le _,rfl,H0.out,rfl,bQ.out⟩
 case round=>
  obtain⟨wk,hwk⟩:=bF wr;subst hwk;obtain⟨k,A,hk,rfl,Ž,Τ,ϙ⟩:=hrel;have y9:=Ç Ž;have bA:=Ç ϙ;by_cases ϣ:k<n
  ·obtain⟨Ϝ,Ϯ⟩:=OX.out;have ź:k<Bs.length:=fM;obtain⟨g,p1,t1,p2,t2,rfl,y0,y1,y2,y3,r1,r2⟩:=GH VK.out Ϝ Ϯ Qx.out ϙ k ź;obtain⟨f,hf⟩:=bF (Bs[k].1);obtain⟨s,hs⟩:=bF (Bs[k].2.1);obtain⟨m,I⟩:=bF (Bs[k].2.2.length);obtain⟨J,Ū⟩:=bF (Bs[k].2.2.map Prod.fst);rw[<-hf] at y0;rw[<-hs] at y1;rw[<-I] at y2 y3;rw[<-Ū,<-I] at r1;have Ĳ:m=J.length:=by rw[Ū,length_map,I]
   have ajH:∀x,x∈J->x.length<=1000:=λx z=>by
    rw[Ū] at z;obtain⟨r,hr,rfl⟩:=mem_map.1 z;exact (CJ.out _ (getElem_mem ź)).2 r hr
   have Ę:m<=1000:=by rw[I];exact (CJ.out _ (getElem_mem ź)).1
   obtain⟨W,hW⟩:=bF (wk.alloc (.cells #[.int .i64 f,.int .i64 s,.slice p1 m t1,.slice p2 m t2] 114));have Ϗ:Below wk.heap.size wk W:=by rw[hW];exact (Below.refl _ _).alloc (le_refl _) _
   have vw:W.heap[wk.heap.size]? = some (.cells #[.int .i64 f,.int .i64 s,.slice p1 m t1,.slice p2 m t2] 114 (0,0)):=by rw[hW];exact heap_alloc_new _ _
   have z2:=ak vw 2;simp at z2;have HW:Hid (∀wx,wx=wk.alloc (.cells #[.int .i64 f,.int .i64 s,.slice p1 m t1,.slice p2 m t2] 114)->wx=W):=λwx h=>h.trans hW.symm
   have aoK:=Ç Ϗ;have HR1:=Ç (aX r1 Ϗ);have KY:Hid (qo W o.heap.size (A+0) (oW (Bs.take k)++J.take 0)):=by
    rw[take_zero,append_nil];exact Ž.same (Ϗ.block _ Ž.lt)
   have iI:=Ç (And.intro Ū (And.intro Ĳ (And.intro ź ajH)));have lW:=Ç (ϙ.trans (Ϗ.mono ϙ.size));have ajI:=Ž.lt;have k0:(0:Int)<=k:=fM;have k1:(k:Int)<n:=fM;clear Ž ϙ hf hs I Ū Ĳ ajH hW Ϗ vw r1 r2 Ϝ Ϯ;go_upto_region 5 with fail;rw[HW.out _ rfl];go_wp2_with fail;go_loopw [23] (λj wr=>∃q,q<=m/\j = .int .i64 (q:Int)/\qo wr o.heap.size (A+q) (oW (Bs.take k)++J.take q)/\Kept [o.heap.size] W wr) (λj _=>m-(intOf j).toNat);case atStart=>exact⟨0,zero_le _,rfl,KY.out,Kept.refl _ _⟩
   case round=>
    obtain⟨q,hq,rfl,Y,Ĥ⟩:=hrel;by_cases Q:q<m
    ·have Sn:q<J.length:=by rw[<-iI.out.2.1];exact Q
     obtain⟨V,Z,U⟩:=zK HR1.out q Sn Q;subst Z;obtain⟨R,Þ⟩:=bF (⟨(J[q]).toArray⟩:ByteArray);rw[<-Þ] at U;have O:V≠o.heap.size:=λe=>by
      obtain⟨D,⟨es,clock,I,_⟩,_⟩:=y9.out;have z:=(aoK.out.block _ ajI).trans I;rw[e] at U;simp[World.cell?,z] at U
     have ř:=World.block_lt_of_cell? W ⟨V,_,none⟩ U;have y0:wr.cell? ⟨V,q,none⟩=some (.string R):=by
      have z:=Ĥ.block V ř (by simpa using O);rw[<-U];simp[World.cell?,z]
     have â:R.size<=1000:=by
      have e:R.size=J[q].length:=by rw[Þ];simp[ByteArray.size]
      rw[e];exact iI.out.2.2.2 _ (getElem_mem Sn)
     have ady:A+q<4000000:=by
      have:=HSM.out k;have:k*1000<=1000000:=fM;omega
     obtain⟨w6,Ϭ,Sq,OW⟩:=Y.put R â ady;have K:Hid (qo w6 o.heap.size (A+(q+1)) (oW (Bs.take k)++J.take (q+1))/\Kept [o.heap.size] W w6):=by
      refine⟨?_,Ĥ.trans OW λx hx=>.inl hx⟩;have Z:R.data.toList=J[q]:=by rw[Þ]
      rw[take_succ_eq_append_getElem Sn,<-append_assoc,<-Z];exact Sq
     have q0:(0:Int)<=q:=fM;have q1:(q:Int)<m:=fM;clear Y Ĥ Sq OW Þ U O ř â;go_wp2;go_roundw;case rel=>exact⟨q+1,fM,rU,K.out.1,K.out.2⟩
     case measure=>simp[intOf]<;>omega
    ·obtain rfl:q=m:=fM;have K:Hid (qo wr o.heap.size (A+q) (oW (Bs.take (k+1)))/\A+q=(oW (Bs.take (k+1))).length/\Below o.heap.size o wr):=by
      obtain⟨z,h2,h3,_⟩:=iI.out;have Z:oW (Bs.take (k+1))=oW (Bs.take k)++J:=by
       rw[take_succ_eq_append_getElem h3,z];unfold oW;rw[flatMap_append];simp
      have jB:J.take q=J:=by rw[h2];exact take_length
      rw[jB] at Y;rw[Z];refine⟨Y,by rw[length_append,<-Τ,<-h2],lW.out.trans (Ĥ.below lW.out.size λx hx=>by rw[mem_singleton.1 hx];exact le_refl _)⟩
     go_wp2;go_roundw;case rel=>exact⟨k+1,A+q,fM,rU,K.out.1,K.out.2.1,K.out.2.2⟩
     case measure=>simp[intOf]<;>omega
  ·obtain rfl:k=n:=fM;have jB:Bs.take k=Bs:=by rw[OX.out.1];exact take_length
   rw[jB] at Ž Τ;have ϖ:=BI.out.same (BI.out.aI.trans (ϙ.mono BI.out.aI.size)) λx hx=>ϙ.block x (BI.out.lt hx).2
   have z0:=ak ϖ.blk 0;simp at z0;have jN:=Ç (Gs w wk hb S G ϖ.hd ZP);have Rh:=Ç (And.intro Ž Τ);have asa:A<=1000000:=by have:=HSM.out k;rw[jB] at this;omega
   go_wp2_with fail;refine Calls.mono jN.out ?_;rintro e w3 ⟨v3,rfl,Ϛ,Ŀ⟩;obtain⟨a5,OB,rfl⟩:=bB Ŀ;obtain⟨N,hN⟩:=bF (bZ S);obtain⟨m,I⟩:=bF N.length;rw[<-hN,<-I] at Ŀ;rw[<-hN,<-I];have Ę:m<=1000:=by
    rw[I,hN];exact le_trans (by unfold bZ;rw[length_map];exact length_filter_le _ _) ZP
   have hNs:∀x,x∈N->x.length<=1000:=λx z=>by
    rw[hN] at z;obtain⟨l,hl,Ö,_⟩:=ig.1 z;obtain⟨_,_,_,_,Ê⟩:=BI.out.hd.ex;have h2:=Ê.len l hl;rw[Ö] at h2;exact h2
   have HR3:=Ç Ŀ;have HB3:=Ç Ϛ;have KY:Hid (qo w3 o.heap.size (A+0) (oW Bs++N.take 0)):=by
    rw[take_zero,append_nil];exact Rh.out.1.same (Ϛ.block _ Rh.out.1.lt)
   have iI:=Ç (And.intro hN (And.intro I hNs));have ajI:=Rh.out.1.lt;clear Ϛ Ŀ hN I hNs jN z0;go_wp2_with fail;go_loopw [39] (λj wr=>∃q,q<=m/\j = .int .i64 (q:Int)/\qo wr o.heap.size (A+q) (oW Bs++N.take q)/\Kept [o.heap.size] w3 wr) (λj _=>m-(intOf j).toNat);case atStart=>exact⟨0,zero_le _,rfl,KY.out,Kept.refl _ _⟩
   case round=>
    obtain⟨q,hq,rfl,Y,Ĥ⟩:=hrel;by_cases Q:q<m
    ·have Sn:q<N.length:=by rw[<-iI.out.2.1];exact Q
     obtain⟨V,Z,U⟩:=zK HR3.out q Sn Q;subst Z;obtain⟨R,Þ⟩:=bF (⟨(N[q]).toArray⟩:ByteArray);rw[<-Þ] at U;have ř:=World.block_lt_of_cell? w3 ⟨V,_,none⟩ U;have O:V≠o.heap.size:=λe=>by
      have z:=(aH HR3.out (show Value.ownBlock _=some V from rfl)).1;omega
     have y0:wr.cell? ⟨V,q,none⟩=some (.string R):=by
      have z:=Ĥ.block V ř (by simpa using O);rw[<-U];simp[World.cell?,z]
     have â:R.size<=1000:=by
      have e:R.size=N[q].length:=by rw[Þ];simp[ByteArray.size]
      rw[e];exact iI.out.2.2 _ (getElem_mem Sn)
     obtain⟨w6,Ϭ,Sq,OW⟩:=Y.put R â fM;have K:Hid (qo w6 o.heap.size (A+(q+1)) (oW Bs++N.take (q+1))/\Kept [o.heap.size] w3 w6):=by
      refine⟨?_,Ĥ.trans OW λx hx=>.inl hx⟩;have Z:R.data.toList=N[q]:=by rw[Þ]
      rw[take_succ_eq_append_getElem Sn,<-append_assoc,<-Z];exact Sq
     have q0:(0:Int)<=q:=fM;have q1:(q:Int)<m:=fM;clear Y Ĥ Sq OW Þ U O ř â;go_wp2;go_roundw;case rel=>exact⟨q+1,fM,rU,K.out.1,K.out.2⟩
     case measure=>simp[intOf]<;>omega
    ·obtain rfl:q=m:=fM;have jB:N.take q=N:=by rw[iI.out.2.1];exact take_length
     rw[jB,iI.out.1] at Y;obtain⟨D,ĕ,hD2⟩:=Y;have Y:=ĕ.size_le;have Ò:Below o.heap.size o wr:=by
      have z:=bA.out.trans (HB3.out.mono bA.out.size);exact z.trans (Ĥ.below z.size λx hx=>by rw[mem_singleton.1 hx];exact le_refl _)
     have LX:=Ç (Pt o.heap.size (A+q) D fO wr ĕ (by unfold maxLen;omega) fM);have Lr:=Ç (Uz (some o.heap.size) wr);have HD:=Ç (And.intro ĕ (And.intro hD2 Ò));go_wp2_with fail;refine Calls.mono Lr.out ?_;rintro e w7 ⟨rfl,hw7⟩;subst hw7;go_wp2_with fail;refine Calls.mono LX.out ?_;rintro e w8 ⟨v8,ss,rfl,ų,ho8,_,hb8⟩;obtain⟨hsrt,ę⟩:=qo.sorted HD.out.1 HD.out.2.1 ų;rw[hsrt,ę] at ho8;have K:Hid (w8.ownsRow o.heap.size 9 1 v8 (Dl S Bs).length ((Dl S Bs).map encStr)/\Below o.heap.size o w8):=by
      have z:o.heap.size<=(wr.alloc (.cells #[.map (some o.heap.size)] 261)).heap.size:=by
       have:=HD.out.2.2.size;simp
       omega
      refine⟨iC ho8 z,(HD.out.2.2.trans ?_).trans (hb8.mono z)⟩;exact ((Below.refl _ _).alloc (le_refl _) _).mono HD.out.2.2.size
     go_wp2;go_ret;exact⟨v8,rfl,K.out.1,K.out.2⟩
